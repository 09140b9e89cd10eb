/-
  No cell of these rows narrows 'for every input' (looked for: loops, veiled, ifaces, maps, wideKeys, modest, calm, conditions, laid).
  DERIVED. THE GIVEN ROWS OF THIS SEAT. 3 by the template 'for every input the law returns true; each argument reads behind the call as it read before'; 0 by the template 'total and deterministic' (their statements: YtpmknkagnkagpaaTotals.lean).
  GIVEN WITH THE SEED: the statements are not yours to turn. If you find one false, say at which input.
  Laid BY PROGRAM, IN A SANDBOX (cutbox-rows.mjs): the forced cells as the released guide's own fill.sh prints them over the translation cda6e488cb4b45bb… (all of the seat's roots in one cut). By AI agents, Wed Nov 11 2026. No macro, syntax, notation, axiom, sorry.
-/
import Derived.Test.YtpmknkagnkagpaaChecked
import GoSem.Claim
import GoSem.ClaimJoined
import GoSem.ClaimMapViews
import Derived.JoinedTies
import Derived.KernelRfl
namespace Go.Proofs.Ytpmknkagnkagpaa
/- THE CELL 'sum', in the pinned program and in every row, IS THE sha256 OF THE DUMP (.gsa) THAT YtpmknkagnkagpaaProg.lean LOADS. Nothing in Lean hashes anything: it is a label: what it is worth is what the hold of that sum in a sandbox is worth. -/
noncomputable def Try.pinned : Pinned := { name := "ytpmknkagnkagpaa", sum := "cda6e488cb4b45bb5b49616a32f441f8ec84fb62a45c5a7a863565ac86e9fe49", checked := Try.checked }
namespace Rows
def none {H : Type} : Left H := { results := [], args := [] }

/-- 'anchoritelaw12.MeasureSteps': WHATEVER THE INPUT: true; the input reads as it did. -/
def measureStepsSpec : ChangeSpec := { name := "measureSteps", fn := fun _ => fun
  | [d1, d2, d3, d4, d5, d6, d7] => { results := [.lit (.bool true)], args := [d1, d2, d3, d4, d5, d6, d7] }
  | _ => none }
def measureStepsRow : OpenClaim := { program := "ytpmknkagnkagpaa", sum := "cda6e488cb4b45bb5b49616a32f441f8ec84fb62a45c5a7a863565ac86e9fe49", func := "anchorite/anchoritelaw12.MeasureSteps", spec := "measureSteps", inPlace := ["math/bits.Add64"], unfollowed := true, recurses := true, plainKeys := false, apart := false }
def MeasureStepsSaid : Prop := measureStepsRow.holds Try.pinned (OpenSpec.ofChange measureStepsSpec)

/-- ITS FALSE NEIGHBOUR: 'it returns false'. Refute it at one input. -/
def measureStepsWrong : ChangeSpec := { name := "measureSteps", fn := fun _ => fun
  | [d1, d2, d3, d4, d5, d6, d7] => { results := [.lit (.bool false)], args := [d1, d2, d3, d4, d5, d6, d7] }
  | _ => none }
def MeasureStepsWrongFalsely : Prop := measureStepsRow.holds Try.pinned (OpenSpec.ofChange measureStepsWrong)

/-- 'anchoritelaw12.MeasureApart': WHATEVER THE INPUT: true; the input reads as it did. -/
def measureApartSpec : ChangeSpec := { name := "measureApart", fn := fun _ => fun
  | [d1, d2, d3] => { results := [.lit (.bool true)], args := [d1, d2, d3] }
  | _ => none }
def measureApartRow : OpenClaim := { program := "ytpmknkagnkagpaa", sum := "cda6e488cb4b45bb5b49616a32f441f8ec84fb62a45c5a7a863565ac86e9fe49", func := "anchorite/anchoritelaw12.MeasureApart", spec := "measureApart", unfollowed := true, recurses := true, plainKeys := false, apart := false }
def MeasureApartSaid : Prop := measureApartRow.holds Try.pinned (OpenSpec.ofChange measureApartSpec)

/-- ITS FALSE NEIGHBOUR: 'it returns false'. Refute it at one input. -/
def measureApartWrong : ChangeSpec := { name := "measureApart", fn := fun _ => fun
  | [d1, d2, d3] => { results := [.lit (.bool false)], args := [d1, d2, d3] }
  | _ => none }
def MeasureApartWrongFalsely : Prop := measureApartRow.holds Try.pinned (OpenSpec.ofChange measureApartWrong)

/-- 'anchoritelaw12.MeasureNil': WHATEVER THE INPUT: true; the input reads as it did. -/
def measureNilSpec : ChangeSpec := { name := "measureNil", fn := fun _ => fun
  | [] => { results := [.lit (.bool true)], args := [] }
  | _ => none }
def measureNilRow : OpenClaim := { program := "ytpmknkagnkagpaa", sum := "cda6e488cb4b45bb5b49616a32f441f8ec84fb62a45c5a7a863565ac86e9fe49", func := "anchorite/anchoritelaw12.MeasureNil", spec := "measureNil", unfollowed := true, recurses := true, plainKeys := false, apart := false }
def MeasureNilSaid : Prop := measureNilRow.holds Try.pinned (OpenSpec.ofChange measureNilSpec)

/-- ITS FALSE NEIGHBOUR: 'it returns false'. Refute it at one input. -/
def measureNilWrong : ChangeSpec := { name := "measureNil", fn := fun _ => fun
  | [] => { results := [.lit (.bool false)], args := [] }
  | _ => none }
def MeasureNilWrongFalsely : Prop := measureNilRow.holds Try.pinned (OpenSpec.ofChange measureNilWrong)

/- THE SECOND FORM. 'bulk': how many values and letters a reading holds, each counted each time it is reached (what is shared counts as often as it is met; a slice's spare places count too). A statement '..UptoSaid' is the law's where the arguments, and the package variables that the reading takes, are together of bulk at most 1048576: NARROWER than '..Said'. Prove '..Said' where nothing that the law and all that it calls make is longer than what came in: it says more and counts as full. Else prove '..UptoSaid'. A law counts once. -/
mutual
def uptoBulk {H : Type} : DataW H → Nat
  | .lit (.string bytes) => bytes.length + 1
  | .lit _ => 1
  | .nil => 1
  | .ptr d => uptoBulk d + 1
  | .slice elems spare => uptoBulkAll elems + uptoBulkAll spare + 1
  | .agg parts => uptoBulkAll parts + 1
  | .iface _ d => uptoBulk d + 1
  | .map entries => uptoBulkEntries entries + 1
  | .held _ => 1
def uptoBulkAll {H : Type} : List (DataW H) → Nat
  | [] => 0
  | d :: r => uptoBulk d + uptoBulkAll r
def uptoBulkEntries {H : Type} : List (Lit × DataW H) → Nat
  | [] => 0
  | x :: r => uptoBulkEntry x + uptoBulkEntries r
def uptoBulkEntry {H : Type} : Lit × DataW H → Nat
  | (.string bytes, d) => bytes.length + uptoBulk d + 1
  | (_, d) => uptoBulk d + 1
 end
def uptoSmall : (H : Type) → List (DataW H) → Bool := fun _ ds => decide (uptoBulkAll ds ≤ 1048576)
def OpenSpec.upto (s : _root_.Go.ChangeSpec) : _root_.Go.OpenSpec := { _root_.Go.OpenSpec.ofChange s with cond := some uptoSmall }

/-- 'anchoritelaw12.MeasureSteps', WHERE WHAT IT READS IS OF BULK AT MOST 1048576: true; the input reads as it did. -/
def measureStepsUptoRow : OpenClaim := { program := "ytpmknkagnkagpaa", sum := "cda6e488cb4b45bb5b49616a32f441f8ec84fb62a45c5a7a863565ac86e9fe49", func := "anchorite/anchoritelaw12.MeasureSteps", spec := "measureSteps", inPlace := ["math/bits.Add64"], unfollowed := true, recurses := true, plainKeys := false, apart := false, narrowed := true }
def MeasureStepsUptoSaid : Prop := measureStepsUptoRow.holds Try.pinned (OpenSpec.upto measureStepsSpec)

/-- 'anchoritelaw12.MeasureApart', WHERE WHAT IT READS IS OF BULK AT MOST 1048576: true; the input reads as it did. -/
def measureApartUptoRow : OpenClaim := { program := "ytpmknkagnkagpaa", sum := "cda6e488cb4b45bb5b49616a32f441f8ec84fb62a45c5a7a863565ac86e9fe49", func := "anchorite/anchoritelaw12.MeasureApart", spec := "measureApart", unfollowed := true, recurses := true, plainKeys := false, apart := false, narrowed := true }
def MeasureApartUptoSaid : Prop := measureApartUptoRow.holds Try.pinned (OpenSpec.upto measureApartSpec)

/-- 'anchoritelaw12.MeasureNil', WHERE WHAT IT READS IS OF BULK AT MOST 1048576: true; the input reads as it did. -/
def measureNilUptoRow : OpenClaim := { program := "ytpmknkagnkagpaa", sum := "cda6e488cb4b45bb5b49616a32f441f8ec84fb62a45c5a7a863565ac86e9fe49", func := "anchorite/anchoritelaw12.MeasureNil", spec := "measureNil", unfollowed := true, recurses := true, plainKeys := false, apart := false, narrowed := true }
def MeasureNilUptoSaid : Prop := measureNilUptoRow.holds Try.pinned (OpenSpec.upto measureNilSpec)

end Rows
end Go.Proofs.Ytpmknkagnkagpaa
