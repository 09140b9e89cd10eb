/-
  No cell of these rows narrows 'for every input' (looked for: loops, veiled, ifaces, maps, wideKeys, modest, calm, conditions, laid).
  DERIVED. THE GIVEN ROWS OF THIS SEAT. 2 by the template 'for every input the law returns true; each argument reads behind the call as it read before'; 0 by the template 'total and deterministic' (their statements: YtbmmibmfjhehhaaGreatTotals.lean).
  GIVEN WITH THE SEED: the statements are not yours to turn. If you find one false, say at which input.
  Laid BY PROGRAM, IN A SANDBOX (cutbox-rows.mjs): the forced cells as the released guide's own fill.sh prints them over the translation 7b5386fe1ee47169… (all of the seat's roots in one cut). By AI agents, Wed Nov 11 2026. No macro, syntax, notation, axiom, sorry.
-/
import Derived.Test.YtbmmibmfjhehhaaGreatChecked
import GoSem.Claim
import GoSem.ClaimJoined
import GoSem.ClaimMapViews
import Derived.JoinedTies
import Derived.KernelRfl
namespace Go.Proofs.YtbmmibmfjhehhaaGreat
/- THE CELL 'sum', in the pinned program and in every row, IS THE sha256 OF THE DUMP (.gsa) THAT YtbmmibmfjhehhaaGreatProg.lean LOADS. Nothing in Lean hashes anything: it is a label: what it is worth is what the hold of that sum in a sandbox is worth. -/
noncomputable def Tryz.pinned : Pinned := { name := "ytbmmibmfjhehhaagreat", sum := "7b5386fe1ee47169832c6eadf4addc499e3ff166f88446fe025e6a0e2afe98b1", checked := Tryz.checked }
namespace Rows
def none {H : Type} : Left H := { results := [], args := [] }

/-- 'anchoritelaw16.BlobSeals': WHATEVER THE INPUT: true; the input reads as it did. -/
def blobSealsSpec : ChangeSpec := { name := "blobSeals", fn := fun _ => fun
  | [d1, d2, d3, d4, d5] => { results := [.lit (.bool true)], args := [d1, d2, d3, d4, d5] }
  | _ => none }
def blobSealsRow : OpenClaim := { program := "ytbmmibmfjhehhaagreat", sum := "7b5386fe1ee47169832c6eadf4addc499e3ff166f88446fe025e6a0e2afe98b1", func := "anchorite/anchoritelaw16.BlobSeals", spec := "blobSeals", inPlace := ["math/bits.Add64"], unfollowed := true, recurses := true, plainKeys := false, apart := false }
def BlobSealsSaid : Prop := blobSealsRow.holds Tryz.pinned (OpenSpec.ofChange blobSealsSpec)

/-- ITS FALSE NEIGHBOUR: 'it returns false'. Refute it at one input. -/
def blobSealsWrong : ChangeSpec := { name := "blobSeals", fn := fun _ => fun
  | [d1, d2, d3, d4, d5] => { results := [.lit (.bool false)], args := [d1, d2, d3, d4, d5] }
  | _ => none }
def BlobSealsWrongFalsely : Prop := blobSealsRow.holds Tryz.pinned (OpenSpec.ofChange blobSealsWrong)

/-- 'anchoritelaw16.BlobLeaves': WHATEVER THE INPUT: true; the input reads as it did. -/
def blobLeavesSpec : ChangeSpec := { name := "blobLeaves", fn := fun _ => fun
  | [d1, d2, d3, d4] => { results := [.lit (.bool true)], args := [d1, d2, d3, d4] }
  | _ => none }
def blobLeavesRow : OpenClaim := { program := "ytbmmibmfjhehhaagreat", sum := "7b5386fe1ee47169832c6eadf4addc499e3ff166f88446fe025e6a0e2afe98b1", func := "anchorite/anchoritelaw16.BlobLeaves", spec := "blobLeaves", inPlace := ["math/bits.Add64"], unfollowed := true, recurses := true, plainKeys := false, apart := false }
def BlobLeavesSaid : Prop := blobLeavesRow.holds Tryz.pinned (OpenSpec.ofChange blobLeavesSpec)

/-- ITS FALSE NEIGHBOUR: 'it returns false'. Refute it at one input. -/
def blobLeavesWrong : ChangeSpec := { name := "blobLeaves", fn := fun _ => fun
  | [d1, d2, d3, d4] => { results := [.lit (.bool false)], args := [d1, d2, d3, d4] }
  | _ => none }
def BlobLeavesWrongFalsely : Prop := blobLeavesRow.holds Tryz.pinned (OpenSpec.ofChange blobLeavesWrong)

/- THE SECOND FORM. 'bulk': how many values and letters a reading holds, each counted each time it is reached (what is shared counts as often as it is met; a slice's spare places count too). A statement '..UptoSaid' is the law's where the arguments, and the package variables that the reading takes, are together of bulk at most 1048576: NARROWER than '..Said'. Prove '..Said' where nothing that the law and all that it calls make is longer than what came in: it says more and counts as full. Else prove '..UptoSaid'. A law counts once. -/
mutual
def uptoBulk {H : Type} : DataW H → Nat
  | .lit (.string bytes) => bytes.length + 1
  | .lit _ => 1
  | .nil => 1
  | .ptr d => uptoBulk d + 1
  | .slice elems spare => uptoBulkAll elems + uptoBulkAll spare + 1
  | .agg parts => uptoBulkAll parts + 1
  | .iface _ d => uptoBulk d + 1
  | .map entries => uptoBulkEntries entries + 1
  | .held _ => 1
def uptoBulkAll {H : Type} : List (DataW H) → Nat
  | [] => 0
  | d :: r => uptoBulk d + uptoBulkAll r
def uptoBulkEntries {H : Type} : List (Lit × DataW H) → Nat
  | [] => 0
  | x :: r => uptoBulkEntry x + uptoBulkEntries r
def uptoBulkEntry {H : Type} : Lit × DataW H → Nat
  | (.string bytes, d) => bytes.length + uptoBulk d + 1
  | (_, d) => uptoBulk d + 1
 end
def uptoSmall : (H : Type) → List (DataW H) → Bool := fun _ ds => decide (uptoBulkAll ds ≤ 1048576)
def OpenSpec.upto (s : _root_.Go.ChangeSpec) : _root_.Go.OpenSpec := { _root_.Go.OpenSpec.ofChange s with cond := some uptoSmall }

/-- 'anchoritelaw16.BlobSeals', WHERE WHAT IT READS IS OF BULK AT MOST 1048576: true; the input reads as it did. -/
def blobSealsUptoRow : OpenClaim := { program := "ytbmmibmfjhehhaagreat", sum := "7b5386fe1ee47169832c6eadf4addc499e3ff166f88446fe025e6a0e2afe98b1", func := "anchorite/anchoritelaw16.BlobSeals", spec := "blobSeals", inPlace := ["math/bits.Add64"], unfollowed := true, recurses := true, plainKeys := false, apart := false, narrowed := true }
def BlobSealsUptoSaid : Prop := blobSealsUptoRow.holds Tryz.pinned (OpenSpec.upto blobSealsSpec)

/-- 'anchoritelaw16.BlobLeaves', WHERE WHAT IT READS IS OF BULK AT MOST 1048576: true; the input reads as it did. -/
def blobLeavesUptoRow : OpenClaim := { program := "ytbmmibmfjhehhaagreat", sum := "7b5386fe1ee47169832c6eadf4addc499e3ff166f88446fe025e6a0e2afe98b1", func := "anchorite/anchoritelaw16.BlobLeaves", spec := "blobLeaves", inPlace := ["math/bits.Add64"], unfollowed := true, recurses := true, plainKeys := false, apart := false, narrowed := true }
def BlobLeavesUptoSaid : Prop := blobLeavesUptoRow.holds Tryz.pinned (OpenSpec.upto blobLeavesSpec)

end Rows
end Go.Proofs.YtbmmibmfjhehhaaGreat
