/- cpu: what CpuLines wants to know of lists of instructions. -/
import Derived.Test.YtkpjfhphohanlabDoorNE
set_option linter.unusedVariables false
set_option linter.unusedSimpArgs false
namespace Go.Proofs.YtkpjfhphohanlabDoor.JC

/-- The instructions of a list that are some. -/
def oks (l : List Ins) : List Ins := l.filter may
/-- Their words, their lines. -/
def wds (l : List Ins) : List Int := (oks l).map wrd
def tls (l : List Ins) : List (List UInt8) := (oks l).map txt
theorem oks_may {l : List Ins} {i : Ins} (h : i ∈ oks l) : may i = true := (List.mem_filter.1 h).2
theorem oks_snoc (l : List Ins) (i : Ins) : oks (l ++ [i]) = if may i = true then oks l ++ [i] else oks l := by
  unfold oks
  rw [List.filter_append]
  cases h : may i <;> simp [h]
theorem wds_snoc (l : List Ins) (i : Ins) : wds (l ++ [i]) = if may i = true then wds l ++ [wrd i] else wds l := by
  unfold wds; rw [oks_snoc]; split <;> simp
theorem tls_snoc (l : List Ins) (i : Ins) : lt_ (tls (l ++ [i])) = if may i = true then lt_ (tls l) ++ (txt i ++ [10]) else lt_ (tls l) := by
  unfold tls; rw [oks_snoc]
  split
  · rw [List.map_append]; exact lt_snoc _ _
  · rfl
theorem wds_len (l : List Ins) : (wds l).length ≤ l.length := by unfold wds oks; rw [List.length_map]; exact List.length_filter_le _ _
theorem tls_len (l : List Ins) : (lt_ (tls l)).length ≤ 61 * l.length := by
  have h := lt_len (tls l) (fun x hx => by
    obtain ⟨i, hi, rfl⟩ := List.mem_map.1 hx
    exact txt_len (oks_may hi))
  have h2 : (tls l).length ≤ l.length := by unfold tls oks; rw [List.length_map]; exact List.length_filter_le _ _
  omega
theorem lsW_map : ∀ {l : List Ins}, (∀ i ∈ l, may i = true) → lsW (l.map wrd) = some (l.map txt)
  | [], _ => rfl
  | i :: r, h => by
    rw [List.map_cons, List.map_cons]
    unfold lsW
    rw [dec_wrd (h i (List.mem_cons_self ..)), lsW_map (fun j hj => h j (List.mem_cons_of_mem _ hj))]
theorem lsW_wds (l : List Ins) : lsW (wds l) = some (tls l) := lsW_map fun i hi => oks_may hi
theorem wds_u64 (l : List Ins) : ∀ x ∈ wds l, u64 x := fun x hx => by
  obtain ⟨i, hi, rfl⟩ := List.mem_map.1 hx
  have hm := oks_may hi
  have e := wrd_eq hm
  obtain ⟨m1, m2, m3, m4, m5, m6, m7, m8, m9, m10⟩ := may_bd hm
  constructor <;> omega
/-- What Listing makes of the words; the lines of the text are the words again. -/
theorem wds_ls (l : List Ins) : lsRes (wds l) = .tuple #[sV (lt_ (tls l)), .int .i64 0] := by unfold lsRes; rw [lsW_wds]
theorem wds_back (l : List Ins) : lns (lt_ (tls l)) = tls l ∧ gd (tls l) = wds l ∧ okL (tls l) = true := back_ok (wds_u64 l) (lsW_wds l)
/-- A register that is not told of stays. -/
theorem doR_seven (s : St) (i : Ins) (ld : Int) (hm : may i = true → i.d ≠ 7) : (doR s i ld).1.rs.getD 7 0 = s.rs.getD 7 0 := by
  unfold doR
  split
  case isTrue h =>
    have hd := hm h
    obtain ⟨m1, m2, m3, m4, m5, m6, m7, m8, m9, m10⟩ := may_bd h
    have hn : i.d.toNat ≠ 7 := by omega
    have hs : (s.rs.set i.d.toNat (rk i.op.toNat (IntKind.u64.wrap i.imm) ld (s.rs.getD i.a.toNat 0) (s.rs.getD i.b.toNat 0))).getD 7 0 = s.rs.getD 7 0 := by
      simp [List.getD, List.getElem?_set_ne hn]
    unfold doS
    repeat' split
    all_goals first | rfl | exact hs | (unfold St.go St.jump; rfl) | (unfold St.br; split <;> rfl) | (unfold St.br St.go St.jump; split <;> rfl)
  case isFalse => rfl
end Go.Proofs.YtkpjfhphohanlabDoor.JC
