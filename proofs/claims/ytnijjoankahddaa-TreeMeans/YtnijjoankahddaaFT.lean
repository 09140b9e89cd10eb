/- tree: the statements' distinct; leaves that came in. -/
import Derived.Test.YtnijjoankahddaaFS
import Derived.Test.YtnijjoankahddaaDW
import Derived.ChangeOld
import Derived.WalkKit
import Derived.ProofKit
import Derived.OpenShut
import Derived.Deep.Slices
set_option linter.unusedVariables false
set_option linter.unusedSimpArgs false
namespace Go.Proofs.Ytnijjoankahddaa.DC
open Go.RowKit

theorem eql_d (w : World) (a b : List UInt8) (ha : a.length = 32) (hb : b.length = 32) : (binOp .eql 23 (.agg (a.map B8).toArray) (.agg (b.map B8).toArray)).run Try.prog w = .ok (.bool (a == b)) w :=
  run_eql_bytes (P := Try.prog) w 23 5 32 Try.underlying23 Try.underlying5 MC.size_u8 a b ha hb
theorem at31 (l : List UInt8) (h : l.length = 32) : (l.map B8)[31]? = some (B8 (l.getD 31 0)) := by
  have h31 : 31 < l.length := by omega
  rw [List.getElem?_map, List.getD, List.getElem?_eq_getElem h31]; rfl
/-- How distinct ends. -/
def DsEnd (D : List (List UInt8)) (w : World) (e : Ending) (w' : World) : Prop := ∃ b : Bool, e = .returned (.bool b) ∧ (b = true → dst D) ∧ Below w.heap.size w w'
set_option maxHeartbeats 2000000 in
set_option maxRecDepth 100000 in
theorem distinct_any (v : Value) (D : List (List UInt8)) (w : World) (hn : D.length < 1000000) (hd : R5.HDs w v D) : Calls Try.prog 16 #[v] w fun e w' => DsEnd D w e w' := by
  obtain ⟨hdl, p, cap, rfl, hrow⟩ := hd
  have HDL : Hid (∀ i, i < D.length → (D.getD i []).length = 32) := fun i hi => by
    rw [List.getD, List.getElem?_eq_getElem hi]; exact hdl _ (List.getElem_mem hi)
  have HROW : Hid (∀ i, i < D.length → ∃ b o, p = some ⟨b, o, none⟩ ∧ w.rangeAt b (o + i * 32) ((D.getD i []).map B8)) := hrow
  obtain ⟨n, hnn⟩ : ∃ n, n = D.length := ⟨_, rfl⟩
  rw [← hnn] at hn HROW HDL ⊢
  have HN : Hid (n = D.length) := hnn
  clear hdl hrow hnn
  go_enter Try.func16, Try.ntmps16
  go_wp2
  go_loopw [3] (fun v wr => ∃ i : Nat, i ≤ n ∧ v = .int .i64 i ∧ Below w.heap.size w wr ∧ (∀ i', i' < i → ∀ k, k < i' → D.getD i' [] ≠ D.getD k []) ∧ ∀ i', i' < i → (D.getD i' []).getD 31 0 ≠ 1) (fun v _ => n - (intOf v).toNat)
  case atStart => exact ⟨0, Nat.zero_le _, rfl, Below.refl _ _, fun i' h => by omega, fun i' h => by omega⟩
  case round =>
    generalize wr = X at *
    obtain ⟨i, hi, rfl, hb, hdd, hd1⟩ := hrel
    have HB : Hid (Below w.heap.size w X) := hb
    have HDD : Hid (∀ i', i' < i → ∀ k, k < i' → D.getD i' [] ≠ D.getD k []) := hdd
    have HD1 : Hid (∀ i', i' < i → (D.getD i' []).getD 31 0 ≠ 1) := hd1
    clear hb hdd hd1
    by_cases hlt : i < n
    · have hiI : (i : Int) < (n : Int) := by omega
      obtain ⟨b, o, hp, hri⟩ := HROW.out i hlt
      subst hp
      have HRI : Hid (w.rangeAt b (o + i * 32) ((D.getD i []).map B8)) := hri
      have HLI : Hid ((D.getD i []).length = 32) := HDL.out i hlt
      have HII : Hid _ := R5.info32 ((D.getD i []).map B8) (by simpa using HLI.out)
      clear hri
      go_wp2
      go_loopw [4] (fun v wr => ∃ k : Nat, k ≤ i ∧ v = .int .i64 k ∧ Below w.heap.size w wr ∧ ∀ k', k' < k → D.getD i [] ≠ D.getD k' []) (fun v _ => i - (intOf v).toNat)
      case atStart => exact ⟨0, Nat.zero_le _, rfl, HB.out, fun k' h => by omega⟩
      case round =>
        obtain ⟨k, hk, rfl, hb2, hd2⟩ := hrel
        have HD2 : Hid (∀ k', k' < k → D.getD i [] ≠ D.getD k' []) := hd2
        have HBD : Hid (Below w.heap.size w wr.drew) := hb2.drew
        have HB2 : Hid (Below w.heap.size w wr) := hb2
        clear hb2 hd2
        by_cases hkl : k < i
        · have hkI : (k : Int) < (i : Int) := by omega
          have hkn : (k : Int) < (n : Int) := by omega
          obtain ⟨b', o', hp', hrk⟩ := HROW.out k (by omega)
          obtain ⟨rfl, rfl⟩ : b = b' ∧ o = o' := by simpa using hp'
          have HRK : Hid (w.rangeAt b (o + k * 32) ((D.getD k []).map B8)) := hrk
          have HLK : Hid ((D.getD k []).length = 32) := HDL.out k (by omega)
          have HKI : Hid _ := R5.info32 ((D.getD k []).map B8) (by simpa using HLK.out)
          have heq := fun W => eql_d W (D.getD k []) (D.getD i []) HLK.out HLI.out
          clear hp' hrk
          obtain ⟨c, hc⟩ : ∃ c, c = (D.getD k [] == D.getD i []) := ⟨_, rfl⟩
          rw [← hc] at heq
          have HC : Hid (c = (D.getD k [] == D.getD i [])) := hc
          have HRL : Hid (c = false → ∀ k', k' < k + 1 → D.getD i [] ≠ D.getD k' []) := fun h0 k' h => by
            rcases Nat.lt_or_ge k' k with h1 | h1
            · exact HD2.out k' h1
            · rw [show k' = k by omega]
              intro e
              rw [HC.out, e] at h0
              simp at h0
          clear hc HC
          generalize (D.getD k []).map B8 = AK at *
          generalize (D.getD i []).map B8 = AI at *
          have HEQ : Hid (∀ W, (binOp .eql 23 (.agg AK.toArray) (.agg AI.toArray)).run Try.prog W = .ok (.bool c) W) := heq
          clear heq
          go_wp2
          refine wp_region_held_drew (S := fun X => Below w.heap.size w X) (by kernel_rfl) HBD.out (fun hHeld => ?_)
          generalize wr.drew = Y at *
          refine wpAnyH_take (i := 0) (oi := { dst := some 16, op := Go.Op.move (Go.Operand.tmp 0), type := 24, pos := _, after := #[], guard := none }) (v := .slice (some ⟨b, o, none⟩) n cap) rfl (by kernel_rfl) (by kernel_rfl) (by kernel_rfl) (fun _ _ _ h => h) (Or.inl ⟨by rfl, fun w' hw' => ?_⟩) hHeld ?_
          · first | (go_simp; done) | (go_simp; rfl)
          try simp only [Act.put, List.setIfInBounds_toArray, List.set_cons_zero, List.set_cons_succ]
          refine wpAnyH_take (i := 1) (oi := { dst := some 17, op := Go.Op.move (Go.Operand.tmp 4), type := 3, pos := _, after := #[], guard := none }) (v := .int .i64 (k : Int)) rfl (by kernel_rfl) (by kernel_rfl) (by kernel_rfl) (fun _ _ _ h => h) (Or.inl ⟨by rfl, fun w' hw' => ?_⟩) hHeld ?_
          · first | (go_simp; done) | (go_simp; rfl)
          try simp only [Act.put, List.setIfInBounds_toArray, List.set_cons_zero, List.set_cons_succ]
          refine wpAnyH_take (i := 2) (oi := { dst := some 18, op := Go.Op.indexAddr 24 (Go.Operand.tmp 16) (Go.Operand.tmp 17), type := 0, pos := _, after := #[{ on := 0, ground := Go.Ground.data }, { on := 1, ground := Go.Ground.data }], guard := none }) (v := .pointer (some ⟨b, o + k * 32, none⟩)) rfl (by kernel_rfl) (by kernel_rfl) (by kernel_rfl) (fun _ _ _ h => h) (Or.inl ⟨by rfl, fun w' hw' => ?_⟩) hHeld ?_
          · first | (go_simp; done) | (go_simp; rfl)
          try simp only [Act.put, List.setIfInBounds_toArray, List.set_cons_zero, List.set_cons_succ]
          refine wpAnyH_take (i := 3) (oi := { dst := some 19, op := Go.Op.load 23 (Go.Operand.tmp 18), type := 23, pos := _, after := #[{ on := 2, ground := Go.Ground.data }], guard := none }) rfl (by kernel_rfl) (by kernel_rfl) (by kernel_rfl) (fun _ _ _ h => h) (yieldsIf_load_mid (by rfl) 23 (.tmp 18) rfl (b) (o + k * 32) rfl (AK) _ (fun _ h => MC.rangeAt_below HRK.out h) Try.underlying23 rfl HKI.out) hHeld ?_
          try simp only [Act.put, List.setIfInBounds_toArray, List.set_cons_zero, List.set_cons_succ]
          refine wpAnyH_take (i := 4) (oi := { dst := some 20, op := Go.Op.move (Go.Operand.tmp 0), type := 24, pos := _, after := #[], guard := none }) (v := .slice (some ⟨b, o, none⟩) n cap) rfl (by kernel_rfl) (by kernel_rfl) (by kernel_rfl) (fun _ _ _ h => h) (Or.inl ⟨by rfl, fun w' hw' => ?_⟩) hHeld ?_
          · first | (go_simp; done) | (go_simp; rfl)
          try simp only [Act.put, List.setIfInBounds_toArray, List.set_cons_zero, List.set_cons_succ]
          refine wpAnyH_take (i := 5) (oi := { dst := some 21, op := Go.Op.move (Go.Operand.tmp 3), type := 3, pos := _, after := #[], guard := none }) (v := .int .i64 (i : Int)) rfl (by kernel_rfl) (by kernel_rfl) (by kernel_rfl) (fun _ _ _ h => h) (Or.inl ⟨by rfl, fun w' hw' => ?_⟩) hHeld ?_
          · first | (go_simp; done) | (go_simp; rfl)
          try simp only [Act.put, List.setIfInBounds_toArray, List.set_cons_zero, List.set_cons_succ]
          refine wpAnyH_take (i := 6) (oi := { dst := some 22, op := Go.Op.indexAddr 24 (Go.Operand.tmp 20) (Go.Operand.tmp 21), type := 0, pos := _, after := #[{ on := 4, ground := Go.Ground.data }, { on := 5, ground := Go.Ground.data }], guard := none }) (v := .pointer (some ⟨b, o + i * 32, none⟩)) rfl (by kernel_rfl) (by kernel_rfl) (by kernel_rfl) (fun _ _ _ h => h) (Or.inl ⟨by rfl, fun w' hw' => ?_⟩) hHeld ?_
          · first | (go_simp; done) | (go_simp; rfl)
          try simp only [Act.put, List.setIfInBounds_toArray, List.set_cons_zero, List.set_cons_succ]
          refine wpAnyH_take (i := 7) (oi := { dst := some 23, op := Go.Op.load 23 (Go.Operand.tmp 22), type := 23, pos := _, after := #[{ on := 6, ground := Go.Ground.data }], guard := none }) rfl (by kernel_rfl) (by kernel_rfl) (by kernel_rfl) (fun _ _ _ h => h) (yieldsIf_load_mid (by rfl) 23 (.tmp 22) rfl (b) (o + i * 32) rfl (AI) _ (fun _ h => MC.rangeAt_below HRI.out h) Try.underlying23 rfl HII.out) hHeld ?_
          try simp only [Act.put, List.setIfInBounds_toArray, List.set_cons_zero, List.set_cons_succ]
          have heq := HEQ.out
          refine wpAnyH_take (i := 8) (oi := { dst := some 24, op := Go.Op.binOp Go.BinOp.eql 23 (Go.Operand.tmp 19) (Go.Operand.tmp 23) 23, type := 4, pos := _, after := #[{ on := 3, ground := Go.Ground.data }, { on := 7, ground := Go.Ground.data }], guard := none }) (v := .bool c) rfl (by kernel_rfl) (by kernel_rfl) (by kernel_rfl) (fun _ _ _ h => h) (Or.inl ⟨by rfl, fun w' hw' => ?_⟩) hHeld ?_
          · first | (go_simp; done) | (go_simp; rfl)
          try simp only [Act.put, List.setIfInBounds_toArray, List.set_cons_zero, List.set_cons_succ]
          refine wpAnyH_done (by kernel_rfl) ?_ _
          have HB3 : Hid (Below w.heap.size w Y) := hHeld
          clear hHeld heq
          cases hcc : c with
          | true =>
            subst hcc
            go_wp2
            go_ret
            exact ⟨false, rfl, (fun h => by cases h), HB3.out⟩
          | false =>
            subst hcc
            go_wp2
            go_roundw
            case rel => exact ⟨k + 1, by omega, by go_num, HB3.out, HRL.out rfl⟩
            case measure => simp [intOf]; omega
        · have hke : k = i := by omega
          subst hke
          have hkI : ¬ (k : Int) < (k : Int) := by omega
          obtain ⟨y, hy⟩ : ∃ y, y = (D.getD k []).getD 31 0 := ⟨_, rfl⟩
          have hc31 : wr.cell? ⟨b, o + k * 32 + 31, none⟩ = some (.int .u8 (y.toNat : Int)) := by
            have h3 := (MC.rangeAt_below HRI.out HB2.out) 31 (B8 y) (by rw [hy]; exact at31 _ HLI.out)
            exact h3
          have HY : Hid (y = (D.getD k []).getD 31 0) := hy
          have hyl : y.toNat < 256 := y.toNat_lt
          clear hy HBD
          by_cases h1 : y = 1
          · have hy1 : ((y.toNat : Int) == 1) = true := by rw [h1]; rfl
            clear h1
            go_wp2
            go_ret
            exact ⟨false, rfl, (fun h => by cases h), HB2.out⟩
          · have hy1 : ((y.toNat : Int) == 1) = false := by
              rw [beq_eq_false_iff_ne]
              intro e
              apply h1
              apply UInt8.toNat_inj.1
              have : y.toNat = 1 := by omega
              rw [this]; rfl
            have HRL : Hid (∀ i', i' < k + 1 → ∀ k', k' < i' → D.getD i' [] ≠ D.getD k' []) := fun i' h => by
              rcases Nat.lt_or_ge i' k with h2 | h2
              · exact HDD.out i' h2
              · rw [show i' = k by omega]; exact HD2.out
            have HRM : Hid (∀ i', i' < k + 1 → (D.getD i' []).getD 31 0 ≠ 1) := fun i' h => by
              rcases Nat.lt_or_ge i' k with h2 | h2
              · exact HD1.out i' h2
              · rw [show i' = k by omega, ← HY.out]; exact h1
            have H1 : Hid (¬ y = 1) := h1
            clear h1
            go_wp2
            go_roundw
            case rel => exact ⟨k + 1, by omega, by go_num, HB2.out, HRL.out, HRM.out⟩
            case measure => simp [intOf]; omega
    · have hie : i = n := by omega
      subst hie
      have hiI : ¬ (i : Int) < (i : Int) := by omega
      go_wp2
      go_ret
      exact ⟨true, rfl, fun _ => ⟨fun i' h => HDD.out i' (by have := HN.out; omega), fun i' h => HD1.out i' (by have := HN.out; omega)⟩, HB.out⟩
/-- A leaf's cells; leaves that can be read. -/
def lfL (x : Int × List UInt8) : List Value := .int .i64 x.1 :: x.2.map B8
def HLf (w : World) (v : Value) (ls : List (Int × List UInt8)) : Prop := ∃ p cap, v = .slice p ls.length cap ∧ ∀ i x, ls[i]? = some x → x.2.length = 32 ∧ ∃ b o, p = some ⟨b, o, none⟩ ∧ w.rangeAt b (o + i * 33) (lfL x)
section
open Go.ChangeShapes Go.WideShapes Go.ChangeAt
variable {H : Type} {enc : TypeId × Value → H} {w : World} {base : Nat} {held : Bool}
set_option maxRecDepth 100000 in
theorem lf_split {l : List Value} (h : l.length = 33) : l = (l.drop 0).take 1 ++ (l.drop 1).take 32 := by
  rw [List.drop_zero, List.take_of_length_le (l := l.drop 1) (by simp [h]), List.take_append_drop]
set_option maxRecDepth 100000 in
theorem open_leaf {cs : List Value} {fuel : Nat} {x : DataW H × List MemPlace} (h : DataW.trod enc Try.prog w base (fun _ => true) held fuel 46 cs = some x) : ∃ y : Int × List UInt8, cs = lfL y ∧ y.2.length = 32 := by
  cases fuel with
  | zero => simp [DataW.trod] at h
  | succ m =>
    rw [DataW.trod_step] at h
    unfold DataW.trodStep at h
    simp only [Try.underlying46] at h
    have hcell : Try.prog.cellsOf 46 = 33 := by kernel_rfl
    have c1 : Try.prog.cellsOf 23 = 32 := by kernel_rfl
    have c3 : Try.prog.cellsOf 3 = 1 := by kernel_rfl
    by_cases hl : cs.length = Try.prog.cellsOf 46
    · rw [if_pos hl] at h
      simp only [Option.map_eq_some_iff, List.mapM_cons, List.mapM_nil, bind, Option.bind_eq_some_iff, pure, Option.some.injEq, c1, c3] at h
      obtain ⟨ys, ⟨y0, h0, z0, ⟨y1, h1, _⟩, _⟩, _⟩ := h
      rw [hcell] at hl
      obtain ⟨n, e0, _⟩ := DataW.trod_int Try.underlying3 h0
      obtain ⟨l1, p1⟩ := open_arr Try.underlying23 Try.underlying5 c1 (by kernel_rfl) h1
      obtain ⟨ms, e1⟩ := cells_u8 _ p1
      have hm : ms.length = 32 := by rw [e1, List.length_map] at l1; exact l1
      have hs := lf_split hl
      rw [e0, e1] at hs
      exact ⟨(n, ms), hs, hm⟩
    · rw [if_neg hl] at h; cases h
set_option maxRecDepth 100000 in
theorem open_leaves {a : Option Addr} {len cap : Nat} {fuel : Nat} {x : DataW H × List MemPlace} (h : DataW.trod enc Try.prog w base (fun _ => true) held fuel 29 [.slice a len cap] = some x) : ∃ ls, HLf w (.slice a len cap) ls ∧ ls.length ≤ 9223372036854775807 := by
  have hcell : Try.prog.cellsOf 46 = 33 := by kernel_rfl
  rcases Go.Deep.open_slice Try.underlying29 h with ⟨hcs, _⟩ | ⟨ad, len', cap', m, n, D, Pl, hcs, hb, hl, hm, hmm, _, hr⟩
  · simp only [List.cons.injEq, and_true, Value.slice.injEq] at hcs
    obtain ⟨rfl, rfl, rfl⟩ := hcs
    exact ⟨[], ⟨none, 0, rfl, fun i x hx => by simp at hx⟩, by decide⟩
  · simp only [List.cons.injEq, and_true, Value.slice.injEq] at hcs
    obtain ⟨rfl, rfl, rfl⟩ := hcs
    simp only [if_true] at hmm
    rw [hcell] at hr
    obtain ⟨g, o, sp⟩ := ad
    have hsp : 0 < len → sp = none := fun h0 => by
      obtain ⟨cs', h1, _⟩ := hr 0 (by omega)
      exact spot_none (by omega) h1
    obtain ⟨ls, h1, h2⟩ := choose_nat (n := len) (p := fun i (y : Int × List UInt8) => w.rangeAt g (o + i * 33) (lfL y) ∧ y.2.length = 32) (fun i hi => by
      obtain ⟨cs', h1, h2⟩ := hr i (by omega)
      obtain ⟨y, e1, e2⟩ := open_leaf h2
      have hs := hsp (by omega)
      subst hs
      have hadd : (⟨g, o, none⟩ : Addr).add (i * 33) = ⟨g, o + i * 33, none⟩ := by unfold Addr.add; split <;> simp_all
      rw [hadd] at h1
      exact ⟨y, by rw [← e1]; exact cells_range h1, e2⟩)
    refine ⟨ls, ⟨some ⟨g, o, sp⟩, cap, by rw [h1], fun i x hx => ?_⟩, by unfold maxLen at hm; omega⟩
    have hi := (List.getElem?_eq_some_iff.1 hx).1
    exact ⟨(h2 i x hx).2, g, o, by rw [hsp (by omega)], (h2 i x hx).1⟩
end
end Go.Proofs.Ytnijjoankahddaa.DC
