/- report: two reports held against each other, bytes that came in, a bit that is turned. -/
import Derived.Test.YtpklboicgjpmeaaDoorTw
import Derived.Test.YtpklboicgjpmeaaDoorTv
import Derived.ChangeOld
import Derived.ChangeMaps5
import Derived.Deep.Slices
import Derived.Laws.BitsAllLaws
set_option linter.unusedVariables false
set_option linter.unusedSimpArgs false
namespace Go.Proofs.YtpklboicgjpmeaaDoor.RB
open Go.ChangeShapes Go.WideShapes Go.ChangeAt Go.RowKit

theorem gRp : Tryd.prog.eqGuardType Tryd.prog.depth 26 = false := by kernel_rfl
theorem rp_ge (x y : Operand) (xs ys : Array Value) (W : World) : (eqGuard .eql 26 x y (.agg xs) (.agg ys)).run Tryd.prog W = .ok () W := by
  unfold eqGuard
  simp [gRp]
theorem rp_gn (x y : Operand) (xs ys : Array Value) (W : World) : (eqGuard .neq 26 x y (.agg xs) (.agg ys)).run Tryd.prog W = .ok () W := by
  unfold eqGuard
  simp [gRp]
theorem rp_eq (a b : Rp) (ha : a.ok) (hb : b.ok) (W : World) : (binOp .eql 26 (.agg (rL a).toArray) (.agg (rL b).toArray)).run Tryd.prog W = .ok (.bool (rpE a b)) W := by
  show ((do pure (.bool (← Op.equalIn 10000 26 (.agg (rL a).toArray) (.agg (rL b).toArray))) : Sem Value)).run Tryd.prog W = _
  simp [eq_rp W a b ha hb]
theorem rp_ne (a b : Rp) (ha : a.ok) (hb : b.ok) (W : World) : (binOp .neq 26 (.agg (rL a).toArray) (.agg (rL b).toArray)).run Tryd.prog W = .ok (.bool (!rpE a b)) W := by
  show ((do pure (.bool (!(← Op.equalIn 10000 26 (.agg (rL a).toArray) (.agg (rL b).toArray)))) : Sem Value)).run Tryd.prog W = _
  simp [eq_rp W a b ha hb]
theorem RS.add {w X Y : World} {rows : List (Nat × TypeId × List Value)} {g : Nat} {t : TypeId} {L : List Value} (h : RS w rows X) (hb : Below X.heap.size X Y) (hg : X.heap.size ≤ g) (hr : Y.heap[g]? = some (.cells L.toArray t (0, 0))) : RS w ((g, t, L) :: rows) Y := by
  have hs := h.step hb
  refine ⟨hs.bel, fun r hr' => ?_, ?_, fun r hr' => ?_⟩
  · rcases List.mem_cons.1 hr' with rfl | hr'
    · exact Nat.le_trans h.bel.size hg
    · exact h.low r hr'
  · rw [List.map_cons, List.nodup_cons]
    refine ⟨fun hm => ?_, h.nd⟩
    obtain ⟨r, hr', e⟩ := List.mem_map.1 hm
    have := row_lt (h.row r hr')
    rw [e] at this
    have h2 : g < X.heap.size := this
    omega
  · rcases List.mem_cons.1 hr' with rfl | hr'
    · exact hr
    · exact hs.row r hr'
theorem run_stB (w : World) (b k : Nat) (OL : List Value) (t : TypeId) (hrow : w.heap[b]? = some (.cells OL.toArray t (0, 0))) (hk : k < OL.length) (x : Int) : (Instr.storeAt 5 (.pointer (some ⟨b, k, none⟩)) (.int .u8 x)).run Tryd.prog w = .ok () (w.setCell ⟨b, k, none⟩ (.int .u8 x)) := by
  have hc := cell_of_row w b k _ _ _ hrow
  rw [List.getElem?_toArray, List.getElem?_eq_getElem hk] at hc
  have hf := frozen_of_row _ _ k _ _ hrow
  generalize OL[k] = ov at *
  unfold Instr.storeAt Instr.sureAddr
  go_simp
/-- Numbers as bytes. -/
def toBytes (zs : List Int) : List UInt8 := zs.map fun n => UInt8.ofNat n.toNat
theorem toBytes_cell {n : Int} (h : (Lit.int .u8 n).wf = true) : ((UInt8.ofNat n.toNat).toNat : Int) = n := by
  have := bounds_u8 h
  simp; omega
theorem toBytes_len (zs : List Int) (n : Nat) : (toBytes (zs.take n)).length ≤ n := by simp [toBytes]; omega
theorem hb_of_row {w : World} {a : Addr} {len cap : Nat} {zs : List Int} (hl : len ≤ cap) (hm : cap ≤ maxLen) (hz : zs.length = cap) (hc : ∀ i, i < cap → w.cell? (a.add i) = some (.int .u8 (zs.getD i 0))) (hw : ∀ n ∈ zs, (Lit.int .u8 n).wf = true) :
    HB w (.slice (some a) len cap) (toBytes (zs.take len)) := by
  have hlen : (toBytes (zs.take len)).length = len := by simp [toBytes]; omega
  by_cases h0 : len = 0
  · subst h0
    exact .inl ⟨by simp [toBytes], some a, cap, rfl, fun h => by cases h⟩
  · obtain ⟨b, off, spot⟩ := a
    have hspot : spot = none := by simpa [Addr.add] using World.cell?_spot (hc 0 (by omega))
    subst hspot
    refine .inr ⟨b, off, cap, by rw [hlen], by omega, hm, fun i hi => ?_⟩
    rw [hlen] at hi
    have := hc i (by omega)
    rw [add_none] at this
    rw [this]
    have hiz : i < zs.length := by omega
    have hg : zs.getD i 0 = zs[i] := by simp [List.getD, List.getElem?_eq_getElem hiz]
    have hg2 : (toBytes (zs.take len)).getD i 0 = UInt8.ofNat (zs[i]).toNat := by
      simp [toBytes, List.getD, List.getElem?_take_of_lt hi, List.getElem?_eq_getElem hiz]
    rw [hg, hg2, toBytes_cell (hw _ (List.getElem_mem hiz))]
section
variable {H : Type} {enc : TypeId × Value → H} {w : World} {base : Nat} {held : Bool}
theorem open_bytes {v : Value} {fuel : Nat} {x : DataW H × List MemPlace} (h : DataW.trod enc Tryd.prog w base (fun _ => true) held fuel 28 [v] = some x) : ∃ l, HB w v l ∧ l.length ≤ 9223372036854775807 := by
  rcases open_ints Tryd.underlying28 Tryd.underlying5 (by kernel_rfl) h with ⟨hcs, _⟩ | ⟨a, len, cap, zs, hcs, _, hl, hm, hz, _, hc, hw⟩
  · simp only [List.cons.injEq, and_true] at hcs
    subst hcs
    exact ⟨[], .inl ⟨rfl, none, 0, rfl, fun _ => rfl⟩, by decide⟩
  · simp only [List.cons.injEq, and_true] at hcs
    subst hcs
    simp only [if_true] at hz
    exact ⟨_, hb_of_row hl hm hz (fun i hi => hc i (by omega)) hw, by have := toBytes_len zs len; unfold maxLen at hm; omega⟩
end
theorem hb_slice {w : World} {u : Value} {l : List UInt8} (h : HB w u l) : ∃ p cap, u = .slice p l.length cap := by
  rcases h with ⟨rfl, p, cap, rfl, _⟩ | ⟨b, o, cap, rfl, _⟩
  · exact ⟨p, cap, rfl⟩
  · exact ⟨_, cap, rfl⟩
/-- The bytes of which bit k is turned. -/
def flp (l : List UInt8) (k : Nat) : List UInt8 := l.set (k / 8) (l.getD (k / 8) 0 ^^^ UInt8.ofNat (2 ^ (k % 8)))
theorem flp_len (l : List UInt8) (k : Nat) : (flp l k).length = l.length := by simp [flp]
theorem pow_lt8 {j : Nat} (h : j < 8) : 2 ^ j < 256 ∧ 0 < 2 ^ j := by
  have : j = 0 ∨ j = 1 ∨ j = 2 ∨ j = 3 ∨ j = 4 ∨ j = 5 ∨ j = 6 ∨ j = 7 := by omega
  rcases this with rfl | rfl | rfl | rfl | rfl | rfl | rfl | rfl <;> decide
theorem flp_ne {l : List UInt8} {k : Nat} (h : k / 8 < l.length) : flp l k ≠ l := fun e => by
  have h1 : (flp l k)[k / 8]? = some (l.getD (k / 8) 0 ^^^ UInt8.ofNat (2 ^ (k % 8))) := by unfold flp; rw [List.getElem?_set_self h]
  rw [e, List.getElem?_eq_getElem h] at h1
  have h2 : l.getD (k / 8) 0 = l[k / 8] := by simp [List.getD, List.getElem?_eq_getElem h]
  rw [h2, Option.some.injEq] at h1
  have h3 : UInt8.ofNat (2 ^ (k % 8)) = 0 := by
    have := congrArg (fun z => l[k / 8] ^^^ z) h1
    simp only [UInt8.xor_self, ← UInt8.xor_assoc, UInt8.zero_xor] at this
    exact this.symm
  have h4 := congrArg UInt8.toNat h3
  have h5 := pow_lt8 (j := k % 8) (by omega)
  rw [UInt8.toNat_ofNat_of_lt' (by have := h5.1; simpa using this)] at h4
  have : UInt8.toNat 0 = 0 := rfl
  omega
theorem flp_name {a q : Rp} {k : Nat} (ha : a.ok) (hq : q.ok) (hk : k < 64) : byt q ≠ flp (byt a) k := fun e => by
  have h0 : k / 8 < 8 := by omega
  have hl := byt_len ha
  have h1 : (byt q)[k / 8]? = nameB[k / 8]? := by unfold byt; rw [List.getElem?_append_left (by exact h0)]
  have h2 : (byt a)[k / 8]? = nameB[k / 8]? := by unfold byt; rw [List.getElem?_append_left (by exact h0)]
  refine flp_ne (l := byt a) (k := k) (by omega) (List.ext_getElem? fun j => ?_)
  by_cases hj : j = k / 8
  · subst hj; rw [← e, h1, h2]
  · unfold flp; rw [List.getElem?_set_ne (fun h => hj h.symm)]
theorem flp_br {a : Rp} {k : Nat} (ha : a.ok) (hk : k < 64) : BR (flp (byt a) k) r0 false := .inr ⟨rfl, rfl, fun q hq e => flp_name ha hq hk e⟩
theorem byt_rdB {l : List UInt8} (h : l.length = 80) (hn : l.take 8 = nameB) : byt (rdB l) = l := by
  unfold byt rdB
  simp only
  have e1 : W1.le 8 (W1.num ((l.drop 8).take 8)) = (l.drop 8).take 8 := by
    have := W1.le_num ((l.drop 8).take 8)
    rw [show ((l.drop 8).take 8).length = 8 by simp [h]] at this
    exact this
  have e3 : (l.drop 48).take 32 = l.drop 48 := List.take_of_length_le (by simp [h])
  rw [e1, ← hn, e3, show l.drop 48 = (l.drop 16).drop 32 by rw [List.drop_drop], List.take_append_drop, show l.drop 16 = (l.drop 8).drop 8 by rw [List.drop_drop], List.take_append_drop, List.take_append_drop]
theorem flp_yes {a : Rp} {k : Nat} (ha : a.ok) (h1 : 64 ≤ k) (h2 : k < 640) : BR (flp (byt a) k) (rdB (flp (byt a) k)) true ∧ byt (rdB (flp (byt a) k)) = flp (byt a) k ∧ rdB (flp (byt a) k) ≠ a := by
  have hl : (flp (byt a) k).length = 80 := by rw [flp_len, byt_len ha]
  have hn : (flp (byt a) k).take 8 = nameB := by
    unfold flp
    rw [List.take_set_of_le (by omega)]
    rfl
  have hb := byt_rdB hl hn
  exact ⟨br_yes hl hb, hb, fun e => by rw [e] at hb; exact flp_ne (l := byt a) (k := k) (by rw [byt_len ha]; omega) hb.symm⟩
theorem xor_u8 (x p : UInt8) : bits .xor .u8 (x.toNat : Int) (p.toNat : Int) = (((x ^^^ p).toNat : Nat) : Int) := by
  rw [u8_xor_nat _ _ (by have := x.toNat_lt; omega) (by have := p.toNat_lt; omega)]
  simp
theorem shl_1 (j : Nat) (h : j < 8) (W : World) : (binOp .shl 5 (.int .u8 1) (.int .u64 (j : Int))).run Tryd.prog W = .ok (.int .u8 (((UInt8.ofNat (2 ^ j)).toNat : Nat) : Int)) W := by
  have : j = 0 ∨ j = 1 ∨ j = 2 ∨ j = 3 ∨ j = 4 ∨ j = 5 ∨ j = 6 ∨ j = 7 := by omega
  rcases this with rfl | rfl | rfl | rfl | rfl | rfl | rfl | rfl <;> first | (go_simp; done) | (go_simp; rfl) | rfl
end Go.Proofs.YtpklboicgjpmeaaDoor.RB
