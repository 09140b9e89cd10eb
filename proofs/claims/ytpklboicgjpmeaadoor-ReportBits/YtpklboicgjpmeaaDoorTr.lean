/- report: a text's words, gone over. -/
import Derived.Test.YtpklboicgjpmeaaDoorTq
import Derived.Lib.IndexLaws
import Derived.RangeFuncFrom
import Derived.RangeFuncMany
import Derived.RangeFuncLeaves
import Derived.OwnWalkIn
import Derived.TacticsInMore
import Derived.RegionIn
import Derived.LoopNIn
import Derived.LoopIn
import Derived.RangeFuncWrites
import Derived.RangeFuncCalls
set_option linter.unusedVariables false
set_option linter.unusedSimpArgs false
namespace Go.Proofs.YtpklboicgjpmeaaDoor.RB
open Go.RowKit
open JC (splitR splitR_no splitR_at)

theorem idx_w (l : List UInt8) : (Lib.indexByte l 32 = -1 ∧ splitR l = [l]) ∨ ∃ n : Nat, Lib.indexByte l 32 = n ∧ n < l.length ∧ splitR l = l.take n :: splitR (l.drop (n + 1)) := by
  have hge := Lib.indexByte_ge l 32
  by_cases h : 0 ≤ Lib.indexByte l 32
  · right
    obtain ⟨n, hn⟩ : ∃ n : Nat, Lib.indexByte l 32 = n := ⟨_, (Int.toNat_of_nonneg h).symm⟩
    obtain ⟨h1, h2⟩ := Lib.indexByte_some hn
    obtain ⟨hl, he⟩ := List.getElem?_eq_some_iff.1 h1
    refine ⟨n, hn, hl, ?_⟩
    have hno : (32 : UInt8) ∉ l.take n := fun hm => by
      obtain ⟨k, hk⟩ := List.getElem?_of_mem hm
      have hkn : k < n := by have := (List.getElem?_eq_some_iff.1 hk).1; rw [List.length_take] at this; omega
      rw [List.getElem?_take_of_lt hkn] at hk
      exact h2 k hkn hk
    conv => lhs; rw [← List.take_append_drop n l, List.drop_eq_getElem_cons hl, he, splitR_at _ hno]
  · left
    have e : Lib.indexByte l 32 = -1 := by omega
    refine ⟨e, splitR_no fun hm => ?_⟩
    obtain ⟨k, hk⟩ := List.getElem?_of_mem hm
    exact Lib.indexByte_none e k hk
theorem ext_take (l : List UInt8) (n : Nat) : (⟨l.toArray⟩ : ByteArray).extract 0 n = ⟨(l.take n).toArray⟩ := by rw [ext_mid, List.drop_zero, Nat.sub_zero]
theorem ext_drop (l : List UInt8) (n : Nat) : (⟨l.toArray⟩ : ByteArray).extract n l.length = ⟨(l.drop n).toArray⟩ := by rw [ext_mid, List.take_of_length_le (by simp)]
def CUT (l : List UInt8) (e : Ending) : Prop := ∃ h t b, e = .returned (.tuple #[sV h, sV t, .bool b]) ∧ t.length ≤ l.length ∧ (b = true → t.length < l.length ∧ splitR l = h :: splitR t) ∧ (b = false → splitR l = [h])
set_option maxHeartbeats 1000000 in
set_option maxRecDepth 100000 in
theorem cutl_any (l : List UInt8) (hl : l.length ≤ 1000000) (w : World) : Calls Tryd.prog 60 #[sV l, .string ⟨#[32]⟩] w fun e w' => CUT l e ∧ ∃ n, w' = w.drewN n := by
  have e0 : (⟨l.toArray⟩ : ByteArray).data.toList = l := by simp
  have hI := fun W => Tryd.stringslite_Index_one ⟨l.toArray⟩ 32 W
  rw [e0] at hI
  rcases idx_w l with ⟨h1, h2⟩ | ⟨n, h1, h2, h3⟩
  · rw [h1] at hI
    have HS : Hid (CUT l (.returned (.tuple #[sV l, sV [], .bool false]))) := ⟨l, [], false, rfl, by simp, by simp, fun _ => h2⟩
    clear h1 h2 e0
    unfold sV at *
    generalize (⟨l.toArray⟩ : ByteArray) = S at *
    go_enter Tryd.func60, Tryd.ntmps60
    go_wp2_with (go_at_call 72; refine Calls.mono (hI _) ?_; rintro e wq ⟨rfl, rfl⟩)
    go_ret3
    exact ⟨HS.out, 0, rfl⟩
  · rw [h1] at hI
    have HS : Hid (CUT l (.returned (.tuple #[.string ((⟨l.toArray⟩ : ByteArray).extract 0 n), .string ((⟨l.toArray⟩ : ByteArray).extract (n + 1) l.length), .bool true]))) := ⟨l.take n, l.drop (n + 1), true, by rw [ext_take, ext_drop]; rfl, by simp, fun _ => ⟨by simp; omega, h3⟩, by simp⟩
    have hsz : (⟨l.toArray⟩ : ByteArray).size = l.length := sz_str l
    unfold sV
    obtain ⟨s, hs⟩ : ∃ s : ByteArray, s = ⟨l.toArray⟩ := ⟨_, rfl⟩
    rw [← hs] at hI HS hsz ⊢
    have hn1 : ((n : Int) + 1 ≤ (s.size : Int)) := by rw [hsz]; omega
    have hn2 : (n + 1 ≤ s.size) := by rw [hsz]; omega
    have hn3 : (n ≤ s.size) := by omega
    have hn4 : ((n : Int) ≤ (s.size : Int)) := by omega
    have hn5 : ((n : Int) + 1 ≤ 4611686018427387904) := by omega
    have HSZ : Hid _ := hsz
    clear hs hsz h1 h2 h3 e0
    go_enter Tryd.func60, Tryd.ntmps60
    go_wp2_with (go_at_call 72; refine Calls.mono (hI _) ?_; rintro e wq ⟨rfl, rfl⟩)
    go_quiet (fail)
    go_wp2
    go_ret3
    exact ⟨by have := HS.out; rw [← HSZ.out] at this; exact this, nq, rfl⟩
theorem cut_any (l : List UInt8) (hl : l.length ≤ 1000000) (w : World) : Calls Tryd.prog 49 #[sV l, .string ⟨#[32]⟩] w fun e w' => CUT l e ∧ ∃ n, w' = w.drewN n := by
  have hC := fun W => cutl_any l hl W
  unfold CUT at *
  go_enter Tryd.func49, Tryd.ntmps49
  go_wp2_with (go_at_call 60; refine Calls.mono (hC _) ?_; rintro e wq ⟨⟨h, t, b, rfl, h1, h2, h3⟩, n, rfl⟩; have H1 : Hid _ := h1; have H2 : Hid _ := h2; have H3 : Hid _ := h3; clear h1 h2 h3)
  go_ret3
  exact ⟨⟨h, t, b, rfl, H1.out, H2.out, H3.out⟩, n, rfl⟩
theorem words_any (s : List UInt8) (w : World) : Calls Tryd.prog 34 #[sV s] w fun e w' => e = .returned (.func (.func 48) #[] #[pB w.heap.size]) ∧ w' = w.alloc (.cells [sV s].toArray 9 (0, 0)) := by
  go_enter Tryd.func34, Tryd.ntmps34
  go_wp2
  go_ret
  exact ⟨rfl, rfl⟩
/-- How much is left to go over. -/
def mes : Value → Value → Nat
  | .string s, .bool b => s.size + b.toNat
  | _, _ => 0
theorem mes_eq (l : List UInt8) (b : Bool) : mes (sV l) (.bool b) = l.length + b.toNat := by
  show (⟨l.toArray⟩ : ByteArray).size + b.toNat = _
  rw [sz_str]
theorem splitR_ne (l : List UInt8) : 1 ≤ (splitR l).length := by
  rcases idx_w l with ⟨_, h⟩ | ⟨n, _, _, h⟩ <;> rw [h] <;> simp
theorem grown_drewN (w : World) (n : Nat) : w.grownBy (w.drewN n) none := ⟨rfl, rfl, rfl, Nat.le_refl _, fun _ _ _ => rfl⟩
set_option maxHeartbeats 2000000 in
set_option maxRecDepth 100000 in
theorem words1_in (m : Nat) (hm : 1 ≤ m) (y b : Nat) (s : List UInt8) (hl : s.length ≤ 1000000) (J Jx : List (List UInt8) → World → Prop) (W0 : World) (hJ : AbidesFrom W0.heap.size J)
    (hY : ∀ pre x W, J pre W → pre.length < (splitR s).length → YieldAt Fence.wide (m - 1) Tryd.prog y #[sV x] W fun e W' => (e = .returned (.bool true) ∧ J (pre ++ [x]) W') ∨ (e = .returned (.bool false) ∧ Jx (pre ++ [x]) W'))
    (hb : W0.cell? ⟨b, 0, none⟩ = some (sV s)) (hj0 : J [] W0) :
    CallsIn Fence.wide m Tryd.prog 48 #[.func (.yield y) #[] #[], pB b] W0 fun e W' => (∃ v, e = .returned v) ∧ ((∃ xs, xs = splitR s ∧ J xs W') ∨ (∃ pre, (∃ q, splitR s = pre ++ q) ∧ Jx pre W')) := by
  refine callsIn_of_wp Tryd.func48 rfl trivial ?_ rfl
  simp only [Tryd.ntmps48, List.size_toArray, List.length_cons, List.length_nil, Nat.reduceAdd, Nat.reduceSub, Array.replicate_succ, Array.replicate_zero, List.push_toArray, List.append_toArray, List.nil_append, List.cons_append]
  have HY : Hid _ := hY
  have HJA : Hid _ := hJ
  have HJ0 : Hid _ := hj0
  have HL : Hid _ := hl
  have hmes : ∀ l b, mes (sV l) (.bool b) = l.length + b.toNat := mes_eq
  have HM : Hid _ := hmes
  clear hY hJ hj0 hl hmes
  unfold pB
  gi_wp2
  clear hb
  gi_loopw [3, 4] (fun r q wr => ∃ (pre : List (List UInt8)) (t : List UInt8) (c : Bool), r = sV t ∧ q = .bool c ∧ t.length ≤ 1000000 ∧ (c = true → splitR s = pre ++ splitR t) ∧ (c = false → splitR s = pre) ∧ J pre wr) (fun r q _ => mes r q)
  case atStart => exact ⟨[], s, true, rfl, rfl, HL.out, fun _ => rfl, by simp, HJ0.out⟩
  case round =>
    clear HJ0
    obtain ⟨pre, t, c, rfl, rfl, ht, hc1, hc2, hJ⟩ := hrel
    have HJ : Hid _ := hJ
    cases c with
    | true =>
      have HSP : Hid _ := hc1 rfl
      have HCA : Hid _ := fun W => cut_any t ht W
      have HT : Hid _ := ht
      clear hc1 hc2 hJ ht
      gi_wp2
      refine ⟨trivial, (callsIn_wide.2 (HCA.out _)).mono ?_⟩
      rintro e W2 ⟨⟨h, t2, b2, rfl, h1, h2, h3⟩, k, rfl⟩
      have HJ2 : Hid (J pre (wr.drewN k)) := HJA.out _ _ _ none HJ.out (grown_drewN _ _) (fun r e => by cases e)
      have hlt : pre.length < (splitR s).length := by
        have := splitR_ne t
        rw [HSP.out, List.length_append]; omega
      obtain ⟨fn, tmps, assign, body, hy, hR⟩ := HY.out pre h _ HJ2.out hlt
      have HRR : Hid _ := hR
      have H1 : Hid _ := h1
      have H2 : Hid _ := h2
      have H3 : Hid _ := h3
      clear hR h1 h2 h3 hlt
      gi_wp2
      refine RoundIn.mono HRR.out ?_
      rintro e W3 (⟨rfl, hJ3⟩ | ⟨rfl, hJ3⟩)
      · have HREL : Hid (t2.length ≤ 1000000 ∧ (b2 = true → splitR s = (pre ++ [h]) ++ splitR t2) ∧ (b2 = false → splitR s = pre ++ [h]) ∧ J (pre ++ [h]) W3) := ⟨Nat.le_trans H1.out HT.out, fun e => by rw [HSP.out, (H2.out e).2]; simp, fun e => by rw [HSP.out, H3.out e], hJ3⟩
        clear hJ3 hy
        gi_wp2
        go_roundw
        case rel => exact ⟨_, t2, b2, rfl, rfl, HREL.out.1, HREL.out.2.1, HREL.out.2.2.1, HREL.out.2.2.2⟩
        case measure =>
          rw [HM.out, HM.out]
          have h1 := H1.out
          cases b2 with
          | true => have := (H2.out rfl).1; simp; omega
          | false => simp; omega
      · have HX : Hid ((∃ q, splitR s = (pre ++ [h]) ++ q) ∧ Jx (pre ++ [h]) W3) := ⟨by
          cases b2 with
          | true => exact ⟨splitR t2, by rw [HSP.out, (H2.out rfl).2]; simp⟩
          | false => exact ⟨[], by rw [HSP.out, H3.out rfl]; simp⟩, hJ3⟩
        clear hJ3 hy
        gi_wp2
        refine bodyPost_ret (results_none rfl _ _ _) rfl ?_
        exact ⟨⟨_, rfl⟩, .inr ⟨_, HX.out.1, HX.out.2⟩⟩
    | false =>
      have HSP : Hid (pre = splitR s) := (hc2 rfl).symm
      clear hc1 hc2 hJ
      gi_wp2
      go_end0
      exact ⟨⟨_, rfl⟩, .inl ⟨pre, HSP.out, HJ.out⟩⟩
/-- What words hands back goes over all the words. -/
theorem words_stops (m : Nat) (hm : 1 ≤ m) (b : Nat) (s : List UInt8) (hl : s.length ≤ 1000000) (w : World) (hb : w.cell? ⟨b, 0, none⟩ = some (sV s)) :
    SeqStopsK Fence.wide m Tryd.prog 48 #[pB b] (fun x => #[sV x]) (fun _ _ => True) (fun xs => xs = splitR s) (fun pre => ∃ q, splitR s = pre ++ q) (splitR s).length w := fun y J Jx W hW hJ _ hY h0 =>
  words1_in m hm y b s hl J Jx W hJ (fun pre x W1 h1 h2 => by
    obtain ⟨fn, tmps, assign, body, hy, hR⟩ := hY pre x W1 h1 h2
    exact ⟨fn, tmps, assign, body, hy, hR.mono fun e W' h => h.elim (fun h => .inl ⟨h.1, h.2.1⟩) .inr⟩) ((hW.cell (block_lt hb)).trans hb) h0
end Go.Proofs.YtpklboicgjpmeaaDoor.RB
