/- Appends of bytes; contracts of ref 5's Le and Text. -/
import Derived.Test.YtekbppfocnbhbaaGreatA9
set_option linter.unusedVariables false
set_option linter.unusedSimpArgs false
namespace Go.Proofs.YtekbppfocnbhbaaGreat.R5
open scoped Classical
open Go.RowKit

/-- append(s, b...), b whatever it be. -/
theorem wpList_appHB {ops : Array Oper} {rest : List Oper} {o : Oper} {a : Act} {Q : Exit → Act → World → Prop} {w : World} (hgd : o.guard = none) (s x : Operand) (ho : o.op = .call { callee := .builtin .append, args := #[s, x], argTypes := #[106, 106] })
    (base : Nat) (v u : Value) (l b : List UInt8) (hs : a.eval s = v) (hx : a.eval x = u) (hown : FB base w v l) (hb : HB w u b) (hl : l.length + b.length ≤ 2199023255552) (hbase : base ≤ w.heap.size)
    (h : ∀ v' w', FB base w' v' (l ++ b) → w.grownBy w' v.ownBlock → wpList Tryz.prog ops Q rest (a.put o.dst v') w') : wpList Tryz.prog ops Q (o :: rest) a w := by
  obtain ⟨i0, hi, hz0, hz1, hz2⟩ := info_parts Tryz.infoU8
  obtain ⟨p, cp, rfl, hpn, hpc⟩ := hb_cells hb
  cases p with
  | none =>
    obtain ⟨rfl, rfl⟩ := hpn rfl
    refine wpList_append_own_none hgd s x 106 ho base 5 i0 1 Tryz.underlying106 hi v _ _ hs hown hx ?_
    exact h v w (by rw [List.append_nil]; exact hown) ⟨rfl, rfl, rfl, Nat.le_refl _, fun _ _ _ => rfl⟩
  | some ad =>
    refine wpList_append_own w hgd s x 106 ho base 5 i0 (.int .u8 0) 1 1 Tryz.underlying106 hi hz0 hz1 hz2 rfl (by decide) v _ _ hs hown ad b.length cp (b.map B8) hx (by simp) (hpc ad rfl) (B8_one b) (by unfold maxLen; omega) (by omega) hbase ?_
    intro v' w' h1 h2 _
    refine h v' w' ?_ h2
    unfold FB
    rw [List.length_append, List.map_append]
    exact h1
theorem hb_new (X : World) (n : Nat) (hn : n = X.heap.size) (cv : Value) (c : UInt8) (hc : cv = B8 c) : HB (X.alloc (.cells #[cv] 5)) (.slice (some ⟨n, 0, none⟩) 1 1) [c] := by
  subst hn hc
  refine .inr ⟨_, 0, _, rfl, Nat.le_refl _, by unfold maxLen; simp, fun i hi => ?_⟩
  have : i = 0 := by simpa using hi
  subst this
  rw [cell_of_row _ _ _ _ _ _ (heap_alloc_new X _)]
  rfl

set_option maxHeartbeats 2000000 in
set_option maxRecDepth 100000 in
theorem le_any (n : Nat) (w : World) (hn : n < 18446744073709551616) : Calls Tryz.prog 51 #[.int .u64 (n : Int)] w fun e w' => ∃ v, e = .returned v ∧ FB w.heap.size w' v (W1.le 8 n) ∧ Below w.heap.size w w' := by
  have hLl := W1.le_length 8 n
  have HLG : Hid (∀ i, i < 8 → (W1.le 8 n).take (i + 1) = (W1.le 8 n).take i ++ [UInt8.ofNat (n / 256 ^ i % 256)]) := fun i hi => by
    have h1 : i < (W1.le 8 n).length := by omega
    rw [List.take_succ_eq_append_getElem h1]
    have := W1.le_get 8 n i hi
    rw [List.getElem?_eq_getElem h1] at this
    simp only [Option.some.injEq] at this
    rw [this]
  have HLA : Hid ((W1.le 8 n).take 8 = W1.le 8 n) := List.take_of_length_le (by omega)
  have HTL : Hid (∀ i, i ≤ 8 → ((W1.le 8 n).take i).length = i) := fun i hi => by rw [List.length_take]; omega
  obtain ⟨L, hL⟩ : ∃ L, L = W1.le 8 n := ⟨_, rfl⟩
  rw [← hL] at HLG HLA HTL
  have HLe : Hid _ := hL
  clear hLl hL
  go_enter Tryz.func51, Tryz.ntmps51
  go_wp2
  go_loopw [3, 4] (fun v i wr => ∃ k : Nat, k ≤ 8 ∧ i = .int .i64 k ∧ FB w.heap.size wr v (L.take k) ∧ Below w.heap.size w wr) (fun _ i _ => 8 - (intOf i).toNat)
  case atStart => exact ⟨0, by omega, rfl, World.ownsRow_nil _ _ _ _, Below.refl _ _⟩
  case round =>
    obtain ⟨k, hk, rfl, hf, hb⟩ := hrel
    by_cases hlt : k < 8
    · have hkI : (k : Int) < 8 := by omega
      have hst := HLG.out k hlt
      obtain ⟨c, hc⟩ : ∃ c, c = UInt8.ofNat (n / 256 ^ k % 256) := ⟨_, rfl⟩
      rw [← hc] at hst
      obtain ⟨q, hq⟩ : ∃ q, q = n / 2 ^ (8 * k) := ⟨_, rfl⟩
      have hqI : (n : Int) / 2 ^ (8 * k) = (q : Int) := by rw [hq]; simp
      have hcq : (q : Int) % 256 = (c.toNat : Int) := by
        rw [hc, hq]
        have e : 2 ^ (8 * k) = 256 ^ k := by rw [show (256 : Nat) = 2 ^ 8 from rfl, ← Nat.pow_mul]
        rw [e]
        show ((_ : Nat) : Int) % 256 = ((n / 256 ^ k % 256 % 256 : Nat) : Int)
        omega
      have q1 : IntKind.u64.wrap (k : Int) = (k : Int) := by rw [IntKind.wrap_u64]; omega
      have q2 : IntKind.u64.wrap (8 * (k : Int)) = 8 * (k : Int) := by rw [IntKind.wrap_u64]; omega
      have t1 : (8 * (k : Int)).toNat = 8 * k := by omega
      have hsz := hb.size
      have hl0 := HTL.out k hk
      have HST : Hid _ := hst
      have HF : Hid _ := hf
      have HB' : Hid _ := hb
      clear hst hc hq hf hb
      go_wp2_with (at_builtin; refine wpList_appHB rfl (.tmp 9) (.tmp 16) rfl w.heap.size u3 _ (L.take k) [c] rfl rfl (World.ownsRow.alloc HF.out _) (hb_new wr _ rfl _ c rfl) (by rw [hl0]; simp; omega) (by simp; omega) ?_; intro v1 w1 hf1 hg1)
      have HF1 : Hid (FB w.heap.size w1 v1 (L.take (k + 1))) := by rw [HST.out]; exact hf1
      have HB1 : Hid (Below w.heap.size w w1) := (HB'.out.alloc hsz _).grown hg1 (by simp; omega) (fun j hj => (HF.out.lt j hj).1)
      clear hf1 hg1
      go_wp2
      go_roundw
      case rel => exact ⟨k + 1, by omega, by go_num, HF1.out, HB1.out⟩
      case measure => simp [intOf]; omega
    · have hk8 : k = 8 := by omega
      have hkI : ¬ (k : Int) < 8 := by omega
      rw [hk8, HLA.out] at hf
      have HF : Hid _ := hf
      clear hf hk8
      go_wp2
      go_ret
      exact ⟨_, rfl, by rw [← HLe.out]; exact HF.out, hb⟩

/-- A number's lowest byte. -/
def lowB (z : Int) : UInt8 := UInt8.ofNat (z % 256).toNat
theorem lowB_nat (z : Int) : ((lowB z).toNat : Int) = z % 256 := by
  unfold lowB
  show (((z % 256).toNat % 256 : Nat) : Int) = _
  omega
/-- A question's text. -/
def textQ (q : Qn) : List UInt8 := [lowB q.kind] ++ q.key ++ [lowB q.dom] ++ q.data
theorem sliceDig (W : World) (b o : Nat) : (Instr.sliceAt 33 (.pointer (some ⟨b, o, none⟩)) none none none).run Tryz.prog W = .ok (.slice (some ⟨b, o, none⟩) 32 32) W := by
  have ha : Tryz.prog.arrayLen 33 = 32 := by kernel_rfl
  have hu : Tryz.prog.underlying 33 = some (.array (Tryz.prog.arrayLen 33) (Tryz.prog.elem 33)) := by kernel_rfl
  have he : Tryz.prog.elem 33 = 5 := by kernel_rfl
  rw [run_sliceAt_array_all W 33 _ hu, he, size_u8, ha]
  have hadd : (⟨b, o, none⟩ : Addr).add (0 * 1) = ⟨b, o, none⟩ := by unfold Addr.add; split <;> simp_all
  simp [Result.andThen, slicedAt, hadd]
theorem hb_range {W : World} {b o : Nat} {l : List UInt8} (k : Nat) (hk : k = l.length) (hl : l.length ≤ 1099511627776) (h : W.rangeAt b o (l.map B8)) : HB W (.slice (some ⟨b, o, none⟩) k k) l := by
  subst hk
  refine .inr ⟨_, o, _, rfl, Nat.le_refl _, by unfold maxLen; omega, fun i hi => ?_⟩
  rw [h i (B8 (l.getD i 0)) (by simp [List.getD, List.getElem?_eq_getElem hi])]
  rfl
theorem q_facts' {w : World} {b : Nat} {q : Qn} {dv : Value} {t : TypeId} {fr : Nat × Nat} (hk : q.key.length = 32) (h : w.heap[b]? = some (.cells (qL q dv).toArray t fr)) :
    w.cell? ⟨b, 0, none⟩ = some (.int .i64 q.kind) ∧ w.rangeAt b 1 (q.key.map B8) ∧ w.cell? ⟨b, 33, none⟩ = some (.int .i64 q.dom) ∧ w.cell? ⟨b, 34, none⟩ = some dv := by
  refine ⟨?_, fun j v hv => ?_, ?_, ?_⟩
  · rw [cell_of_row _ _ 0 _ _ _ h]; exact qL_0 q dv
  · rw [cell_of_row _ _ (1 + j) _ _ _ h]; exact qL_key q dv hk j v hv
  · rw [cell_of_row _ _ 33 _ _ _ h]; exact qL_33 q dv hk
  · rw [cell_of_row _ _ 34 _ _ _ h]; exact qL_34 q dv hk

set_option maxHeartbeats 4000000 in
set_option maxRecDepth 100000 in
theorem rtext_any (v : Value) (q : Qn) (w : World) (hl : q.data.length ≤ 1099511627776) (h : HQ w v q) : Calls Tryz.prog 100 #[v] w fun e w' => ∃ u, e = .returned u ∧ FB w.heap.size w' u (textQ q) ∧ Below w.heap.size w w' := by
  obtain ⟨hk, dv, rfl, hd⟩ := h
  obtain ⟨PA, hPA⟩ : ∃ A, A = (qL q dv).toArray := ⟨_, rfl⟩
  have HR : Hid (∀ W : World, W.heap[w.heap.size]? = some (.cells PA 138 (0, 0)) → W.cell? ⟨w.heap.size, 0, none⟩ = some (.int .i64 q.kind) ∧ W.rangeAt w.heap.size 1 (q.key.map B8) ∧ W.cell? ⟨w.heap.size, 33, none⟩ = some (.int .i64 q.dom) ∧ W.cell? ⟨w.heap.size, 34, none⟩ = some dv) := fun W hW => by
    rw [hPA] at hW; exact q_facts' hk hW
  have HT : Hid (textQ q = [lowB q.kind] ++ q.key ++ [lowB q.dom] ++ q.data) := rfl
  rw [← hPA]
  have HP0 : Hid ((w.alloc (.cells PA 138 (0, 0))).heap[w.heap.size]? = some (.cells PA 138 (0, 0))) := heap_at _ _ _ rfl
  have HB0 : Hid (Below (w.heap.size + 1) (w.alloc (.cells PA 138 (0, 0))) (w.alloc (.cells PA 138 (0, 0)))) := Below.refl _ _
  have HBW : Hid (Below w.heap.size w (w.alloc (.cells PA 138 (0, 0)))) := (Below.refl _ _).alloc (Nat.le_refl _) _
  have HD0 : Hid (HB (w.alloc (.cells PA 138 (0, 0))) dv q.data) := hb_alloc hd _
  have a0 := (HR.out _ HP0.out).1
  have HKL : Hid _ := hk
  have hm1 := lowB_nat q.kind
  have hm2 := lowB_nat q.dom
  obtain ⟨T, hT⟩ : ∃ T, T = textQ q := ⟨_, rfl⟩
  rw [← hT] at HT ⊢
  obtain ⟨kd, ky, dm, da⟩ := q
  simp only at *
  generalize hc1 : lowB kd = c1 at *
  generalize hc2 : lowB dm = c2 at *
  have m1 : kd % 256 = (c1.toNat : Int) := by omega
  have m2 : dm % 256 = (c2.toNat : Int) := by omega
  have hsl := fun W => sliceDig W w.heap.size 1
  obtain ⟨pd, cd, hdv, _⟩ := hb_cells hd
  subst hdv
  have HDB : Hid (∀ W, Below w.heap.size w W → HB W (.slice pd da.length cd) da) := fun W hW => hd.below hW
  have HP1 : Hid (((w.alloc (.cells PA 138 (0, 0))).alloc (.cells #[.int .u8 (c1.toNat : Int)] 5 (0, 0))).heap[w.heap.size]? = some (.cells PA 138 (0, 0))) := alloc2_first _ _ _
  have HF1 : Hid (FB (w.heap.size + 1) ((w.alloc (.cells PA 138 (0, 0))).alloc (.cells #[.int .u8 (c1.toNat : Int)] 5 (0, 0))) (.slice (some ⟨w.heap.size + 1, 0, none⟩) 1 1) [c1]) := by
    have := World.ownsRow_lit (base := w.heap.size + 1) (e := 5) (size := 1) (w.alloc (.cells PA 138 (0, 0))) #[.int .u8 (c1.toNat : Int)] 1 (by simp) (by unfold maxLen; omega) (by simp)
    show FB _ _ _ _
    simpa [FB, B8] using this
  have HB1 : Hid (Below w.heap.size w ((w.alloc (.cells PA 138 (0, 0))).alloc (.cells #[.int .u8 (c1.toNat : Int)] 5 (0, 0)))) := HBW.out.alloc (by simp) _
  have HD1 : Hid (HB ((w.alloc (.cells PA 138 (0, 0))).alloc (.cells #[.int .u8 (c1.toNat : Int)] 5 (0, 0))) (.slice pd da.length cd) da) := hb_alloc HD0.out _
  have hs1 : w.heap.size + 1 ≤ ((w.alloc (.cells PA 138 (0, 0))).alloc (.cells #[.int .u8 (c1.toNat : Int)] 5 (0, 0))).heap.size := by simp
  clear hPA hd hk hT hc1 hc2 hm1 hm2
  go_enter Tryz.func100, Tryz.ntmps100
  go_wp2_with (first
    | (at_builtin; refine wpList_appHB rfl (.tmp 8) (.tmp 10) rfl (w.heap.size + 1) (.slice (some ⟨w.heap.size + 1, 0, none⟩) 1 1) _ [c1] ky rfl rfl HF1.out (hb_range 32 HKL.out.symm (by rw [HKL.out]; decide) (HR.out _ HP1.out).2.1) (by simp [HKL.out]) hs1 ?_; intro v2 w2 hf2 hg2; have hb2 := (Below.refl (w.heap.size + 1) _).grown hg2 hs1 (fun j hj => (HF1.out.lt j hj).1); have hs2 : w.heap.size + 1 ≤ w2.heap.size := (by have := hb2.size; omega); have HP2 : Hid (w2.heap[w.heap.size]? = some (.cells PA 138 (0, 0))) := (hb2.block _ (by omega)).trans HP1.out; have HB2 : Hid (Below w.heap.size w w2) := HB1.out.trans (hb2.mono (by omega)); have HD2 : Hid (HB w2 (.slice pd da.length cd) da) := HDB.out _ HB2.out; have HF2 : Hid (FB (w.heap.size + 1) w2 v2 ([c1] ++ ky)) := hf2; have a33 := (HR.out _ HP2.out).2.2.1; clear hf2 hg2 hb2)
    | (at_builtin; refine wpList_appHB rfl (.tmp 12) (.tmp 16) rfl (w.heap.size + 1) v2 _ ([c1] ++ ky) [c2] rfl rfl (World.ownsRow.alloc HF2.out _) (hb_new w2 _ rfl _ c2 rfl) (by simp [HKL.out]) (by simp; omega) ?_; intro v3 w3 hf3 hg3; have hb3 : Below (w.heap.size + 1) w2 w3 := ((Below.refl (w.heap.size + 1) w2).alloc hs2 _).grown hg3 (by simp; omega) (fun j hj => (HF2.out.lt j hj).1); have hs3 : w.heap.size + 1 ≤ w3.heap.size := (by have := hb3.size; omega); have HP3 : Hid (w3.heap[w.heap.size]? = some (.cells PA 138 (0, 0))) := (hb3.block _ (by omega)).trans HP2.out; have HB3 : Hid (Below w.heap.size w w3) := HB2.out.trans (hb3.mono (by omega)); have HD3 : Hid (HB w3 (.slice pd da.length cd) da) := HDB.out _ HB3.out; have HF3 : Hid (FB (w.heap.size + 1) w3 v3 ([c1] ++ ky ++ [c2])) := hf3; have a34 := (HR.out _ HP3.out).2.2.2; clear hf3 hg3 hb3)
    | (at_builtin; refine wpList_appHB rfl (.tmp 18) (.tmp 20) rfl (w.heap.size + 1) v3 _ ([c1] ++ ky ++ [c2]) da rfl rfl HF3.out HD3.out (by simp [HKL.out]; omega) hs3 ?_; intro v4 w4 hf4 hg4))
  have hb4 : Below (w.heap.size + 1) w3 w4 := (Below.refl (w.heap.size + 1) w3).grown hg4 hs3 (fun j hj => (HF3.out.lt j hj).1)
  have HB4 : Hid (Below w.heap.size w w4) := HB3.out.trans (hb4.mono (by omega))
  have HF4 : Hid (FB w.heap.size w4 v4 T) := by rw [HT.out]; exact fb_lower hf4 (by omega)
  clear hf4 hg4 hb4
  go_wp2
  go_ret
  exact ⟨_, rfl, HF4.out, HB4.out⟩

end Go.Proofs.YtekbppfocnbhbaaGreat.R5
