/- Contract of the program's Ask. -/
import Derived.Test.YtekbppfocnbhbaaGreatQF
import Derived.Test.YtekbppfocnbhbaaGreatE9
import Derived.Laws.ResultCell
set_option linter.unusedVariables false
set_option linter.unusedSimpArgs false
namespace Go.Proofs.YtekbppfocnbhbaaGreat.R5
open scoped Classical
open Go.RowKit

theorem results_dig2 {fn : Func} {p u : Tmp} (h : fn.results = #[.cell p 33, .tmp u]) (tmps : Array Value) (w : World) (g : Nat) (t : TypeId) (cs : Array Value) (fr : Nat × Nat) (x : Value)
    (hp : tmps.getD p undef = .pointer (some ⟨g, 0, none⟩)) (hx : tmps.getD u undef = x) (hg : w.heap[g]? = some (.cells cs t fr)) (hi : (Tryz.prog.info? 33).map (·.size) = some cs.size) :
    (results fn tmps).run Tryz.prog w = .ok (.tuple #[.agg cs, x]) w := by
  rw [results_cell_tmp h, hp, hx]
  simp [asAddr, run_loadVar_row w g t 33 cs fr _ hg Tryz.underlying33 rfl hi]
set_option maxHeartbeats 4000000 in
set_option maxRecDepth 100000 in
theorem isq_any (dv : Value) (q : Qn) (w : World) (hk : q.key.length = 32) : Calls Tryz.prog 93 #[.agg (qL q dv).toArray] w fun e w' => e = .returned (.bool (mayQ q)) ∧ Below w.heap.size w w' := by
  have HB0 : Hid (Below w.heap.size w (w.alloc (.cells (qL q dv).toArray 138 (0, 0)))) := (Below.refl _ _).alloc (Nat.le_refl _) _
  obtain ⟨a0, a1, a2, a3⟩ := q_facts hk (heap_at w (.cells (qL q dv).toArray 138 (0, 0)) _ rfl)
  have hq := fun W => eql_digest W q.key (List.replicate 32 0) hk (by simp)
  obtain ⟨kd, ky, dm, da⟩ := q
  simp only at *
  have HI1 : Hid _ := info32 (ky.map B8) (by simpa using hk)
  have HA1 : Hid _ := a1
  have hbd := fun W => build_dig W
  obtain ⟨ZA, hZA⟩ : ∃ A, A = ((List.replicate 32 (0 : UInt8)).map B8).toArray := ⟨_, rfl⟩
  rw [← hZA] at hbd hq
  generalize (qL ⟨kd, ky, dm, da⟩ dv).toArray = PA at *
  clear a1 hZA a3
  by_cases h1 : kd < 1
  · have HE : Hid (mayQ ⟨kd, ky, dm, da⟩ = false) := by show _ = _; unfold mayQ; simp; omega
    clear hbd
    go_enter Tryz.func93, Tryz.ntmps93
    go_wp2
    go_ret
    exact ⟨by rw [HE.out]; rfl, HB0.out⟩
  · by_cases h2 : 4 < kd
    · have HE : Hid (mayQ ⟨kd, ky, dm, da⟩ = false) := by show _ = _; unfold mayQ; simp; omega
      clear hbd
      go_enter Tryz.func93, Tryz.ntmps93
      go_wp2
      go_ret
      exact ⟨by rw [HE.out]; rfl, HB0.out⟩
    · by_cases h3 : dm < 1
      · have HE : Hid (mayQ ⟨kd, ky, dm, da⟩ = false) := by show _ = _; unfold mayQ; simp; omega
        clear hbd
        go_enter Tryz.func93, Tryz.ntmps93
        go_wp2
        go_ret
        exact ⟨by rw [HE.out]; rfl, HB0.out⟩
      · by_cases h4 : 16 < dm
        · have HE : Hid (mayQ ⟨kd, ky, dm, da⟩ = false) := by show _ = _; unfold mayQ; simp; omega
          clear hbd
          go_enter Tryz.func93, Tryz.ntmps93
          go_wp2
          go_ret
          exact ⟨by rw [HE.out]; rfl, HB0.out⟩
        · by_cases h5 : kd = 1
          · have HE : Hid (mayQ ⟨kd, ky, dm, da⟩ = (ky == List.replicate 32 0)) := by
              show _ = _
              unfold mayQ
              simp only
              rw [Bool.eq_iff_iff]
              simp only [decide_eq_true_eq, beq_iff_eq]
              constructor
              · intro h; exact h.2.2.2.2 h5
              · intro h; exact ⟨by omega, by omega, by omega, by omega, fun _ => h⟩
            rw [h5] at a0
            have HQ0 : Hid (∀ W, (Op.equalIn 10000 33 (.agg (ky.map B8).toArray) (.agg ((List.replicate 32 (0 : UInt8)).map B8).toArray)).run Tryz.prog W = .ok (ky == List.replicate 32 0) W) := fun W => (run_equalIn_bytes W 9998 33 5 32 Tryz.underlying33 Tryz.underlying5 size_u8 ky (List.replicate 32 0) hk (by simp))
            generalize (ky == List.replicate 32 0) = R at *
            clear hk hq hbd
            clear h5 h1 h2
            go_enter Tryz.func93, Tryz.ntmps93
            go_wp2_with (first
              | (refine load_mid_g (by rfl) 33 _ rfl w.heap.size 1 rfl (ky.map B8) _ HA1.out Tryz.underlying33 rfl HI1.out ?_))
            refine upon_eq (r' := .ok (Next.value (.bool R)) _) (congrArg (fun r => Result.andThen (Result.andThen r (fun b w' => Result.ok (Value.bool b) w')) (fun a w' => Result.ok (Next.value a) w')) (HQ0.out (w.alloc (.cells PA 138 (0, 0))))) ?_
            go_wp2
            go_ret
            exact ⟨by rw [HE.out]; rfl, HB0.out⟩
          · have g5 : (kd == 1) = false := by simp [h5]
            have g6 : (kd != 1) = true := by simp [h5]
            have HE : Hid (mayQ ⟨kd, ky, dm, da⟩ = true) := by
              show _ = _
              unfold mayQ
              simp only [decide_eq_true_eq]
              exact ⟨by omega, by omega, by omega, by omega, fun h => absurd h h5⟩
            clear h5
            go_enter Tryz.func93, Tryz.ntmps93
            go_wp2
            go_ret
            exact ⟨by rw [HE.out]; rfl, HB0.out⟩

def askB (q : Qn) : Bool := mayQ q && !(q.kind == 4)
def errV (n : Int) : Value := .tuple #[dV (List.replicate 32 0), .int .i64 n]
def okV (A : List UInt8) : Value := .tuple #[dV A, .int .i64 0]
theorem w2_facts (w : World) (QL ZL : List Value) : Below w.heap.size w ((w.alloc (.cells QL.toArray 138 (0, 0))).alloc (.cells ZL.toArray 33 (0, 0))) ∧
    ((w.alloc (.cells QL.toArray 138 (0, 0))).alloc (.cells ZL.toArray 33 (0, 0))).heap[w.heap.size]? = some (.cells QL.toArray 138 (0, 0)) ∧
    ((w.alloc (.cells QL.toArray 138 (0, 0))).alloc (.cells ZL.toArray 33 (0, 0))).heap[w.heap.size + 1]? = some (.cells ZL.toArray 33 (0, 0)) :=
  ⟨((Below.refl _ _).alloc (Nat.le_refl _) _).alloc (by simp) _, alloc2_first _ _ _, heap_at _ _ _ (by simp)⟩

structure Aft (w W : World) (QL ZL : List Value) : Prop where
  below : Below w.heap.size w W
  r0 : W.heap[w.heap.size]? = some (.cells QL.toArray 138 (0, 0))
  r1 : W.heap[w.heap.size + 1]? = some (.cells ZL.toArray 33 (0, 0))
theorem aft_of {w w1 : World} {QL ZL : List Value} (h : Below ((w.alloc (.cells QL.toArray 138 (0, 0))).alloc (.cells ZL.toArray 33 (0, 0))).heap.size ((w.alloc (.cells QL.toArray 138 (0, 0))).alloc (.cells ZL.toArray 33 (0, 0))) w1) : Aft w w1 QL ZL := by
  obtain ⟨hb, hr0, hr1⟩ := w2_facts w QL ZL
  exact ⟨hb.trans (h.mono hb.size), (h.block _ (row_lt hr0)).trans hr0, (h.block _ (row_lt hr1)).trans hr1⟩
set_option maxHeartbeats 4000000 in
set_option maxRecDepth 100000 in
theorem pask_bad (og mb : Nat) (dq : Value) (q : Qn) (w : World) (hc : w.cell? ⟨og, 35, none⟩ = some (.map (some mb))) (hqk : q.key.length = 32) (hbad : askB q = false) :
    Calls Tryz.prog 79 #[.pointer (some ⟨og, 0, none⟩), .agg (qL q dq).toArray] w fun e w' => e = .returned (errV 2) ∧ Below w.heap.size w w' := by
  have hzv := fun W => zero_dig W
  have hbd := fun W => build_dig W
  obtain ⟨ZL, hZL⟩ : ∃ L, L = (List.replicate 32 (0 : UInt8)).map B8 := ⟨_, rfl⟩
  have HZV : Hid (dV (List.replicate 32 0) = .agg ZL.toArray) := by show _ = _; rw [hZL]; rfl
  rw [← hZL] at hzv hbd
  have HZS : Hid (ZL.toArray.size = 32) := by show _ = _; rw [hZL]; simp
  have HZ1 : Hid (ZL.toArray.all (·.oneCell') = true) := by show _ = _; rw [hZL]; exact B8_onea _
  clear hZL
  obtain ⟨hb, hr0, hr1⟩ := w2_facts w (qL q dq) ZL
  have HNN : Hid _ := none_no og mb _ ((hb.cell (block_lt hc)).trans hc)
  have hiq := isq_any dq q ((w.alloc (.cells (qL q dq).toArray 138 (0, 0))).alloc (.cells ZL.toArray 33 (0, 0))) hqk
  have hkc := fun W (h : Aft w W (qL q dq) ZL) => (q_facts hqk h.r0).1
  have HQI : Hid _ := info35 (qL q dq) (qL_len q dq hqk)
  have HUQ : Hid _ := Tryz.underlying138
  obtain ⟨QL, hQL⟩ : ∃ L, L = qL q dq := ⟨_, rfl⟩
  rw [← hQL] at hb hr0 hr1 HNN hiq hkc HQI ⊢
  have HRQ : Hid _ := rangeAt_row hr0
  have HBD : Hid (mayQ q = true → (q.kind == 4) = true) := fun h => by unfold askB at hbad; rw [h] at hbad; simpa using hbad
  clear hr0 hr1 hb hc hbad hQL
  generalize mayQ q = MB at *
  cases MB with
  | false =>
    have HIQ : Hid _ := hiq
    clear hiq HBD
    go_enter Tryz.func79, Tryz.ntmps79
    go_wp2_with (first
      | (go_at_call 56; refine Calls.mono HNN.out ?_; rintro e w1 ⟨rfl, rfl⟩)
      | (refine wpList_load_mid rfl 138 _ rfl w.heap.size 0 rfl QL _ HRQ.out HUQ.out rfl HQI.out ?_)
      | (go_at_call 93; fail))
    refine Calls.mono HIQ.out ?_
    rintro e w1 ⟨rfl, hq1⟩
    have hA := aft_of hq1
    have a0 := hkc w1 hA
    have HA : Hid _ := hA
    clear hq1 hA
    clear hkc a0
    go_wp2_with (refine wpList_store_row rfl 33 _ _ rfl (w.heap.size + 1) ZL.toArray rfl rfl 33 ZL.toArray HA.out.r1 (info32a _ HZS.out) rfl HZ1.out ?_)
    refine bodyPost_ret (v := .tuple #[.agg ZL.toArray, .int .i64 2]) ?_ rfl ⟨by unfold errV; rw [HZV.out], below_setRow HA.out.below (by omega) _⟩
    exact results_dig2 Tryz.results79 _ _ (w.heap.size + 1) 33 _ (0, 0) _ rfl rfl (setRow_heap _ _ _ _ _ _ HA.out.r1) (info32a _ HZS.out)
  | true =>
    have HIQ : Hid _ := hiq
    have hk4 : q.kind = 4 := by simpa using HBD.out rfl
    rw [hk4] at hkc
    clear hiq HBD hk4
    go_enter Tryz.func79, Tryz.ntmps79
    go_wp2_with (first
      | (go_at_call 56; refine Calls.mono HNN.out ?_; rintro e w1 ⟨rfl, rfl⟩)
      | (refine wpList_load_mid rfl 138 _ rfl w.heap.size 0 rfl QL _ HRQ.out HUQ.out rfl HQI.out ?_)
      | (go_at_call 93; fail))
    refine Calls.mono HIQ.out ?_
    rintro e w1 ⟨rfl, hq1⟩
    have hA := aft_of hq1
    have a0 := hkc w1 hA
    have HA : Hid _ := hA
    clear hq1 hA
    clear hkc
    go_wp2_with (refine wpList_store_row rfl 33 _ _ rfl (w.heap.size + 1) ZL.toArray rfl rfl 33 ZL.toArray HA.out.r1 (info32a _ HZS.out) rfl HZ1.out ?_)
    refine bodyPost_ret (v := .tuple #[.agg ZL.toArray, .int .i64 2]) ?_ rfl ⟨by unfold errV; rw [HZV.out], below_setRow HA.out.below (by omega) _⟩
    exact results_dig2 Tryz.results79 _ _ (w.heap.size + 1) 33 _ (0, 0) _ rfl rfl (setRow_heap _ _ _ _ _ _ HA.out.r1) (info32a _ HZS.out)
end Go.Proofs.YtekbppfocnbhbaaGreat.R5
