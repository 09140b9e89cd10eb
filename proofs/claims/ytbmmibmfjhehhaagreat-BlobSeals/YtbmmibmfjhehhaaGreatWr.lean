/- Several texts in one. -/
import Derived.Test.YtbmmibmfjhehhaaGreatWq
import Derived.Test.YtbmmibmfjhehhaaGreatWb
import Derived.Laws.ResultCell
import Derived.Lib.LazyBuf
set_option linter.unusedVariables false
set_option linter.unusedSimpArgs false
/- Contract of the program's Ask. -/
namespace Go.Proofs.YtbmmibmfjhehhaaGreat.R5
open scoped Classical
open Go.RowKit

theorem results_dig2 {fn : Func} {p u : Tmp} (h : fn.results = #[.cell p 23, .tmp u]) (tmps : Array Value) (w : World) (g : Nat) (t : TypeId) (cs : Array Value) (fr : Nat × Nat) (x : Value)
    (hp : tmps.getD p undef = .pointer (some ⟨g, 0, none⟩)) (hx : tmps.getD u undef = x) (hg : w.heap[g]? = some (.cells cs t fr)) (hi : (Tryz.prog.info? 23).map (·.size) = some cs.size) :
    (results fn tmps).run Tryz.prog w = .ok (.tuple #[.agg cs, x]) w := by
  rw [results_cell_tmp h, hp, hx]
  simp [asAddr, run_loadVar_row w g t 23 cs fr _ hg Tryz.underlying23 rfl hi]
set_option maxHeartbeats 4000000 in
set_option maxRecDepth 100000 in
theorem isq_any (dv : Value) (q : Qn) (w : World) (hk : q.key.length = 32) : Calls Tryz.prog 48 #[.agg (qL q dv).toArray] w fun e w' => e = .returned (.bool (mayQ q)) ∧ Below w.heap.size w w' := by
  have HB0 : Hid (Below w.heap.size w (w.alloc (.cells (qL q dv).toArray 66 (0, 0)))) := (Below.refl _ _).alloc (Nat.le_refl _) _
  obtain ⟨a0, a1, a2, a3⟩ := q_facts hk (heap_at w (.cells (qL q dv).toArray 66 (0, 0)) _ rfl)
  have hq := fun W => eql_digest W q.key (List.replicate 32 0) hk (by simp)
  obtain ⟨kd, ky, dm, da⟩ := q
  simp only at *
  have HI1 : Hid _ := info32 (ky.map B8) (by simpa using hk)
  have HA1 : Hid _ := a1
  have hbd := fun W => build_dig W
  obtain ⟨ZA, hZA⟩ : ∃ A, A = ((List.replicate 32 (0 : UInt8)).map B8).toArray := ⟨_, rfl⟩
  rw [← hZA] at hbd hq
  generalize (qL ⟨kd, ky, dm, da⟩ dv).toArray = PA at *
  clear a1 hZA a3
  by_cases h1 : kd < 1
  · have HE : Hid (mayQ ⟨kd, ky, dm, da⟩ = false) := by show _ = _; unfold mayQ; simp; omega
    clear hbd
    go_enter Tryz.func48, Tryz.ntmps48
    go_wp2
    go_ret
    exact ⟨by rw [HE.out]; rfl, HB0.out⟩
  · by_cases h2 : 4 < kd
    · have HE : Hid (mayQ ⟨kd, ky, dm, da⟩ = false) := by show _ = _; unfold mayQ; simp; omega
      clear hbd
      go_enter Tryz.func48, Tryz.ntmps48
      go_wp2
      go_ret
      exact ⟨by rw [HE.out]; rfl, HB0.out⟩
    · by_cases h3 : dm < 1
      · have HE : Hid (mayQ ⟨kd, ky, dm, da⟩ = false) := by show _ = _; unfold mayQ; simp; omega
        clear hbd
        go_enter Tryz.func48, Tryz.ntmps48
        go_wp2
        go_ret
        exact ⟨by rw [HE.out]; rfl, HB0.out⟩
      · by_cases h4 : 16 < dm
        · have HE : Hid (mayQ ⟨kd, ky, dm, da⟩ = false) := by show _ = _; unfold mayQ; simp; omega
          clear hbd
          go_enter Tryz.func48, Tryz.ntmps48
          go_wp2
          go_ret
          exact ⟨by rw [HE.out]; rfl, HB0.out⟩
        · by_cases h5 : kd = 1
          · have HE : Hid (mayQ ⟨kd, ky, dm, da⟩ = (ky == List.replicate 32 0)) := by
              show _ = _
              unfold mayQ
              simp only
              rw [Bool.eq_iff_iff]
              simp only [decide_eq_true_eq, beq_iff_eq]
              constructor
              · intro h; exact h.2.2.2.2 h5
              · intro h; exact ⟨by omega, by omega, by omega, by omega, fun _ => h⟩
            rw [h5] at a0
            have HQ0 : Hid (∀ W, (Op.equalIn 10000 23 (.agg (ky.map B8).toArray) (.agg ((List.replicate 32 (0 : UInt8)).map B8).toArray)).run Tryz.prog W = .ok (ky == List.replicate 32 0) W) := fun W => (run_equalIn_bytes W 9998 23 5 32 Tryz.underlying23 Tryz.underlying5 size_u8 ky (List.replicate 32 0) hk (by simp))
            generalize (ky == List.replicate 32 0) = R at *
            clear hk hq hbd
            clear h5 h1 h2
            go_enter Tryz.func48, Tryz.ntmps48
            go_wp2_with (first
              | (refine load_mid_g (by rfl) 23 _ rfl w.heap.size 1 rfl (ky.map B8) _ HA1.out Tryz.underlying23 rfl HI1.out ?_))
            refine upon_eq (r' := .ok (Next.value (.bool R)) _) (congrArg (fun r => Result.andThen (Result.andThen r (fun b w' => Result.ok (Value.bool b) w')) (fun a w' => Result.ok (Next.value a) w')) (HQ0.out (w.alloc (.cells PA 66 (0, 0))))) ?_
            go_wp2
            go_ret
            exact ⟨by rw [HE.out]; rfl, HB0.out⟩
          · have g5 : (kd == 1) = false := by simp [h5]
            have g6 : (kd != 1) = true := by simp [h5]
            have HE : Hid (mayQ ⟨kd, ky, dm, da⟩ = true) := by
              show _ = _
              unfold mayQ
              simp only [decide_eq_true_eq]
              exact ⟨by omega, by omega, by omega, by omega, fun h => absurd h h5⟩
            clear h5
            go_enter Tryz.func48, Tryz.ntmps48
            go_wp2
            go_ret
            exact ⟨by rw [HE.out]; rfl, HB0.out⟩

def askB (q : Qn) : Bool := mayQ q && !(q.kind == 4)
def errV (n : Int) : Value := .tuple #[dV (List.replicate 32 0), .int .i64 n]
theorem w2_facts (w : World) (QL ZL : List Value) : Below w.heap.size w ((w.alloc (.cells QL.toArray 66 (0, 0))).alloc (.cells ZL.toArray 23 (0, 0))) ∧
    ((w.alloc (.cells QL.toArray 66 (0, 0))).alloc (.cells ZL.toArray 23 (0, 0))).heap[w.heap.size]? = some (.cells QL.toArray 66 (0, 0)) ∧
    ((w.alloc (.cells QL.toArray 66 (0, 0))).alloc (.cells ZL.toArray 23 (0, 0))).heap[w.heap.size + 1]? = some (.cells ZL.toArray 23 (0, 0)) :=
  ⟨((Below.refl _ _).alloc (Nat.le_refl _) _).alloc (by simp) _, alloc2_first _ _ _, heap_at _ _ _ (by simp)⟩

theorem pask_none (pv : Value) (QL : List Value) (w : World) (hn : ∀ X, Below w.heap.size w X → Calls Tryz.prog 22 #[pv] X fun e w' => e = .returned (.bool true) ∧ w' = X) :
    Calls Tryz.prog 46 #[pv, .agg QL.toArray] w fun e w' => e = .returned (errV 1) ∧ Below w.heap.size w w' := by
  have hzv := fun W => zero_dig W
  have hbd := fun W => build_dig W
  obtain ⟨ZL, hZL⟩ : ∃ L, L = (List.replicate 32 (0 : UInt8)).map B8 := ⟨_, rfl⟩
  have HZV : Hid (dV (List.replicate 32 0) = .agg ZL.toArray) := by show _ = _; rw [hZL]; rfl
  rw [← hZL] at hzv hbd
  have HZS : Hid (ZL.toArray.size = 32) := by show _ = _; rw [hZL]; simp
  have HZ1 : Hid (ZL.toArray.all (·.oneCell') = true) := by show _ = _; rw [hZL]; exact B8_onea _
  clear hZL
  obtain ⟨hb, hr0, hr1⟩ := w2_facts w QL ZL
  have hnn := hn _ hb
  have HNN : Hid _ := hnn
  have HR1 : Hid _ := hr1
  have HB0 : Hid _ := hb
  clear hn hnn hr0 hr1 hb
  go_enter Tryz.func46, Tryz.ntmps46
  go_wp2_with (first
    | (go_at_call 22; refine Calls.mono HNN.out ?_; rintro e w1 ⟨rfl, rfl⟩)
    | (refine wpList_store_row rfl 23 _ _ rfl (w.heap.size + 1) ZL.toArray rfl rfl 23 ZL.toArray HR1.out (info32a _ HZS.out) rfl HZ1.out ?_))
  refine bodyPost_ret (v := .tuple #[.agg ZL.toArray, .int .i64 1]) ?_ rfl ⟨by unfold errV; rw [HZV.out], below_setRow HB0.out (by omega) _⟩
  exact results_dig2 Tryz.results46 _ _ (w.heap.size + 1) 23 _ (0, 0) _ rfl rfl (setRow_heap _ _ _ _ _ _ HR1.out) (info32a _ HZS.out)

structure Aft (w W : World) (QL ZL : List Value) : Prop where
  below : Below w.heap.size w W
  r0 : W.heap[w.heap.size]? = some (.cells QL.toArray 66 (0, 0))
  r1 : W.heap[w.heap.size + 1]? = some (.cells ZL.toArray 23 (0, 0))
theorem aft_of {w w1 : World} {QL ZL : List Value} (h : Below ((w.alloc (.cells QL.toArray 66 (0, 0))).alloc (.cells ZL.toArray 23 (0, 0))).heap.size ((w.alloc (.cells QL.toArray 66 (0, 0))).alloc (.cells ZL.toArray 23 (0, 0))) w1) : Aft w w1 QL ZL := by
  obtain ⟨hb, hr0, hr1⟩ := w2_facts w QL ZL
  exact ⟨hb.trans (h.mono hb.size), (h.block _ (row_lt hr0)).trans hr0, (h.block _ (row_lt hr1)).trans hr1⟩
set_option maxHeartbeats 4000000 in
set_option maxRecDepth 100000 in
theorem pask_bad (og mb : Nat) (dq : Value) (q : Qn) (w : World) (hc : w.cell? ⟨og, 35, none⟩ = some (.map (some mb))) (hqk : q.key.length = 32) (hbad : askB q = false) :
    Calls Tryz.prog 46 #[.pointer (some ⟨og, 0, none⟩), .agg (qL q dq).toArray] w fun e w' => e = .returned (errV 2) ∧ Below w.heap.size w w' := by
  have hzv := fun W => zero_dig W
  have hbd := fun W => build_dig W
  obtain ⟨ZL, hZL⟩ : ∃ L, L = (List.replicate 32 (0 : UInt8)).map B8 := ⟨_, rfl⟩
  have HZV : Hid (dV (List.replicate 32 0) = .agg ZL.toArray) := by show _ = _; rw [hZL]; rfl
  rw [← hZL] at hzv hbd
  have HZS : Hid (ZL.toArray.size = 32) := by show _ = _; rw [hZL]; simp
  have HZ1 : Hid (ZL.toArray.all (·.oneCell') = true) := by show _ = _; rw [hZL]; exact B8_onea _
  clear hZL
  obtain ⟨hb, hr0, hr1⟩ := w2_facts w (qL q dq) ZL
  have HNN : Hid _ := none_no og mb _ ((hb.cell (block_lt hc)).trans hc)
  have hiq := isq_any dq q ((w.alloc (.cells (qL q dq).toArray 66 (0, 0))).alloc (.cells ZL.toArray 23 (0, 0))) hqk
  have hkc := fun W (h : Aft w W (qL q dq) ZL) => (q_facts hqk h.r0).1
  have HQI : Hid _ := info35 (qL q dq) (qL_len q dq hqk)
  have HUQ : Hid _ := Tryz.underlying66
  obtain ⟨QL, hQL⟩ : ∃ L, L = qL q dq := ⟨_, rfl⟩
  rw [← hQL] at hb hr0 hr1 HNN hiq hkc HQI ⊢
  have HRQ : Hid _ := rangeAt_row hr0
  have HBD : Hid (mayQ q = true → (q.kind == 4) = true) := fun h => by unfold askB at hbad; rw [h] at hbad; simpa using hbad
  clear hr0 hr1 hb hc hbad hQL
  generalize mayQ q = MB at *
  cases MB with
  | false =>
    have HIQ : Hid _ := hiq
    clear hiq HBD
    go_enter Tryz.func46, Tryz.ntmps46
    go_wp2_with (first
      | (go_at_call 22; refine Calls.mono HNN.out ?_; rintro e w1 ⟨rfl, rfl⟩)
      | (refine wpList_load_mid rfl 66 _ rfl w.heap.size 0 rfl QL _ HRQ.out HUQ.out rfl HQI.out ?_)
      | (go_at_call 48; fail))
    refine Calls.mono HIQ.out ?_
    rintro e w1 ⟨rfl, hq1⟩
    have hA := aft_of hq1
    have a0 := hkc w1 hA
    have HA : Hid _ := hA
    clear hq1 hA
    clear hkc a0
    go_wp2_with (refine wpList_store_row rfl 23 _ _ rfl (w.heap.size + 1) ZL.toArray rfl rfl 23 ZL.toArray HA.out.r1 (info32a _ HZS.out) rfl HZ1.out ?_)
    refine bodyPost_ret (v := .tuple #[.agg ZL.toArray, .int .i64 2]) ?_ rfl ⟨by unfold errV; rw [HZV.out], below_setRow HA.out.below (by omega) _⟩
    exact results_dig2 Tryz.results46 _ _ (w.heap.size + 1) 23 _ (0, 0) _ rfl rfl (setRow_heap _ _ _ _ _ _ HA.out.r1) (info32a _ HZS.out)
  | true =>
    have HIQ : Hid _ := hiq
    have hk4 : q.kind = 4 := by simpa using HBD.out rfl
    rw [hk4] at hkc
    clear hiq HBD hk4
    go_enter Tryz.func46, Tryz.ntmps46
    go_wp2_with (first
      | (go_at_call 22; refine Calls.mono HNN.out ?_; rintro e w1 ⟨rfl, rfl⟩)
      | (refine wpList_load_mid rfl 66 _ rfl w.heap.size 0 rfl QL _ HRQ.out HUQ.out rfl HQI.out ?_)
      | (go_at_call 48; fail))
    refine Calls.mono HIQ.out ?_
    rintro e w1 ⟨rfl, hq1⟩
    have hA := aft_of hq1
    have a0 := hkc w1 hA
    have HA : Hid _ := hA
    clear hq1 hA
    clear hkc
    go_wp2_with (refine wpList_store_row rfl 23 _ _ rfl (w.heap.size + 1) ZL.toArray rfl rfl 23 ZL.toArray HA.out.r1 (info32a _ HZS.out) rfl HZ1.out ?_)
    refine bodyPost_ret (v := .tuple #[.agg ZL.toArray, .int .i64 2]) ?_ rfl ⟨by unfold errV; rw [HZV.out], below_setRow HA.out.below (by omega) _⟩
    exact results_dig2 Tryz.results46 _ _ (w.heap.size + 1) 23 _ (0, 0) _ rfl rfl (setRow_heap _ _ _ _ _ _ HA.out.r1) (info32a _ HZS.out)
end Go.Proofs.YtbmmibmfjhehhaaGreat.R5

/- Contract of the program's Ask, where it answers. -/
namespace Go.Proofs.YtbmmibmfjhehhaaGreat.R5
open scoped Classical
open Go.RowKit

def pAsk (o : Pra) (q : Qn) (f : List UInt8) : List UInt8 × Pra :=
  match fndA q o.log with
  | some A => (A, o)
  | none => (f, { o with log := o.log ++ [(q, f)] })
theorem pAsk_some {o : Pra} {q : Qn} {f A : List UInt8} (h : fndA q o.log = some A) : pAsk o q f = (A, o) := by unfold pAsk; rw [h]
theorem pAsk_none {o : Pra} {q : Qn} {f : List UInt8} (h : fndA q o.log = none) : pAsk o q f = (f, { o with log := o.log ++ [(q, f)] }) := by unfold pAsk; rw [h]
theorem panswer_ideal (B og mb : Nat) (S : Nat → Prop) (dq dv ov : Value) (o : Pra) (q : Qn) (w : World) (hB : B ≤ w.heap.size) (hll : o.log.length < 1000000) (ho : PO B og mb S w o dv ov) (hq : kOk q) (hdq : HB w dq q.data) :
    Calls Tryz.prog 51 #[.pointer (some ⟨og, 0, none⟩), .agg (qL q dq).toArray, .func (.func 64) #[.pointer (some ⟨og, 0, none⟩)] #[]] w fun e w' => PAns B og mb S w (pAsk o q (drawD o.draws o.log.length)).2 dv (pAsk o q (drawD o.draws o.log.length)).1 e w' := by
  cases h : fndA q o.log with
  | some A => rw [pAsk_some h]; exact panswer_found B og mb S dq dv ov o q A _ w hB ho hq hdq h
  | none => rw [pAsk_none h]; exact panswer_draw B og mb S dq dv ov o q w hB hll ho hq hdq h
end Go.Proofs.YtbmmibmfjhehhaaGreat.R5

/- Contracts of wire's Join (again), and the program's Digest. -/
namespace Go.Proofs.YtbmmibmfjhehhaaGreat.R5
open scoped Classical
open Go.RowKit

theorem flat_take (ls : List (List UInt8)) (k : Nat) (h : k < ls.length) : (ls.take (k + 1)).flatten = (ls.take k).flatten ++ ls.getD k [] := by
  rw [List.take_succ_eq_append_getElem h, List.flatten_append]
  simp [List.getD, List.getElem?_eq_getElem h]
theorem flat_le (ls : List (List UInt8)) (k : Nat) : (ls.take k).flatten.length ≤ ls.flatten.length := by
  have h : (ls.take k ++ ls.drop k).flatten = ls.flatten := by rw [List.take_append_drop]
  rw [← h, List.flatten_append, List.length_append]; omega
def HP (w : World) (v : Value) (ls : List (List UInt8)) : Prop := ∃ p cap, v = .slice p ls.length cap ∧ ∀ i, i < ls.length → ∃ g u, p = some ⟨g, 0, none⟩ ∧ w.cell? ⟨g, i, none⟩ = some u ∧ HB w u (ls.getD i [])
theorem hp_below {w w' : World} {v : Value} {ls : List (List UInt8)} (h : HP w v ls) (hb : Below w.heap.size w w') : HP w' v ls := by
  obtain ⟨p, cap, h1, h2⟩ := h
  refine ⟨p, cap, h1, fun i hi => ?_⟩
  obtain ⟨g, u, e, hc, hu⟩ := h2 i hi
  exact ⟨g, u, e, (hb.cell (block_lt hc)).trans hc, hu.below hb⟩
set_option maxHeartbeats 2000000 in
theorem pjoin_any (pv : Value) (ls : List (List UInt8)) (w : World) (hl : ls.length ≤ 1048576) (hr : ls.flatten.length ≤ 1099511627776) (hc : HP w pv ls) :
    Calls Tryz.prog 37 #[pv] w fun e w' => ∃ v, e = .returned v ∧ FB w.heap.size w' v ls.flatten ∧ Below w.heap.size w w' := by
  obtain ⟨p, cap, rfl, hc⟩ := hc
  have HC : Hid _ := hc
  clear hc
  go_enter Tryz.func37, Tryz.ntmps37
  go_wp2
  go_loopw [3, 8] (fun v i wr => ∃ k : Nat, k ≤ ls.length ∧ i = .int .i64 k ∧ FB w.heap.size wr v (ls.take k).flatten ∧ Below w.heap.size w wr) (fun _ i _ => ls.length - (intOf i).toNat)
  case atStart => exact ⟨0, Nat.zero_le _, rfl, World.ownsRow_nil _ _ _ _, Below.refl _ _⟩
  case round =>
    obtain ⟨k, hk, rfl, hown, hbel⟩ := hrel
    have hsz := hbel.size
    by_cases hlt : k < ls.length
    · obtain ⟨g, u, hpg, hu, hbu⟩ := HC.out k hlt
      have hu' : wr.cell? ⟨g, k, none⟩ = some u := (hbel.cell (block_lt hu)).trans hu
      have hbu' := hbu.below hbel
      have hft := flat_take ls k hlt
      have hle := flat_le ls (k + 1)
      rw [hft, List.length_append] at hle
      have HFT : Hid _ := hft
      have HBU : Hid _ := hbu'
      have HOW : Hid (FB w.heap.size wr u3 (ls.take k).flatten) := hown
      subst hpg
      clear hft hbu hu hbu'
      generalize ls.getD k [] = l at *
      generalize (ls.take k).flatten = pl at *
      go_wp2_with (at_builtin; refine wpList_appHB rfl (.tmp 12) (.tmp 13) rfl w.heap.size u3 u pl l rfl rfl HOW.out HBU.out (by omega) hsz ?_; intro v1 w1 hown1 hgr1; have hb1 : Below w.heap.size w w1 := hbel.grown hgr1 hsz (fun j hj => (HOW.out.lt j hj).1))
      go_roundw
      case rel => exact ⟨k + 1, by omega, by go_num, by rw [HFT.out]; exact hown1, hb1⟩
      case measure => simp [intOf]; omega
    · have hke : k = ls.length := by omega
      subst hke
      rw [List.take_length] at hown
      go_wp2
      go_ret
      exact ⟨_, rfl, hown, hbel⟩
end Go.Proofs.YtbmmibmfjhehhaaGreat.R5

/- Contracts of the program's Digest and Key. -/
namespace Go.Proofs.YtbmmibmfjhehhaaGreat.R5
open scoped Classical
open Go.RowKit

set_option maxHeartbeats 4000000 in
set_option maxRecDepth 100000 in
theorem build_q4 (w : World) (a b : Int) (DL : List Value) (h2 : DL.length = 32) (p : Option Addr) (n c : Nat) : (Instr.build 66 #[(0, .int .i64 a), (1, .agg DL.toArray), (2, .int .i64 b), (3, .slice p n c)]).run Tryz.prog w = .ok (.agg (.int .i64 a :: (DL ++ [.int .i64 b, .slice p n c])).toArray) w := by
  iterate 32 (obtain ⟨_, _, e, g⟩ := cons_of h2; clear h2; subst e; have h2 := g; clear g)
  obtain rfl := List.eq_nil_of_length_eq_zero h2
  show _ = _
  kernel_rfl
end Go.Proofs.YtbmmibmfjhehhaaGreat.R5

/- Contracts of the program's Digest and Key, put together. -/
namespace Go.Proofs.YtbmmibmfjhehhaaGreat.R5
open scoped Classical
open Go.RowKit

end Go.Proofs.YtbmmibmfjhehhaaGreat.R5

/- Contracts of slices.Clone at digests, and the program's New. -/
namespace Go.Proofs.YtbmmibmfjhehhaaGreat.R5
open scoped Classical
open Go.RowKit

def dC (ds : List (List UInt8)) : List Value := ds.flatMap fun d => d.map B8
theorem dC_len : ∀ (ds : List (List UInt8)), (∀ d ∈ ds, d.length = 32) → (dC ds).length = ds.length * 32
  | [], _ => rfl
  | d :: ds, h => by
    unfold dC
    rw [List.flatMap_cons, List.length_append, List.length_map, h d (by simp)]
    have := dC_len ds (fun x hx => h x (by simp [hx]))
    unfold dC at this
    rw [this, List.length_cons]; omega
theorem dC_at : ∀ (ds : List (List UInt8)), (∀ d ∈ ds, d.length = 32) → ∀ i, i < ds.length → ∀ j, j < 32 → (dC ds)[i * 32 + j]? = ((ds.getD i []).map B8)[j]?
  | [], _, i, hi, _, _ => by simp at hi
  | d :: ds, h, i, hi, j, hj => by
    have hd : (d.map B8).length = 32 := by simpa using h d (by simp)
    unfold dC
    rw [List.flatMap_cons]
    cases i with
    | zero => rw [Nat.zero_mul, Nat.zero_add, List.getElem?_append_left (by omega)]; rfl
    | succ i =>
      rw [List.getElem?_append_right (by rw [hd]; omega), hd, show (i + 1) * 32 + j - 32 = i * 32 + j by omega]
      have := dC_at ds (fun x hx => h x (by simp [hx])) i (by simpa using hi) j hj
      unfold dC at this
      rw [this]; rfl
theorem dC_one (ds : List (List UInt8)) : ∀ u ∈ dC ds, u.oneCell' = true := by
  intro u hu
  obtain ⟨d, _, hd⟩ := List.mem_flatMap.1 hu
  exact B8_one d u hd
theorem hds_own {B : Nat} {w : World} {v : Value} {ds : List (List UInt8)} (hl : ∀ d ∈ ds, d.length = 32) (h : w.ownsRow B 23 32 v ds.length (dC ds)) : HDs w v ds := by
  refine ⟨hl, ?_⟩
  rcases h.2 with ⟨e1, e2⟩ | ⟨g, cap, cur, e1, e2, e3, e4, e5, e6, e7⟩
  · exact ⟨none, 0, by rw [e1, e2], fun i hi => by omega⟩
  · refine ⟨_, cap, e1, fun i hi => ⟨g, 0, rfl, fun j u hu => ?_⟩⟩
    have hdl : (ds.getD i []).length = 32 := by
      rw [List.getD, List.getElem?_eq_getElem hi]
      exact hl _ (List.getElem_mem hi)
    have hj : j < 32 := by have := (List.getElem?_eq_some_iff.1 hu).1; rw [List.length_map, hdl] at this; exact this
    rw [cell_of_row _ _ _ _ _ _ e3]
    have h1 := dC_at ds hl i hi j hj
    rw [← e7] at h1
    rw [List.getElem?_take, if_pos (by omega)] at h1
    rw [← Array.getElem?_toList, Nat.zero_add, h1]
    exact hu
theorem infoDg : (Tryz.prog.info? 23).map (fun i => (i.zero, i.size, i.bytes)) = some (some (dV (List.replicate 32 0)), 32, 32) := by kernel_rfl
theorem hds_news {w : World} {a : Addr} {n cap : Nat} {ds : List (List UInt8)} (h : HDs w (.slice (some a) n cap) ds) : n = ds.length ∧ ∀ j u, (dC ds)[j]? = some u → w.cell? (a.add j) = some u := by
  obtain ⟨hl, p, c, e, hr⟩ := h
  simp only [Value.slice.injEq] at e
  refine ⟨e.2.1, fun j u hu => ?_⟩
  have hj : j < ds.length * 32 := by have := (List.getElem?_eq_some_iff.1 hu).1; rwa [dC_len ds hl] at this
  obtain ⟨b, o, e1, hr⟩ := hr (j / 32) (by omega)
  have h1 := dC_at ds hl (j / 32) (by omega) (j % 32) (by omega)
  rw [show j / 32 * 32 + j % 32 = j by omega, hu] at h1
  have h2 := hr (j % 32) u h1.symm
  have ha : a = ⟨b, o, none⟩ := by rw [e1] at e; simpa using e.1
  rw [ha, add_none, show o + j = o + j / 32 * 32 + j % 32 by omega]
  exact h2

set_option maxHeartbeats 4000000 in
set_option maxRecDepth 100000 in
theorem cloneD_any (p : Option Addr) (n cap : Nat) (ds : List (List UInt8)) (w : World) (hpc : p = none → cap = 0) (hl : ds.length ≤ 1099511627776) (h : HDs w (.slice p n cap) ds) :
    Calls Tryz.prog 34 #[.slice p n cap] w fun e w' => ∃ v, e = .returned v ∧ w'.ownsRow w.heap.size 23 32 v ds.length (dC ds) ∧ Below w.heap.size w w' := by
  have qT : ∀ (w : World) (r : Option Addr) (n c : Nat), (binOp .eql 24 (.slice r n c) (.slice none 0 0)).run Tryz.prog w = .ok (.bool r.isNone) w := fun w r n c => Lib.run_eql_slice_nil w _ _ r n c 0 0 Tryz.underlying24
  cases p with
  | none =>
    obtain ⟨hl, p, c, e, hr⟩ := h
    have hds : ds = [] := by
      cases ds with
      | nil => rfl
      | cons d ds => obtain ⟨b, o, e1, _⟩ := hr 0 (by simp); simp [e1] at e
    subst hds
    clear hr hl
    go_enter Tryz.func34, Tryz.ntmps34
    go_wp2
    go_ret
    exact ⟨_, rfl, World.ownsRow_nil _ _ _ _, Below.refl _ _⟩
  | some a =>
    obtain ⟨hn, hnews⟩ := hds_news h
    subst hn
    have HN : Hid _ := hnews
    have HL : Hid _ := dC_len ds h.1
    have HO1 : Hid _ := dC_one ds
    clear hnews h
    obtain ⟨i0, hi, hz0, hz1, hz2⟩ := info_parts infoDg
    go_enter Tryz.func34, Tryz.ntmps34
    have HOE : Hid ((w.alloc (.cells #[] 23 (0, 0))).ownsRow w.heap.size 23 32 (.slice (some ⟨w.heap.size, 0, none⟩) 0 0) 0 []) := ⟨rfl, .inr ⟨w.heap.size, 0, #[], rfl, Nat.le_refl _, heap_alloc_new _ _, Nat.le_refl _, by unfold maxLen; omega, rfl, rfl⟩⟩
    have HN' : Hid (∀ j u, (dC ds)[j]? = some u → (w.alloc (.cells #[] 23 (0, 0))).cell? (a.add j) = some u) := fun j u hu => (Below.cell ((Below.refl _ w).alloc (Nat.le_refl _) _) (block_lt (HN.out j u hu))).trans (HN.out j u hu)
    go_wp2_with (at_builtin; refine wpList_append_own _ rfl (.tmp 5) (.tmp 6) 24 rfl w.heap.size 23 i0 (dV (List.replicate 32 0)) 32 32 Tryz.underlying24 hi hz0 hz1 hz2 rfl (by decide) (.slice (some ⟨w.heap.size, 0, none⟩) 0 0) 0 [] rfl HOE.out a ds.length cap (dC ds) rfl HL.out HN'.out HO1.out (by unfold maxLen; omega) (by omega) (by simp) ?_; intro v1 w1 hown1 hgr1 hn1)
    go_ret
    rw [List.nil_append, Nat.zero_add] at hown1
    exact ⟨_, rfl, hown1, ((Below.refl _ w).alloc (Nat.le_refl _) _).grown hgr1 (by simp) (fun k e => by have e' : w.heap.size = k := (by simpa [Value.ownBlock] using e); omega)⟩
end Go.Proofs.YtbmmibmfjhehhaaGreat.R5

/- Contract of the program's New. -/
namespace Go.Proofs.YtbmmibmfjhehhaaGreat.R5
open scoped Classical
open Go.RowKit

set_option maxHeartbeats 4000000 in
set_option maxRecDepth 100000 in
theorem build_po (w : World) (i : Bool) (DL : List Value) (h2 : DL.length = 32) (p : Option Addr) (n c mb : Nat) : (Instr.build 59 #[(0, .bool i), (1, .agg DL.toArray), (2, .slice p n c), (4, .map (some mb))]).run Tryz.prog w = .ok (.agg (.bool i :: (DL ++ [.slice p n c, .slice none 0 0, .map (some mb)])).toArray) w := by
  iterate 32 (obtain ⟨_, _, e, g⟩ := cons_of h2; clear h2; subst e; have h2 := g; clear g)
  obtain rfl := List.eq_nil_of_length_eq_zero h2
  show _ = _
  kernel_rfl
def PNew (w : World) (i : Bool) (m : List UInt8) (ds : List (List UInt8)) (e : Ending) (w' : World) : Prop :=
  ∃ og mb dv, e = .returned (.pointer (some ⟨og, 0, none⟩)) ∧ PO w.heap.size og mb (fun k => k = og ∨ k = mb) w' ⟨i, m, ds, []⟩ dv (.slice none 0 0) ∧ Below w.heap.size w w' ∧ ∀ k, dv.ownBlock = some k → w.heap.size ≤ k
theorem po_new {w W : World} {i : Bool} {m : List UInt8} {ds : List (List UInt8)} {dv : Value} {mb : Nat} (hml : m.length = 32) (hd : W.ownsRow w.heap.size 23 32 dv ds.length (dC ds)) (hdl : ∀ d ∈ ds, d.length = 32) (hm : W.heap[mb]? = some (.map #[] 0)) (hmb : w.heap.size ≤ mb) (hb : Below w.heap.size w W) :
    PO w.heap.size W.heap.size mb (fun k => k = W.heap.size ∨ k = mb) (W.alloc (.cells (pL i m dv (.slice none 0 0) mb).toArray 59 (0, 0))) ⟨i, m, ds, []⟩ dv (.slice none 0 0) := by
  have hmW := row_lt hm
  refine ⟨hml, heap_alloc_new _ _, hds_own hdl (hd.alloc _), fun k e => ?_, ⟨fun x hx => by simp at hx, by simp⟩, World.ownsRow_nil _ _ _ _, ⟨#[], 0, (heap_alloc_old _ _ hmW).trans hm, by simp⟩, .inl rfl, .inr rfl, fun k e => by simp [Value.ownBlock] at e, fun k h => ?_, fun k h => ?_⟩
  · have hk := hd.lt k e
    refine ⟨fun h => h.elim (fun h => by omega) (fun h => ?_), by simp; omega⟩
    subst h
    rcases hd.2 with ⟨e1, _⟩ | ⟨g, cap, cur, e1, _, e3, _⟩
    · rw [e1] at e; cases e
    · rw [e1] at e
      have e' : g = k := by simpa [Value.ownBlock] using e
      rw [e', hm] at e3
      cases e3
  · rcases h with h | h
    · have := hb.size; omega
    · omega
  · rcases h with h | h <;> simp <;> omega
theorem own_lower {B B' : Nat} {e : TypeId} {s : Nat} {v : Value} {n : Nat} {xs : List Value} {w : World} (h : w.ownsRow B e s v n xs) (hB : B' ≤ B) : w.ownsRow B' e s v n xs := by
  refine ⟨h.1, h.2.imp id ?_⟩
  rintro ⟨g, cap, cur, e1, e2, e3⟩
  exact ⟨g, cap, cur, e1, Nat.le_trans hB e2, e3⟩
structure SNw (w : World) (ML : List Value) (X : World) : Prop where
  b : Below w.heap.size w X
  m : X.heap[w.heap.size]? = some (.cells ML.toArray 23 (0, 0))

set_option maxHeartbeats 4000000 in
set_option maxRecDepth 100000 in
theorem pnew_any (i : Bool) (m : List UInt8) (p : Option Addr) (n cap : Nat) (ds : List (List UInt8)) (w : World) (hml : m.length = 32) (hpc : p = none → cap = 0) (hl : ds.length ≤ 1099511627776) (h : HDs w (.slice p n cap) ds) :
    Calls Tryz.prog 18 #[.bool i, .agg (m.map B8).toArray, .slice p n cap] w fun e w' => PNew w i m ds e w' := by
  have hdl := h.1
  have hcl := fun W (hb : Below w.heap.size w W) => cloneD_any p n cap ds W hpc hl (hds_below h hb)
  have HCL : Hid (∀ W, Below w.heap.size w W → Calls Tryz.prog 34 #[.slice p n cap] W fun e w' => ∃ v, e = .returned v ∧ w'.ownsRow W.heap.size 23 32 v ds.length (dC ds) ∧ Below W.heap.size W w') := hcl
  have HML : Hid ((m.map B8).length = 32) := by show _ = _; simpa using hml
  have HMI : Hid _ := info32 (m.map B8) HML.out
  have hb1 : Below w.heap.size w (w.alloc (.cells (m.map B8).toArray 23 (0, 0))).drew := ((Below.refl _ _).alloc (Nat.le_refl _) _).drew
  have HS : Hid (SNw w (m.map B8) (w.alloc (.cells (m.map B8).toArray 23 (0, 0))).drew) := ⟨hb1, heap_at _ _ _ rfl⟩
  have hmm := @run_makeMap Tryz.prog
  clear hcl h hb1
  go_enter Tryz.func18, Tryz.ntmps18
  go_wp2
  refine wp_region_held_drew (S := SNw w (m.map B8)) (by kernel_rfl) HS.out (fun hHeld => ?_)
  generalize (w.alloc (.cells (m.map B8).toArray 23 (0, 0))).drew = W1 at *
  refine wpAnyH_take (i := 0) (oi := ⟨some 7, .move (.tmp 0), 4, _, #[], none⟩) (v := .bool i) rfl (by kernel_rfl) (by kernel_rfl) (by kernel_rfl) (fun _ _ _ h => h) (Or.inl ⟨by rfl, fun w' hw' => ?_⟩) hHeld ?_
  · first | (go_simp; done) | (go_simp; rfl)
  try simp only [Act.put, qT, q0, qS]
  refine wpAnyH_take (i := 1) (oi := ⟨some 8, .load 23 (.tmp 4), 23, _, #[], none⟩) rfl (by kernel_rfl) (by kernel_rfl) (by kernel_rfl) (fun _ _ _ h => h) (yieldsIf_load_mid (by rfl) 23 (.tmp 4) rfl (w.heap.size) (0) rfl (m.map B8) _ (fun _ h => rangeAt_row h.m) Tryz.underlying23 rfl HMI.out) hHeld ?_
  try simp only [Act.put, qT, q0, qS]
  refine wpAnyH_take (i := 2) (oi := ⟨some 9, .move (.tmp 2), 24, _, #[], none⟩) (v := .slice p n cap) rfl (by kernel_rfl) (by kernel_rfl) (by kernel_rfl) (fun _ _ _ h => h) (Or.inl ⟨by rfl, fun w' hw' => ?_⟩) hHeld ?_
  · first | (go_simp; done) | (go_simp; rfl)
  try simp only [Act.put, qT, q0, qS]
  have hs1 := hHeld.b.size
  have hm1 := row_lt hHeld.m
  refine wpAnyH_ready (rs := [3, 4]) (by kernel_rfl) (by simp) ?_
  refine AllReadyH.cons (o := { dst := some 10, op := .call { callee := Go.Callee.value (.func 34), args := #[.tmp 9], argTypes := #[24] }, type := 24, pos := _, after := #[⟨2, .data⟩], guard := none }) rfl (fun K hK => ?_) (AllReadyH.cons (o := ⟨some 11, .makeMap 57 none, 57, _, #[], none⟩) rfl (fun K hK => ?_) AllReadyH.nil)
  all_goals rw [if_pos (by rfl)]
  · go_wp2_with fail
    refine Calls.mono (HCL.out W1 hHeld.b) ?_
    rintro e w2 ⟨v3, rfl, hv3, hb2⟩
    have hs2 := hb2.size
    have hHeld2 : SNw w (m.map B8) w2 := ⟨hHeld.b.trans (hb2.mono (by omega)), (hb2.block _ hm1).trans hHeld.m⟩
    clear hHeld
    refine hK.out _ _ hHeld2 (fun _ => ?_)
    clear hK K
    try simp only [Act.put, qT, q0, qS]
    have hHeld := hHeld2
    refine wpAnyH_ready (rs := [4]) (by kernel_rfl) (by simp) ?_
    refine AllReadyH.cons (o := ⟨some 11, .makeMap 57 none, 57, _, #[], none⟩) rfl (fun K hK => ?_) AllReadyH.nil
    rw [if_pos (by rfl)]
    go_wp2_with fail
    have hHeld3 : SNw w (m.map B8) (w2.alloc (.map #[] 0)) := ⟨hHeld2.b.alloc (by omega) _, (heap_alloc_old _ _ (by omega)).trans hHeld2.m⟩
    refine hK.out _ _ hHeld3 (fun _ => ?_)
    clear hK K
    try simp only [Act.put, qT, q0, qS]
    have HV3 : Hid ((w2.alloc (.map #[] 0)).ownsRow w.heap.size 23 32 v3 ds.length (dC ds)) := own_lower (hv3.alloc _) (by omega)
    obtain ⟨mb, hmb⟩ : ∃ mb, mb = w2.heap.size := ⟨_, rfl⟩
    have HMB : Hid ((w2.alloc (.map #[] 0)).heap[mb]? = some (.map #[] 0)) := by rw [hmb]; exact heap_alloc_new _ _
    rw [← hmb]
    have hmbl : w.heap.size ≤ mb := by omega
    have hHeld := hHeld3
    clear hHeld2 hHeld3 hv3 hb2 hmb
    generalize w2.alloc (.map #[] 0) = U at *
    obtain ⟨p3, c3, hv3⟩ : ∃ p c, v3 = .slice p ds.length c := by
      rcases HV3.out.2 with ⟨e1, e2⟩ | ⟨g, cap, cur, e1, _⟩
      · exact ⟨none, 0, by rw [e1, e2]⟩
      · exact ⟨_, cap, e1⟩
    subst hv3
    have HBK : Hid _ := fun W => build_po W i (m.map B8) HML.out p3 ds.length c3 mb
    have HPL : Hid (Value.bool i :: (m.map B8 ++ [.slice p3 ds.length c3, .slice none 0 0, .map (some mb)]) = pL i m (.slice p3 ds.length c3) (.slice none 0 0) mb) := rfl
    rw [HPL.out] at HBK
    have hPO := po_new (i := i) hml HV3.out hdl HMB.out (by omega) hHeld.b
    have HPO : Hid _ := hPO
    clear HPL hPO
    generalize pL i m (.slice p3 ds.length c3) (.slice none 0 0) mb = PL at *
    refine wpAnyH_take (i := 5) (oi := ⟨some 12, .build 59 #[(0, .tmp 7), (1, .tmp 8), (2, .tmp 10), (4, .tmp 11)], 59, _, #[⟨0, .data⟩, ⟨1, .data⟩, ⟨3, .data⟩, ⟨4, .data⟩], none⟩) (v := .agg PL.toArray) rfl (by kernel_rfl) (by kernel_rfl) (by kernel_rfl) (fun _ _ _ h => h) (Or.inl ⟨by rfl, fun w' hw' => ?_⟩) hHeld ?_
    · exact exec_build _ _ 59 _ _ _ w' rfl (by simp; exact ⟨rfl, rfl, rfl, rfl⟩) (HBK.out w')
    try simp only [Act.put, qT, q0, qS]
    refine wpAnyH_ready (rs := [6]) (by kernel_rfl) (by simp) ?_
    refine AllReadyH.cons (o := ⟨some 13, .box 59 (.tmp 12), 31, _, #[⟨5, .data⟩], none⟩) rfl (fun K hK => ?_) AllReadyH.nil
    rw [if_pos (by rfl)]
    go_wp2_with fail
    have hHeldZ : SNw w (m.map B8) (U.alloc (.cells PL.toArray 59 (0, 0))) := ⟨hHeld.b.alloc (by have := hHeld.b.size; omega) _, (heap_alloc_old _ _ (row_lt hHeld.m)).trans hHeld.m⟩
    refine hK.out _ _ hHeldZ (fun _ => ?_)
    clear hK K
    try simp only [Act.put, qT, q0, qS]
    have hHeld := hHeldZ
    refine wpAnyH_ready (rs := [7]) (by kernel_rfl) (by simp) ?_
    refine AllReadyH.cons (o := ⟨some 6, .assign (.tmp 13), 31, _, #[⟨6, .data⟩, ⟨3, .chain⟩, ⟨0, .phase⟩, ⟨1, .phase⟩, ⟨2, .phase⟩, ⟨3, .phase⟩, ⟨4, .phase⟩, ⟨5, .phase⟩, ⟨6, .phase⟩], none⟩) rfl (fun K hK => ?_) AllReadyH.nil
    rw [if_pos (by rfl)]
    go_wp2_with fail
    refine hK.out _ _ hHeldZ (fun _ => ?_)
    clear hK K
    try simp only [Act.put, qT, q0, qS]
    refine wpAnyH_done (by kernel_rfl) ?_ _
    have HBZ : Hid _ := hHeldZ.b
    clear hHeld hHeldZ
    go_wp2
    go_ret
    exact ⟨_, mb, _, rfl, HPO.out, HBZ.out, fun k e => (HV3.out.lt k e).1⟩
  · go_wp2_with fail
    have hHeld2 : SNw w (m.map B8) (W1.alloc (.map #[] 0)) := ⟨hHeld.b.alloc (by omega) _, (heap_alloc_old _ _ hm1).trans hHeld.m⟩
    have HMW : Hid ((W1.alloc (.map #[] 0)).heap[W1.heap.size]? = some (.map #[] 0)) := heap_alloc_new _ _
    have hs3 : (W1.alloc (.map #[] 0)).heap.size = W1.heap.size + 1 := by simp
    clear hHeld
    refine hK.out _ _ hHeld2 (fun _ => ?_)
    clear hK K
    try simp only [Act.put, qT, q0, qS]
    have hHeld := hHeld2
    refine wpAnyH_ready (rs := [3]) (by kernel_rfl) (by simp) ?_
    refine AllReadyH.cons (o := { dst := some 10, op := .call { callee := Go.Callee.value (.func 34), args := #[.tmp 9], argTypes := #[24] }, type := 24, pos := _, after := #[⟨2, .data⟩], guard := none }) rfl (fun K hK => ?_) AllReadyH.nil
    rw [if_pos (by rfl)]
    go_wp2_with fail
    refine Calls.mono (HCL.out _ hHeld2.b) ?_
    rintro e U ⟨v3, rfl, hv3, hb2⟩
    have hs2 := hb2.size
    obtain ⟨mb, hmb⟩ : ∃ mb, mb = W1.heap.size := ⟨_, rfl⟩
    have hHeld3 : SNw w (m.map B8) U := ⟨hHeld2.b.trans (hb2.mono (by omega)), (hb2.block _ (by omega)).trans hHeld2.m⟩
    have HV3 : Hid (U.ownsRow w.heap.size 23 32 v3 ds.length (dC ds)) := own_lower hv3 (by omega)
    have HMB : Hid (U.heap[mb]? = some (.map #[] 0)) := by rw [hmb]; exact (hb2.block _ (by omega)).trans HMW.out
    rw [← hmb]
    have hmbl : w.heap.size ≤ mb := by omega
    clear hHeld
    refine hK.out _ _ hHeld3 (fun _ => ?_)
    clear hK K
    try simp only [Act.put, qT, q0, qS]
    have hHeld := hHeld3
    clear hHeld2 hHeld3 hv3 hb2 hmb HMW hs3 hs2
    obtain ⟨p3, c3, hv3⟩ : ∃ p c, v3 = .slice p ds.length c := by
      rcases HV3.out.2 with ⟨e1, e2⟩ | ⟨g, cap, cur, e1, _⟩
      · exact ⟨none, 0, by rw [e1, e2]⟩
      · exact ⟨_, cap, e1⟩
    subst hv3
    have HBK : Hid _ := fun W => build_po W i (m.map B8) HML.out p3 ds.length c3 mb
    have HPL : Hid (Value.bool i :: (m.map B8 ++ [.slice p3 ds.length c3, .slice none 0 0, .map (some mb)]) = pL i m (.slice p3 ds.length c3) (.slice none 0 0) mb) := rfl
    rw [HPL.out] at HBK
    have hPO := po_new (i := i) hml HV3.out hdl HMB.out (by omega) hHeld.b
    have HPO : Hid _ := hPO
    clear HPL hPO
    generalize pL i m (.slice p3 ds.length c3) (.slice none 0 0) mb = PL at *
    refine wpAnyH_take (i := 5) (oi := ⟨some 12, .build 59 #[(0, .tmp 7), (1, .tmp 8), (2, .tmp 10), (4, .tmp 11)], 59, _, #[⟨0, .data⟩, ⟨1, .data⟩, ⟨3, .data⟩, ⟨4, .data⟩], none⟩) (v := .agg PL.toArray) rfl (by kernel_rfl) (by kernel_rfl) (by kernel_rfl) (fun _ _ _ h => h) (Or.inl ⟨by rfl, fun w' hw' => ?_⟩) hHeld ?_
    · exact exec_build _ _ 59 _ _ _ w' rfl (by simp; exact ⟨rfl, rfl, rfl, rfl⟩) (HBK.out w')
    try simp only [Act.put, qT, q0, qS]
    refine wpAnyH_ready (rs := [6]) (by kernel_rfl) (by simp) ?_
    refine AllReadyH.cons (o := ⟨some 13, .box 59 (.tmp 12), 31, _, #[⟨5, .data⟩], none⟩) rfl (fun K hK => ?_) AllReadyH.nil
    rw [if_pos (by rfl)]
    go_wp2_with fail
    have hHeldZ : SNw w (m.map B8) (U.alloc (.cells PL.toArray 59 (0, 0))) := ⟨hHeld.b.alloc (by have := hHeld.b.size; omega) _, (heap_alloc_old _ _ (row_lt hHeld.m)).trans hHeld.m⟩
    refine hK.out _ _ hHeldZ (fun _ => ?_)
    clear hK K
    try simp only [Act.put, qT, q0, qS]
    have hHeld := hHeldZ
    refine wpAnyH_ready (rs := [7]) (by kernel_rfl) (by simp) ?_
    refine AllReadyH.cons (o := ⟨some 6, .assign (.tmp 13), 31, _, #[⟨6, .data⟩, ⟨3, .chain⟩, ⟨0, .phase⟩, ⟨1, .phase⟩, ⟨2, .phase⟩, ⟨3, .phase⟩, ⟨4, .phase⟩, ⟨5, .phase⟩, ⟨6, .phase⟩], none⟩) rfl (fun K hK => ?_) AllReadyH.nil
    rw [if_pos (by rfl)]
    go_wp2_with fail
    refine hK.out _ _ hHeldZ (fun _ => ?_)
    clear hK K
    try simp only [Act.put, qT, q0, qS]
    refine wpAnyH_done (by kernel_rfl) ?_ _
    have HBZ : Hid _ := hHeldZ.b
    clear hHeld hHeldZ
    go_wp2
    go_ret
    exact ⟨_, mb, _, rfl, HPO.out, HBZ.out, fun k e => (HV3.out.lt k e).1⟩
end Go.Proofs.YtbmmibmfjhehhaaGreat.R5

/- Contract of the program's Text. -/
namespace Go.Proofs.YtbmmibmfjhehhaaGreat.R5
open scoped Classical
open Go.RowKit

theorem wp_bslice {op : Oper} {a : Act} {w w' : World} {K : Act → World → Prop} {Q : Exit → Act → World → Prop} (t : TypeId) (n : Nat) (parts : Array (Nat × Operand)) (ho : op.op = .buildSlice t n parts) (vals : Array (Nat × Value)) (v : Value) (hp : (parts.map fun (i, x) => (i, a.eval x)) = vals)
    (hr : (Instr.buildSlice t n vals).run Tryz.prog w = .ok v w') (h : K (a.put op.dst v) w') : op.wp Tryz.prog a w K Q := by
  unfold Oper.wp execOp
  simp only [ho, Sem.run_bind, hp, hr, Result.andThen_ok]
  exact h
theorem bs_byte1 (w : World) (c : Int) : (Instr.buildSlice 64 1 #[(0, .int .u8 c)]).run Tryz.prog w = .ok (.slice (some ⟨w.heap.size, 0, none⟩) 1 1) (w.alloc (.cells #[.int .u8 c] 5 (0, 0))) := by kernel_rfl
theorem bs_four (w : World) (p1 p2 p3 p4 : Option Addr) (n1 n2 n3 n4 c1 c2 c3 c4 : Nat) : (Instr.buildSlice 93 4 #[(0, .slice p1 n1 c1), (1, .slice p2 n2 c2), (2, .slice p3 n3 c3), (3, .slice p4 n4 c4)]).run Tryz.prog w = .ok (.slice (some ⟨w.heap.size, 0, none⟩) 4 4) (w.alloc (.cells #[.slice p1 n1 c1, .slice p2 n2 c2, .slice p3 n3 c3, .slice p4 n4 c4] 64 (0, 0))) := by kernel_rfl
theorem hp_four (U : World) (a b c d : Value) (l1 l2 l3 l4 : List UInt8) (h1 : HB U a l1) (h2 : HB U b l2) (h3 : HB U c l3) (h4 : HB U d l4) : HP (U.alloc (.cells #[a, b, c, d] 64 (0, 0))) (.slice (some ⟨U.heap.size, 0, none⟩) 4 4) [l1, l2, l3, l4] := by
  have hr := heap_alloc_new U (.cells #[a, b, c, d] 64 (0, 0))
  refine ⟨_, 4, rfl, fun i hi => ?_⟩
  have hi' : i < 4 := by simpa using hi
  match i, hi' with
  | 0, _ => exact ⟨U.heap.size, a, rfl, by rw [cell_of_row _ _ 0 _ _ _ hr]; rfl, hb_alloc h1 _⟩
  | 1, _ => exact ⟨U.heap.size, b, rfl, by rw [cell_of_row _ _ 1 _ _ _ hr]; rfl, hb_alloc h2 _⟩
  | 2, _ => exact ⟨U.heap.size, c, rfl, by rw [cell_of_row _ _ 2 _ _ _ hr]; rfl, hb_alloc h3 _⟩
  | 3, _ => exact ⟨U.heap.size, d, rfl, by rw [cell_of_row _ _ 3 _ _ _ hr]; rfl, hb_alloc h4 _⟩
structure STx (w : World) (PA : Array Value) (X : World) : Prop where
  b : Below w.heap.size w X
  q : X.heap[w.heap.size]? = some (.cells PA 66 (0, 0))
theorem STx.step {w : World} {PA : Array Value} {X Y : World} (h : STx w PA X) (hb : Below X.heap.size X Y) : STx w PA Y := ⟨h.b.trans (hb.mono h.b.size), (hb.block _ (row_lt h.q)).trans h.q⟩
theorem STx.alloc {w : World} {PA : Array Value} {X : World} (h : STx w PA X) (ob : Obj) : STx w PA (X.alloc ob) := h.step ((Below.refl _ _).alloc (Nat.le_refl _) _)

set_option maxHeartbeats 4000000 in
set_option maxRecDepth 100000 in
theorem ptext_any (v : Value) (q : Qn) (w : World) (hl : q.data.length ≤ 1099511000000) (h : HQ w v q) : Calls Tryz.prog 71 #[v] w fun e w' => ∃ u, e = .returned u ∧ FB w.heap.size w' u (textQ q) ∧ Below w.heap.size w w' := by
  obtain ⟨hk, dv, rfl, hd⟩ := h
  obtain ⟨PA, hPA⟩ : ∃ A, A = (qL q dv).toArray := ⟨_, rfl⟩
  have HR : Hid (∀ W : World, W.heap[w.heap.size]? = some (.cells PA 66 (0, 0)) → W.cell? ⟨w.heap.size, 0, none⟩ = some (.int .i64 q.kind) ∧ W.rangeAt w.heap.size 1 (q.key.map B8) ∧ W.cell? ⟨w.heap.size, 33, none⟩ = some (.int .i64 q.dom) ∧ W.cell? ⟨w.heap.size, 34, none⟩ = some dv) := fun W hW => by
    rw [hPA] at hW; exact q_facts' hk hW
  have HT : Hid (textQ q = [lowB q.kind] ++ q.key ++ [lowB q.dom] ++ q.data) := rfl
  rw [← hPA]
  have HS : Hid (STx w PA (w.alloc (.cells PA 66 (0, 0))).drew) := ⟨((Below.refl _ _).alloc (Nat.le_refl _) _).drew, heap_at _ _ _ rfl⟩
  have HKL : Hid _ := hk
  have hm1 := lowB_nat q.kind
  have hm2 := lowB_nat q.dom
  obtain ⟨T, hT⟩ : ∃ T, T = textQ q := ⟨_, rfl⟩
  rw [← hT] at HT ⊢
  obtain ⟨kd, ky, dm, da⟩ := q
  simp only at *
  generalize hc1 : lowB kd = c1 at *
  generalize hc2 : lowB dm = c2 at *
  have m1 : IntKind.u8.wrap kd = (c1.toNat : Int) := by rw [IntKind.wrap_u8]; omega
  have m2 : IntKind.u8.wrap dm = (c2.toNat : Int) := by rw [IntKind.wrap_u8]; omega
  have hsl := fun W => sliceDig W w.heap.size 1
  obtain ⟨pd, cd, hdv, _⟩ := hb_cells hd
  subst hdv
  have HDB : Hid (∀ W, Below w.heap.size w W → HB W (.slice pd da.length cd) da) := fun W hW => hd.below hW
  clear hPA hd hk hT hc1 hc2 hm1 hm2
  go_enter Tryz.func71, Tryz.ntmps71
  go_wp2
  refine wp_region_held_drew (S := STx w PA) (by kernel_rfl) HS.out (fun hHeld => ?_)
  generalize (w.alloc (.cells PA 66 (0, 0))).drew = W at *
  refine wpAnyH_take (i := 0) (oi := ⟨some 3, .fieldAddr 66 (.tmp 1) 0, 0, _, #[], none⟩) (v := .pointer (some ⟨w.heap.size, 0, none⟩)) rfl (by kernel_rfl) (by kernel_rfl) (by kernel_rfl) (fun _ _ _ h => h) (Or.inl ⟨by rfl, fun w' hw' => ?_⟩) hHeld ?_
  · first | (go_simp; done) | (go_simp; rfl)
  try simp only [Act.put, qT, q0, qS]
  refine wpAnyH_take (i := 1) (oi := ⟨some 4, .load 60 (.tmp 3), 60, _, #[⟨0, .data⟩], none⟩) (v := .int .i64 kd) rfl (by kernel_rfl) (by kernel_rfl) (by kernel_rfl) (fun _ _ _ h => h) (Or.inl ⟨by rfl, fun w' hw' => ?_⟩) hHeld ?_
  · have hcc := (HR.out w' hw'.q).1; first | (go_simp; done) | (go_simp; rfl)
  try simp only [Act.put, qT, q0, qS]
  refine wpAnyH_take (i := 2) (oi := ⟨some 5, .convert 60 5 (.tmp 4), 5, _, #[⟨1, .data⟩], none⟩) (v := .int .u8 (c1.toNat : Int)) rfl (by kernel_rfl) (by kernel_rfl) (by kernel_rfl) (fun _ _ _ h => h) (Or.inl ⟨by rfl, fun w' hw' => ?_⟩) hHeld ?_
  · first | (go_simp; done) | (go_simp; rfl)
  try simp only [Act.put, qT, q0, qS]
  refine wpAnyH_take (i := 4) (oi := ⟨some 7, .fieldAddr 66 (.tmp 1) 1, 0, _, #[], none⟩) (v := .pointer (some ⟨w.heap.size, 1, none⟩)) rfl (by kernel_rfl) (by kernel_rfl) (by kernel_rfl) (fun _ _ _ h => h) (Or.inl ⟨by rfl, fun w' hw' => ?_⟩) hHeld ?_
  · first | (go_simp; done) | (go_simp; rfl)
  try simp only [Act.put, qT, q0, qS]
  refine wpAnyH_take (i := 5) (oi := ⟨some 8, .slice 23 (.tmp 7) none none none, 64, _, #[⟨4, .data⟩], none⟩) (v := .slice (some ⟨w.heap.size, 1, none⟩) 32 32) rfl (by kernel_rfl) (by kernel_rfl) (by kernel_rfl) (fun _ _ _ h => h) (Or.inl ⟨by rfl, fun w' hw' => ?_⟩) hHeld ?_
  · first | (go_simp; done) | (go_simp; rfl)
  try simp only [Act.put, qT, q0, qS]
  refine wpAnyH_take (i := 6) (oi := ⟨some 9, .fieldAddr 66 (.tmp 1) 2, 0, _, #[], none⟩) (v := .pointer (some ⟨w.heap.size, 33, none⟩)) rfl (by kernel_rfl) (by kernel_rfl) (by kernel_rfl) (fun _ _ _ h => h) (Or.inl ⟨by rfl, fun w' hw' => ?_⟩) hHeld ?_
  · first | (go_simp; done) | (go_simp; rfl)
  try simp only [Act.put, qT, q0, qS]
  refine wpAnyH_take (i := 7) (oi := ⟨some 10, .load 61 (.tmp 9), 61, _, #[⟨6, .data⟩], none⟩) (v := .int .i64 dm) rfl (by kernel_rfl) (by kernel_rfl) (by kernel_rfl) (fun _ _ _ h => h) (Or.inl ⟨by rfl, fun w' hw' => ?_⟩) hHeld ?_
  · have hcc := (HR.out w' hw'.q).2.2.1; first | (go_simp; done) | (go_simp; rfl)
  try simp only [Act.put, qT, q0, qS]
  refine wpAnyH_take (i := 8) (oi := ⟨some 11, .convert 61 5 (.tmp 10), 5, _, #[⟨7, .data⟩], none⟩) (v := .int .u8 (c2.toNat : Int)) rfl (by kernel_rfl) (by kernel_rfl) (by kernel_rfl) (fun _ _ _ h => h) (Or.inl ⟨by rfl, fun w' hw' => ?_⟩) hHeld ?_
  · first | (go_simp; done) | (go_simp; rfl)
  try simp only [Act.put, qT, q0, qS]
  refine wpAnyH_take (i := 10) (oi := ⟨some 13, .fieldAddr 66 (.tmp 1) 3, 0, _, #[], none⟩) (v := .pointer (some ⟨w.heap.size, 34, none⟩)) rfl (by kernel_rfl) (by kernel_rfl) (by kernel_rfl) (fun _ _ _ h => h) (Or.inl ⟨by rfl, fun w' hw' => ?_⟩) hHeld ?_
  · first | (go_simp; done) | (go_simp; rfl)
  try simp only [Act.put, qT, q0, qS]
  refine wpAnyH_take (i := 11) (oi := ⟨some 14, .load 64 (.tmp 13), 64, _, #[⟨10, .data⟩], none⟩) (v := .slice pd da.length cd) rfl (by kernel_rfl) (by kernel_rfl) (by kernel_rfl) (fun _ _ _ h => h) (Or.inl ⟨by rfl, fun w' hw' => ?_⟩) hHeld ?_
  · have hcc := (HR.out w' hw'.q).2.2.2; first | (go_simp; done) | (go_simp; rfl)
  try simp only [Act.put, qT, q0, qS]
  refine wpAnyH_ready (rs := [3, 9]) (by kernel_rfl) (by simp) ?_
  refine AllReadyH.cons (o := ⟨some 6, .buildSlice 64 1 #[(0, .tmp 5)], 64, _, #[⟨2, .data⟩], none⟩) rfl (fun K hK => ?_) (AllReadyH.cons (o := ⟨some 12, .buildSlice 64 1 #[(0, .tmp 11)], 64, _, #[⟨8, .data⟩], none⟩) rfl (fun K hK => ?_) AllReadyH.nil)
  all_goals rw [if_pos (by rfl)]
  · refine wp_bslice 64 1 _ rfl _ _ (by simp; first | done | rfl) (bs_byte1 W c1.toNat) ?_
    have hH1 := hHeld.alloc (.cells #[.int .u8 (c1.toNat : Int)] 5 (0, 0))
    have hg1 := hb_new W _ rfl (.int .u8 (c1.toNat : Int)) c1 rfl
    clear hHeld
    refine hK.out _ _ hH1 (fun _ => ?_)
    clear hK K
    try simp only [Act.put, qT, q0, qS]
    have hHeld := hH1
    refine wpAnyH_ready (rs := [9]) (by kernel_rfl) (by simp) ?_
    refine AllReadyH.cons (o := ⟨some 12, .buildSlice 64 1 #[(0, .tmp 11)], 64, _, #[⟨8, .data⟩], none⟩) rfl (fun K hK => ?_) AllReadyH.nil
    rw [if_pos (by rfl)]
    refine wp_bslice 64 1 _ rfl _ _ (by simp; first | done | rfl) (bs_byte1 _ c2.toNat) ?_
    have hH2 := hH1.alloc (.cells #[.int .u8 (c2.toNat : Int)] 5 (0, 0))
    have HG2 : Hid _ := hb_new (W.alloc (.cells #[.int .u8 (c1.toNat : Int)] 5 (0, 0))) _ rfl (.int .u8 (c2.toNat : Int)) c2 rfl
    have HG1 : Hid _ := hb_alloc hg1 (.cells #[.int .u8 (c2.toNat : Int)] 5 (0, 0))
    clear hHeld hH1 hg1
    refine hK.out _ _ hH2 (fun _ => ?_)
    clear hK K
    try simp only [Act.put, qT, q0, qS]
    have hHeld := hH2
    clear hH2
    generalize (W.alloc (.cells #[.int .u8 (c1.toNat : Int)] 5 (0, 0))).alloc (.cells #[.int .u8 (c2.toNat : Int)] 5 (0, 0)) = U at *
    generalize (W.alloc (.cells #[.int .u8 (c1.toNat : Int)] 5 (0, 0))).heap.size = g2 at *
    generalize W.heap.size = g1 at *
    refine wpAnyH_ready (rs := [12]) (by kernel_rfl) (by simp) ?_
    refine AllReadyH.cons (o := ⟨some 15, .buildSlice 93 4 #[(0, .tmp 6), (1, .tmp 8), (2, .tmp 12), (3, .tmp 14)], 93, _, #[⟨3, .data⟩, ⟨5, .data⟩, ⟨9, .data⟩, ⟨11, .data⟩], none⟩) rfl (fun K hK => ?_) AllReadyH.nil
    rw [if_pos (by rfl)]
    refine wp_bslice 93 4 _ rfl _ _ (by simp; exact ⟨rfl, rfl, rfl, rfl⟩) (bs_four U _ _ _ _ _ _ _ _ _ _ _ _) ?_
    have hHU := hHeld.alloc (.cells #[.slice (some ⟨g1, 0, none⟩) 1 1, .slice (some ⟨w.heap.size, 1, none⟩) 32 32, .slice (some ⟨g2, 0, none⟩) 1 1, .slice pd da.length cd] 64 (0, 0))
    have hHP := hp_four U _ _ _ _ [c1] ky [c2] da HG1.out (hb_range 32 HKL.out.symm (by rw [HKL.out]; decide) (HR.out U hHeld.q).2.1) HG2.out (HDB.out U hHeld.b)
    clear hHeld
    refine hK.out _ _ hHU (fun _ => ?_)
    clear hK K
    try simp only [Act.put, qT, q0, qS]
    have hHeld := hHU
    refine wpAnyH_ready (rs := [13]) (by kernel_rfl) (by simp) ?_
    refine AllReadyH.cons (o := { dst := some 16, op := .call { callee := Go.Callee.value (.func 37), args := #[.tmp 15], argTypes := #[93] }, type := 64, pos := _, after := #[⟨12, .data⟩], guard := none }) rfl (fun K hK => ?_) AllReadyH.nil
    rw [if_pos (by rfl)]
    go_wp2_with fail
    refine (pjoin_any _ [[c1], ky, [c2], da] _ (by simp) (by simp [HKL.out]; omega) hHP).mono ?_
    rintro e w4 ⟨v4, rfl, hf4, hb4⟩
    have hH4 := hHU.step hb4
    refine hK.out _ _ hH4 (fun _ => ?_)
    clear hK K
    try simp only [Act.put, qT, q0, qS]
    have hHeld := hH4
    refine wpAnyH_ready (rs := [14]) (by kernel_rfl) (by simp) ?_
    refine AllReadyH.cons (o := ⟨some 2, .assign (.tmp 16), 64, _, #[⟨13, .data⟩, ⟨13, .chain⟩, ⟨0, .phase⟩, ⟨1, .phase⟩, ⟨2, .phase⟩, ⟨3, .phase⟩, ⟨4, .phase⟩, ⟨5, .phase⟩, ⟨6, .phase⟩, ⟨7, .phase⟩, ⟨8, .phase⟩, ⟨9, .phase⟩, ⟨10, .phase⟩, ⟨11, .phase⟩, ⟨12, .phase⟩, ⟨13, .phase⟩], none⟩) rfl (fun K hK => ?_) AllReadyH.nil
    rw [if_pos (by rfl)]
    go_wp2_with fail
    refine hK.out _ _ hH4 (fun _ => ?_)
    clear hK K
    try simp only [Act.put, qT, q0, qS]
    refine wpAnyH_done (by kernel_rfl) ?_ _
    have HF4 : Hid (FB w.heap.size w4 v4 T) := by
      rw [HT.out]
      have := fb_lower hf4 hHU.b.size
      show FB w.heap.size w4 v4 _
      simpa using this
    have HB4 : Hid _ := hH4.b
    clear hHeld hH4 hHU hHP hf4 hb4
    go_wp2
    go_ret
    exact ⟨_, rfl, HF4.out, HB4.out⟩
  · refine wp_bslice 64 1 _ rfl _ _ (by simp; first | done | rfl) (bs_byte1 W c2.toNat) ?_
    have hH1 := hHeld.alloc (.cells #[.int .u8 (c2.toNat : Int)] 5 (0, 0))
    have hg1 := hb_new W _ rfl (.int .u8 (c2.toNat : Int)) c2 rfl
    clear hHeld
    refine hK.out _ _ hH1 (fun _ => ?_)
    clear hK K
    try simp only [Act.put, qT, q0, qS]
    have hHeld := hH1
    refine wpAnyH_ready (rs := [3]) (by kernel_rfl) (by simp) ?_
    refine AllReadyH.cons (o := ⟨some 6, .buildSlice 64 1 #[(0, .tmp 5)], 64, _, #[⟨2, .data⟩], none⟩) rfl (fun K hK => ?_) AllReadyH.nil
    rw [if_pos (by rfl)]
    refine wp_bslice 64 1 _ rfl _ _ (by simp; first | done | rfl) (bs_byte1 _ c1.toNat) ?_
    have hH2 := hH1.alloc (.cells #[.int .u8 (c1.toNat : Int)] 5 (0, 0))
    have HG1 : Hid _ := hb_new (W.alloc (.cells #[.int .u8 (c2.toNat : Int)] 5 (0, 0))) _ rfl (.int .u8 (c1.toNat : Int)) c1 rfl
    have HG2 : Hid _ := hb_alloc hg1 (.cells #[.int .u8 (c1.toNat : Int)] 5 (0, 0))
    clear hHeld hH1 hg1
    refine hK.out _ _ hH2 (fun _ => ?_)
    clear hK K
    try simp only [Act.put, qT, q0, qS]
    have hHeld := hH2
    clear hH2
    generalize (W.alloc (.cells #[.int .u8 (c2.toNat : Int)] 5 (0, 0))).alloc (.cells #[.int .u8 (c1.toNat : Int)] 5 (0, 0)) = U at *
    generalize (W.alloc (.cells #[.int .u8 (c2.toNat : Int)] 5 (0, 0))).heap.size = g1 at *
    generalize W.heap.size = g2 at *
    refine wpAnyH_ready (rs := [12]) (by kernel_rfl) (by simp) ?_
    refine AllReadyH.cons (o := ⟨some 15, .buildSlice 93 4 #[(0, .tmp 6), (1, .tmp 8), (2, .tmp 12), (3, .tmp 14)], 93, _, #[⟨3, .data⟩, ⟨5, .data⟩, ⟨9, .data⟩, ⟨11, .data⟩], none⟩) rfl (fun K hK => ?_) AllReadyH.nil
    rw [if_pos (by rfl)]
    refine wp_bslice 93 4 _ rfl _ _ (by simp; exact ⟨rfl, rfl, rfl, rfl⟩) (bs_four U _ _ _ _ _ _ _ _ _ _ _ _) ?_
    have hHU := hHeld.alloc (.cells #[.slice (some ⟨g1, 0, none⟩) 1 1, .slice (some ⟨w.heap.size, 1, none⟩) 32 32, .slice (some ⟨g2, 0, none⟩) 1 1, .slice pd da.length cd] 64 (0, 0))
    have hHP := hp_four U _ _ _ _ [c1] ky [c2] da HG1.out (hb_range 32 HKL.out.symm (by rw [HKL.out]; decide) (HR.out U hHeld.q).2.1) HG2.out (HDB.out U hHeld.b)
    clear hHeld
    refine hK.out _ _ hHU (fun _ => ?_)
    clear hK K
    try simp only [Act.put, qT, q0, qS]
    have hHeld := hHU
    refine wpAnyH_ready (rs := [13]) (by kernel_rfl) (by simp) ?_
    refine AllReadyH.cons (o := { dst := some 16, op := .call { callee := Go.Callee.value (.func 37), args := #[.tmp 15], argTypes := #[93] }, type := 64, pos := _, after := #[⟨12, .data⟩], guard := none }) rfl (fun K hK => ?_) AllReadyH.nil
    rw [if_pos (by rfl)]
    go_wp2_with fail
    refine (pjoin_any _ [[c1], ky, [c2], da] _ (by simp) (by simp [HKL.out]; omega) hHP).mono ?_
    rintro e w4 ⟨v4, rfl, hf4, hb4⟩
    have hH4 := hHU.step hb4
    refine hK.out _ _ hH4 (fun _ => ?_)
    clear hK K
    try simp only [Act.put, qT, q0, qS]
    have hHeld := hH4
    refine wpAnyH_ready (rs := [14]) (by kernel_rfl) (by simp) ?_
    refine AllReadyH.cons (o := ⟨some 2, .assign (.tmp 16), 64, _, #[⟨13, .data⟩, ⟨13, .chain⟩, ⟨0, .phase⟩, ⟨1, .phase⟩, ⟨2, .phase⟩, ⟨3, .phase⟩, ⟨4, .phase⟩, ⟨5, .phase⟩, ⟨6, .phase⟩, ⟨7, .phase⟩, ⟨8, .phase⟩, ⟨9, .phase⟩, ⟨10, .phase⟩, ⟨11, .phase⟩, ⟨12, .phase⟩, ⟨13, .phase⟩], none⟩) rfl (fun K hK => ?_) AllReadyH.nil
    rw [if_pos (by rfl)]
    go_wp2_with fail
    refine hK.out _ _ hH4 (fun _ => ?_)
    clear hK K
    try simp only [Act.put, qT, q0, qS]
    refine wpAnyH_done (by kernel_rfl) ?_ _
    have HF4 : Hid (FB w.heap.size w4 v4 T) := by
      rw [HT.out]
      have := fb_lower hf4 hHU.b.size
      show FB w.heap.size w4 v4 _
      simpa using this
    have HB4 : Hid _ := hH4.b
    clear hHeld hH4 hHU hHP hf4 hb4
    go_wp2
    go_ret
    exact ⟨_, rfl, HF4.out, HB4.out⟩
end Go.Proofs.YtbmmibmfjhehhaaGreat.R5
