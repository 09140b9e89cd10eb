import Derived.Test.YtekbppfocnbhbaaGreatWm
import Derived.Test.YtekbppfocnbhbaaGreatXB
import Derived.Test.YtekbppfocnbhbaaGreatPM
set_option linter.unusedVariables false
set_option linter.unusedSimpArgs false
set_option maxHeartbeats 16000000
set_option maxRecDepth 100000
namespace Go.Proofs.YtekbppfocnbhbaaGreat.R5
open scoped Classical
open Go.RowKit
theorem PO.lower {B B' og mb : Nat} {S : Nat → Prop} {w : World} {o : Pra} {dv ov : Value} (h : PO B og mb S w o dv ov) (hB : B' ≤ B) : PO B' og mb S w o dv ov :=
  ⟨h.ml, h.row, h.draws, h.dro, h.ok, own_lower h.order hB, h.map, h.sog, h.smb, h.sov, fun k hk => Nat.le_trans hB (h.low k hk), h.top⟩
theorem MM.start3 {w X Y : World} {og mb rg : Nat} {m : List UInt8} {D : List (List UInt8)} {dv v0 : Value} (hpo : PO w.heap.size og mb (fun k => k = og ∨ k = mb) X ⟨true, m, D, []⟩ dv (.slice none 0 0)) (hb : Below w.heap.size w X) (hbY : Below w.heap.size w Y) (hD : HDs w v0 D) (hk : ∀ k, k < X.heap.size → (k = og ∨ k = mb) ∨ dv.ownBlock = some k → Y.heap[k]? = X.heap[k]?)
    (hr : Y.heap[rg]? = some (.cells (oL true m v0 0 (.slice none 0 0)).toArray 94 (0, 0))) (hrg : X.heap.size ≤ rg) :
    MM w X.heap.size Y.heap.size og mb rg m D [] [] (fun k => X.heap.size ≤ k ∧ k < Y.heap.size ∧ k ≠ rg) Y Y := by
  have hs := hb.size
  have hrY := row_lt hr
  refine ⟨⟨_, dv, _, fun k => k = rg, v0, .slice none 0 0, [], hpo.keep (by omega) hk, ⟨hpo.ml, hr, hds_below hD hbY, fun hne k e => ?_, ⟨fun e he => by simp [rr] at he, rfl, World.ownsRow_nil _ _ _ _, fun i e d he => by simp [rr] at he⟩, rfl, fun k e => by simp [Value.ownBlock] at e, fun d hd => by simp at hd, fun k hk => by rw [hk]; omega, fun k hk => by rw [hk]; exact hrY⟩, fun k hS hT => ?_, fun k e => ?_, fun k hk => ⟨fun hS => ?_, fun hT => hk.2.2 hT, hk.2.1⟩, fun k hk => by rw [hk]; exact hrY⟩, hbY, ⟨hs, by omega⟩, fun k hk => rfl⟩
  · have hne : D ≠ [] := hne
    obtain ⟨h0, p, cap, h1, h2⟩ := hD
    obtain ⟨b, o, hp, hr⟩ := h2 0 (List.length_pos_iff.2 hne)
    have hbk : b = k := by rw [h1, hp] at e; simpa [Value.ownBlock] using e
    have hl : (D.getD 0 []).length = 32 := by
      rw [List.getD_eq_getElem?_getD, List.getElem?_eq_getElem (List.length_pos_iff.2 hne)]
      exact h0 _ (List.getElem_mem _)
    have := block_lt (hr 0 (B8 ((D.getD 0 [])[0]'(by omega))) (by rw [List.getElem?_map, List.getElem?_eq_getElem (by omega)]; rfl))
    rw [← hbk]; exact this
  · have := hpo.top k hS; omega
  · have h1 := (hpo.dro k e).2
    exact ⟨fun hT => by rw [hT] at h1; omega, h1⟩
  · have := hpo.top k hS; omega
theorem build_ora (w : World) (p : Option Addr) (n c : Nat) : (Instr.build 94 #[(0, .bool true), (2, .slice p n c)]).run Tryz.prog w = .ok (.agg (oL true (List.replicate 32 0) (.slice p n c) 0 (.slice none 0 0)).toArray) w := by kernel_rfl
end Go.Proofs.YtekbppfocnbhbaaGreat.R5
namespace Go.Proofs.YtekbppfocnbhbaaGreat.XC
open Go.RowKit
def itL (x : En) : List Value := .int .i64 x.1 :: rmL x.2.1 x.2.2
def itC (l : List En) : List Value := l.flatMap itL
structure RX (c : Cx) (rb : Nat) (I : Nat → Prop) (X : World) (rl : List En) (last : Nat) (av : Value) : Prop where
  row : X.heap[rb]? = some (.cells #[.pointer (some ⟨c.rg, 0, none⟩), av, PC.U8 last] 58 (0, 0))
  own : X.ownsRow 0 54 104 av rl.length (itC rl)
  ok : ∀ x ∈ rl, x.2.1.ok
  logs : ∀ x ∈ rl, HR X x.2.2 x.2.1.log
  lI : ∀ x ∈ rl, ∀ k, x.2.2.ownBlock = some k → I k ∧ k ≠ rb ∧ av.ownBlock ≠ some k
  fI : I rb ∧ c.n ≤ rb
  aI : ∀ k, av.ownBlock = some k → I k ∧ c.n ≤ k ∧ k ≠ rb
def ab (l : List En) : List (Int × Rm) := l.map fun x => (x.1, x.2.1)
structure JR (c : Cx) (rb tn : Nat) (L : Lg) (I : Nat → Prop) (X : World) (l rl : List En) (last : Nat) (av : Value) : Prop where
  jp : JP c tn L L I X l last
  rx : RX c rb I X rl last av
  ab : ab rl = ab l
  d1 : ¬ FP c.xb c.mb l rb
  d2 : ∀ k, av.ownBlock = some k → ¬ FP c.xb c.mb l k
  d3 : ∀ x ∈ rl, ∀ k, x.2.2.ownBlock = some k → ¬ FP c.xb c.mb l k
theorem new_ok (og mo : Nat) (w : World) (hc : w.cell? ⟨og, 35, none⟩ = some (.map (some mo))) : Calls Tryz.prog 23 #[.pointer (some ⟨og, 0, none⟩)] w fun e w' => ∃ w1, e = .returned (.pointer (some ⟨w1.heap.size + 1, 0, none⟩)) ∧ Below w.heap.size w w1 ∧ w' = (w1.alloc (.map #[] 0)).alloc (.cells (xL og w1.heap.size 0).toArray 80 (0, 0)) := by
  have HN : Hid _ := noOr_no og mo w hc
  have hmm := @run_makeMap Tryz.prog
  clear hc
  go_enter Tryz.func23, Tryz.ntmps23
  go_wp2_with fail
  refine Calls.mono HN.out ?_
  rintro e w1 ⟨rfl, hb⟩
  have HB : Hid (Below w.heap.size w w1) := hb
  clear hb HN
  go_wp2
  go_ret
  exact ⟨w1, by simp, HB.out, rfl⟩
theorem mr_empty (w : World) (mb : Nat) (h : w.heap[mb]? = some (.map #[] 0)) : MR w mb [] := ⟨⟨#[], 0, h, rfl, MapKept.stamped_empty 0⟩, fun x hx => (List.not_mem_nil hx).elim, by simp⟩
def BgEnd (w : World) (D : List (List UInt8)) (e : Ending) (Y : World) : Prop := ∃ c rb tn I, e = .returned (.agg #[.pointer (some ⟨c.og, 0, none⟩), .pointer (some ⟨c.xb, 0, none⟩), .pointer (some ⟨rb, 0, none⟩)]) ∧ c.w = w ∧ c.m = Z0 ∧ (c.D = D ∧ c.Sn = []) ∧ JR c rb tn [] I Y [] [] 0 (.slice none 0 0)
theorem jr_start {w Y0 Y : World} {X1 w1 : World} {og mo : Nat} {D : List (List UInt8)} {dv v0 : Value} (hpo : R5.PO w.heap.size og mo (fun k => k = og ∨ k = mo) X1 ⟨true, Z0, D, []⟩ dv (.slice none 0 0)) (hb : Below w.heap.size w X1) (hD : R5.HDs w v0 D) (hb1 : Below X1.heap.size X1 w1) (hpb : og ≠ w.heap.size ∧ mo ≠ w.heap.size ∧ dv.ownBlock ≠ some w.heap.size ∧ w.heap.size < X1.heap.size)
    {X : World} (hX : X = (w1.alloc (.map #[] 0)).alloc (.cells (xL og w1.heap.size 0).toArray 80 (0, 0))) (hY : Y0 = ((X.alloc (.cells (R5.oL true Z0 v0 0 (.slice none 0 0)).toArray 94 (0, 0))).alloc (.cells #[.pointer (some ⟨X.heap.size, 0, none⟩), .slice none 0 0, .int .u64 0] 58 (0, 0)))) (hF : R5.Fr (fun k => k = w.heap.size) Y0 Y) (hsz : Y.heap.size = Y0.heap.size) :
    JR ⟨w, X1.heap.size, og, mo, X.heap.size, Z0, D, w1.heap.size + 1, w1.heap.size, []⟩ (X.heap.size + 1) Y.heap.size [] (fun k => X1.heap.size ≤ k ∧ k < Y.heap.size ∧ k ≠ X.heap.size) Y [] [] 0 (.slice none 0 0) := by
  have hs := hb.size
  have hs1 := hb1.size
  have hsX : X.heap.size = w1.heap.size + 2 := by rw [hX]; simp
  have hbX : Below X1.heap.size X1 X := by rw [hX]; exact (hb1.alloc hs1 _).alloc (by simp; omega) _
  have hsY : Y0.heap.size = X.heap.size + 2 := by rw [hY]; simp
  have hbY : Below X.heap.size X Y0 := by rw [hY]; exact ((Below.refl _ _).alloc (Nat.le_refl _) _).alloc (by simp) _
  have hXY : ∀ k, k < X.heap.size → Y0.heap[k]? = X.heap[k]? := fun k hk => hbY.block k hk
  have hYY : ∀ k, k < Y0.heap.size → k ≠ w.heap.size → Y.heap[k]? = Y0.heap[k]? := fun k hk hn => hF.block k hk hn
  have hmb : Y.heap[w1.heap.size]? = some (.map #[] 0) := by rw [hYY _ (by omega) (by omega), hXY _ (by omega), hX]; exact R5.alloc2_first _ _ _
  have hxb : Y.heap[w1.heap.size + 1]? = some (.cells (xL og w1.heap.size 0).toArray 80 (0, 0)) := by rw [hYY _ (by omega) (by omega), hXY _ (by omega), hX]; exact R5.heap_at _ _ _ (by simp)
  have hrg : Y.heap[X.heap.size]? = some (.cells (R5.oL true Z0 v0 0 (.slice none 0 0)).toArray 94 (0, 0)) := by rw [hYY _ (by omega) (by omega), hY]; exact R5.alloc2_first _ _ _
  have hrb : Y.heap[X.heap.size + 1]? = some (.cells #[.pointer (some ⟨X.heap.size, 0, none⟩), .slice none 0 0, .int .u64 0] 58 (0, 0)) := by rw [hYY _ (by omega) (by omega), hY]; exact R5.heap_at _ _ _ (by simp)
  have hbw : Below w.heap.size w Y := by
    have h1 : Below w.heap.size w Y0 := (hb.trans (hbX.mono hs)).trans (hbY.mono (by omega))
    exact ⟨hF.os.trans h1.os, hF.tape.trans h1.tape, hF.output.trans h1.output, by omega, fun k hk => (hYY k (by omega) (by omega)).trans (h1.block k hk)⟩
  have hst := R5.MM.start3 (rg := X.heap.size) hpo hb hbw hD (fun k hk hS => by
    have hne : k ≠ w.heap.size := by
      rcases hS with (h | h) | h
      · rw [h]; exact hpb.1
      · rw [h]; exact hpb.2.1
      · exact fun e => hpb.2.2.1 (e ▸ h)
    exact (hYY k (by omega) hne).trans ((hXY k (by omega)).trans (hbX.block k hk))) hrg (by omega)
  have hFP : ∀ k, FP (w1.heap.size + 1) w1.heap.size [] k → k = w1.heap.size + 1 ∨ k = w1.heap.size := fun k hk => by
    rcases hk with h | h | ⟨x, hx, _⟩
    · exact .inl h
    · exact .inr h
    · exact (List.not_mem_nil hx).elim
  refine ⟨⟨hst, ⟨hxb, mr_empty _ _ hmb, fun x hx => (List.not_mem_nil hx).elim, fun x hx => (List.not_mem_nil hx).elim, by simp, fun k hk => ?_, fun x hx => (List.not_mem_nil hx).elim⟩⟩, ⟨hrb, World.ownsRow_nil _ _ _ _, fun x hx => (List.not_mem_nil hx).elim, fun x hx => (List.not_mem_nil hx).elim, fun x hx => (List.not_mem_nil hx).elim, ⟨⟨by omega, by omega, by omega⟩, by show X1.heap.size ≤ _; omega⟩, fun k e => by simp [Value.ownBlock] at e⟩, rfl, fun hf => ?_, fun k e => by simp [Value.ownBlock] at e, fun x hx => (List.not_mem_nil hx).elim⟩
  · rcases hFP k hk with rfl | rfl
    · exact ⟨⟨by omega, by omega, by omega⟩, by show X1.heap.size ≤ _; omega⟩
    · exact ⟨⟨by omega, by omega, by omega⟩, by show X1.heap.size ≤ _; omega⟩
  · rcases hFP _ hf with h | h <;> omega
theorem begin_any (p : Option Addr) (n cap : Nat) (D : List (List UInt8)) (w : World) (hpc : p = none → cap = 0) (hl : D.length ≤ 1099511627776) (h : R5.HDs w (.slice p n cap) D) :
    Calls Tryz.prog 9 #[.slice p n cap] w fun e Y => BgEnd w D e Y := by
  have hzp : ∀ W, (zeroValue 29).run Tryz.prog W = .ok (.agg #[.pointer none, .pointer none, .pointer none]) W := fun W => by kernel_rfl
  have HBD : Hid (∀ W, (Instr.build 33 #[]).run Tryz.prog W = .ok (.agg ((List.replicate 32 (0 : UInt8)).map B8).toArray) W) := R5.build_dig
  have hbo := fun W => R5.build_ora W p n cap
  have HBO : Hid (∀ W, (Instr.build 94 #[(0, .bool true), (2, .slice p n cap)]).run Tryz.prog W = .ok (.agg (R5.oL true Z0 (.slice p n cap) 0 (.slice none 0 0)).toArray) W) := hbo
  obtain ⟨w0, hw0⟩ : ∃ w0, w0 = w.alloc (.cells #[.pointer none, .pointer none, .pointer none] 29 (0, 0)) := ⟨_, rfl⟩
  have hb0 : Below w.heap.size w w0 := by rw [hw0]; exact (Below.refl _ _).alloc (Nat.le_refl _) _
  have hs0 : w0.heap.size = w.heap.size + 1 := by rw [hw0]; simp
  have hr0 : w0.heap[w.heap.size]? = some (.cells #[.pointer none, .pointer none, .pointer none] 29 (0, 0)) := by rw [hw0]; exact heap_alloc_new _ _
  have HNW : Hid (Calls Tryz.prog 32 #[.bool true, .agg ((List.replicate 32 (0 : UInt8)).map B8).toArray, .slice p n cap] w0 fun e w' => R5.PNew w0 true Z0 D e w') := R5.pnew_any true Z0 p n cap D w0 (by unfold Z0; simp) hpc hl (R5.hds_below h hb0)
  have HD : Hid (R5.HDs w (.slice p n cap) D) := h
  have HB0 : Hid (Below w.heap.size w w0) := hb0
  have HS0 : Hid (w0.heap.size = w.heap.size + 1) := hs0
  have HR0 : Hid _ := hr0
  obtain ⟨OL, hOL⟩ : ∃ OL, OL = R5.oL true Z0 (.slice p n cap) 0 (.slice none 0 0) := ⟨_, rfl⟩
  rw [← hOL] at HBO
  have HOL : Hid (OL = R5.oL true Z0 (.slice p n cap) 0 (.slice none 0 0)) := hOL
  rw [hw0] at HNW
  generalize ((List.replicate 32 (0 : UInt8)).map B8).toArray = ZD at *
  clear h hb0 hs0 hr0 hOL hbo hpc hl
  go_enter Tryz.func9, Tryz.ntmps9
  go_wp2_with (first | (refine PC.wpList_build rfl 33 _ rfl #[] (.agg ZD) (by simp) (HBD.out _) ?_) | (go_at_call 32; fail))
  refine Calls.mono HNW.out ?_
  rintro e X1 ⟨og, mo, dv, rfl, hpo, hb1, hdv⟩
  rw [← hw0] at hpo hb1 hdv
  have hc35 := hpo.cells.2.2.2.1
  have HNR : Hid (Calls Tryz.prog 23 #[.pointer (some ⟨og, 0, none⟩)] X1 fun e w' => ∃ w1, e = .returned (.pointer (some ⟨w1.heap.size + 1, 0, none⟩)) ∧ Below X1.heap.size X1 w1 ∧ w' = (w1.alloc (.map #[] 0)).alloc (.cells (xL og w1.heap.size 0).toArray 80 (0, 0))) := new_ok og mo X1 hc35
  have HPB : Hid (og ≠ w.heap.size ∧ mo ≠ w.heap.size ∧ dv.ownBlock ≠ some w.heap.size ∧ w.heap.size < X1.heap.size) := ⟨by have := hpo.low og (.inl rfl); have := HS0.out; omega, by have := hpo.low mo (.inr rfl); have := HS0.out; omega, fun e => by have := hdv _ e; have := HS0.out; omega, by have := hb1.size; have := HS0.out; omega⟩
  have HPO : Hid (R5.PO w.heap.size og mo (fun k => k = og ∨ k = mo) X1 ⟨true, Z0, D, []⟩ dv (.slice none 0 0)) := hpo.lower (by have := HS0.out; omega)
  have HB1 : Hid (Below w.heap.size w X1) := HB0.out.trans (hb1.mono (by have := HS0.out; omega))
  have hs1 := hb1.size
  have hs0 := HS0.out
  have HR1 : Hid (X1.heap[w.heap.size]? = some (.cells #[.pointer none, .pointer none, .pointer none] 29 (0, 0))) := (hb1.block _ (by omega)).trans HR0.out
  have hs1' : w.heap.size + 1 ≤ X1.heap.size := by omega
  clear hpo hb1 hdv HNW hc35 hw0 hs1 hs0
  go_wp2_with fail
  refine Calls.mono HNR.out ?_
  rintro e X ⟨w1, rfl, hb2, hX⟩
  have hsX : X.heap.size = w1.heap.size + 2 := by rw [hX]; simp
  have hs2 := hb2.size
  have hbX : Below X1.heap.size X1 X := by rw [hX]; exact (hb2.alloc hs2 _).alloc (by simp; omega) _
  obtain ⟨Y0, hY0⟩ : ∃ Y0, Y0 = ((X.alloc (.cells OL.toArray 94 (0, 0))).alloc (.cells #[.pointer (some ⟨X.heap.size, 0, none⟩), .slice none 0 0, .int .u64 0] 58 (0, 0))) := ⟨_, rfl⟩
  have hbY : Below X.heap.size X Y0 := by rw [hY0]; exact ((Below.refl _ _).alloc (Nat.le_refl _) _).alloc (by simp) _
  have hrY : Y0.heap[w.heap.size]? = some (.cells #[.pointer none, .pointer none, .pointer none] 29 (0, 0)) := (hbY.block _ (by omega)).trans ((hbX.block _ (by omega)).trans HR1.out)
  have HRY : Hid _ := hrY
  have HEND : Hid (BgEnd w D (.returned (.agg #[.pointer (some ⟨og, 0, none⟩), .pointer (some ⟨w1.heap.size + 1, 0, none⟩), .pointer (some ⟨X.heap.size + 1, 0, none⟩)])) (Y0.setRow w.heap.size #[.pointer (some ⟨og, 0, none⟩), .pointer (some ⟨w1.heap.size + 1, 0, none⟩), .pointer (some ⟨X.heap.size + 1, 0, none⟩)])) :=
    ⟨_, _, _, _, rfl, rfl, rfl, ⟨rfl, rfl⟩, jr_start (Y0 := Y0) HPO.out HB1.out HD.out hb2 HPB.out hX (by rw [hY0, HOL.out]) (R5.Fr.setRow (R5.Fr.refl _ _) _ _ (.inl rfl)) (by simp)⟩
  rw [hY0] at HRY HEND
  have HP1 : Hid ((#[.pointer (some ⟨og, 0, none⟩), .pointer (some ⟨w1.heap.size + 1, 0, none⟩), .pointer (some ⟨X.heap.size + 1, 0, none⟩)] : Array Value).all (·.oneCell') = true) := PC.onea (l := [.pointer (some ⟨og, 0, none⟩), .pointer (some ⟨w1.heap.size + 1, 0, none⟩), .pointer (some ⟨X.heap.size + 1, 0, none⟩)]) (fun u hu => by simp only [List.mem_cons, List.not_mem_nil, or_false] at hu; rcases hu with rfl | rfl | rfl <;> rfl)
  have HP3 : Hid ((Tryz.prog.info? 29).map (·.size) = some 3) := by show _ = _; kernel_rfl
  clear hbY hrY hbX hX hb2 HNR HPO HPB hsX hs2
  go_wp2_with (first
    | (refine PC.wpList_build rfl 94 _ rfl _ (.agg OL.toArray) (by simp; first | done | rfl | exact ⟨rfl, rfl⟩) (HBO.out _) ?_)
    | (refine wpList_store_row rfl 29 _ _ rfl w.heap.size #[.pointer (some ⟨og, 0, none⟩), .pointer (some ⟨w1.heap.size + 1, 0, none⟩), .pointer (some ⟨X.heap.size + 1, 0, none⟩)] rfl rfl 29 #[.pointer none, .pointer none, .pointer none] HRY.out HP3.out rfl HP1.out ?_))
  refine bodyPost_ret (v := .agg #[.pointer (some ⟨og, 0, none⟩), .pointer (some ⟨w1.heap.size + 1, 0, none⟩), .pointer (some ⟨X.heap.size + 1, 0, none⟩)]) ?_ rfl HEND.out
  exact results_cell_row Tryz.results9 _ _ w.heap.size 29 _ (0, 0) _ rfl (setRow_heap _ _ _ _ _ _ HRY.out) Tryz.underlying29 rfl HP3.out
theorem rdL_33 {r : Rd} (h : r.ok) : (rdL r)[33]? = some (.int .i64 r.page) := by
  have e : rdL r = (.int .i64 r.kind :: r.value.map B8) ++ .int .i64 r.page :: (r.data.map B8 ++ PC.rcL r.pc r.rs r.run) := by simp [rdL]
  rw [e]; exact at_app _ _ _ 33 (by simp [h.v])
theorem rdL_val {r : Rd} (h : r.ok) : List.take 32 (rdL r).tail = r.value.map B8 := by
  unfold rdL; rw [List.tail_cons, List.take_append_of_le_length (by simp [h.v]), List.take_of_length_le (by simp [h.v])]
theorem rdL_dat {r : Rd} (h : r.ok) : List.take 128 (List.drop 34 (rdL r)) = r.data.map B8 := by
  have e : rdL r = (.int .i64 r.kind :: (r.value.map B8 ++ [.int .i64 r.page])) ++ (r.data.map B8 ++ PC.rcL r.pc r.rs r.run) := by simp [rdL]
  rw [e]; exact seg_app _ _ _ 34 128 (by simp [h.v]) (by simp [h.d])
theorem rdL_rec {r : Rd} (h : r.ok) : List.take 10 (List.drop 162 (rdL r)) = PC.rcL r.pc r.rs r.run := by
  have e : rdL r = (.int .i64 r.kind :: (r.value.map B8 ++ (.int .i64 r.page :: r.data.map B8))) ++ (PC.rcL r.pc r.rs r.run ++ []) := by simp [rdL]
  rw [e]; exact seg_app _ _ _ 162 10 (by simp [h.v, h.d]) (PC.rcL_len _ _ _ h.s)
theorem itL_len {x : En} (h : x.2.1.ok) : (itL x).length = 104 := by unfold itL; rw [List.length_cons, rmL_len h]
theorem itC_len {l : List En} (h : ∀ x ∈ l, x.2.1.ok) : (itC l).length = l.length * 104 := by
  induction l with
  | nil => rfl
  | cons r l ih =>
    unfold itC at ih ⊢
    rw [List.flatMap_cons, List.length_append, itL_len (h r (by simp)), ih (fun x hx => h x (by simp [hx])), List.length_cons]; omega
theorem itC_app (a b : List En) : itC (a ++ b) = itC a ++ itC b := by unfold itC; rw [List.flatMap_append]
theorem itC_cons (x : En) (b : List En) : itC (x :: b) = itL x ++ itC b := by unfold itC; rw [List.flatMap_cons]
theorem itC_mid {a b : List En} {x : En} (ha : ∀ y ∈ a, y.2.1.ok) (hx : x.2.1.ok) (o : Nat) (ho : o < 104) : (itC (a ++ x :: b))[a.length * 104 + o]? = (itL x)[o]? := by
  rw [itC_app, itC_cons, List.getElem?_append_right (by rw [itC_len ha]; omega), itC_len ha, Nat.add_sub_cancel_left, List.getElem?_append_left (by rw [itL_len hx]; exact ho)]
theorem itC_rd {l : List En} (h : ∀ x ∈ l, x.2.1.ok) {i : Nat} {x : En} (hx : l[i]? = some x) : (itC l)[i * 104]? = some (.int .i64 x.1) := by
  obtain ⟨a, b, rfl, rfl⟩ := split_j hx
  have := itC_mid (a := a) (b := b) (x := x) (fun y hy => h y (by simp [hy])) (h x (by simp)) 0 (by decide)
  rw [Nat.add_zero] at this
  rw [this]; rfl
section
variable {c : Cx} {rb last : Nat} {I J : Nat → Prop} {X Y : World} {rl a b : List En} {av : Value} {rd : Int} {r : Rm} {lv : Value}
theorem RX.form (h : RX c rb I X rl last av) : ∃ p cap, av = .slice p rl.length cap ∧ ∀ i x, rl[i]? = some x → ∃ g, p = some ⟨g, 0, none⟩ ∧ X.cell? ⟨g, i * 104, none⟩ = some (.int .i64 x.1) := by
  rcases h.own.2 with ⟨e1, e2⟩ | ⟨g, cap, cur, e1, _⟩
  · refine ⟨none, 0, by rw [e1, e2], fun i x hx => ?_⟩
    have := (List.getElem?_eq_some_iff.1 hx).1
    omega
  · refine ⟨_, cap, e1, fun i x hx => ⟨g, rfl, ?_⟩⟩
    have := h.own.cells (g := g) (by rw [e1]; rfl) (i * 104) _ (itC_rd h.ok hx)
    rwa [PC.add_none, Nat.zero_add] at this
theorem RX.cells (h : RX c rb I X rl last av) : X.cell? ⟨rb, 0, none⟩ = some (.pointer (some ⟨c.rg, 0, none⟩)) ∧ X.cell? ⟨rb, 1, none⟩ = some av ∧ X.cell? ⟨rb, 2, none⟩ = some (.int .u64 (last : Int)) := by
  refine ⟨?_, ?_, ?_⟩ <;> (rw [cell_of_row _ _ _ _ _ _ h.row]; rfl)
theorem rat_any (h : RX c rb I X rl last av) (hn : rl.length < 1000000) (rd : Int) (m : Nat) (hm : m ≤ rl.length) (hno : ∀ i x, i < m → rl[i]? = some x → x.1 ≠ rd) (hend : m = rl.length ∨ ∃ x, rl[m]? = some x ∧ x.1 = rd) :
    Calls Tryz.prog 13 #[.pointer (some ⟨rb, 0, none⟩), .int .i64 rd] X fun e Y => e = .returned (.int .i64 (if m = rl.length then -1 else (m : Int))) ∧ X = Y := by
  obtain ⟨p, cap, hav, hcs⟩ := h.form
  have hc1 := h.cells.2.1
  rw [hav] at hc1
  have HCS : Hid (∀ i x, rl[i]? = some x → ∃ g, p = some ⟨g, 0, none⟩ ∧ X.cell? ⟨g, i * 104, none⟩ = some (.int .i64 x.1)) := hcs
  have HNO : Hid (∀ i x, i < m → rl[i]? = some x → x.1 ≠ rd) := hno
  have HEN : Hid (m = rl.length ∨ ∃ x, rl[m]? = some x ∧ x.1 = rd) := hend
  obtain ⟨N, hN⟩ : ∃ N, N = rl.length := ⟨_, rfl⟩
  rw [← hN] at hc1 hn hm ⊢
  have HN : Hid (N = rl.length) := hN
  clear hcs hno hend hav h hN
  obtain ⟨res, hres⟩ : ∃ res : Int, res = if m = N then -1 else (m : Int) := ⟨_, rfl⟩
  rw [← hres]
  have HRE : Hid (res = if m = N then -1 else (m : Int)) := hres
  clear hres
  go_enter Tryz.func13, Tryz.ntmps13
  go_wp2
  go_loopw [5] (fun i wr => ∃ k : Nat, k ≤ m ∧ i = .int .i64 k ∧ wr = X) (fun i _ => N - (intOf i).toNat)
  case atStart => exact ⟨0, Nat.zero_le _, rfl, rfl⟩
  case round =>
    obtain ⟨k, hk, rfl, rfl⟩ := hrel
    by_cases hkm : k < m
    · have hkN : k < rl.length := by rw [← HN.out]; omega
      have hkI : (k : Int) < (N : Int) := by omega
      obtain ⟨x, hx⟩ : ∃ x, rl[k]? = some x := ⟨_, List.getElem?_eq_getElem hkN⟩
      obtain ⟨g, hp, hcx⟩ := HCS.out k x hx
      have hne : (x.1 == rd) = false := by rw [beq_eq_false_iff_ne]; exact HNO.out k x hkm hx
      subst hp
      clear hx hkN
      generalize x.1 = XI at *
      go_wp2
      go_roundw
      case rel => exact ⟨k + 1, by omega, by go_num, trivial⟩
      case measure => simp [intOf]; omega
    · have hke : k = m := by omega
      subst hke
      by_cases hmN : k = N
      · have hkI : ¬ (k : Int) < (N : Int) := by omega
        have hre := HRE.out
        rw [if_pos hmN] at hre
        subst hre
        clear HEN HRE
        go_wp2
        go_ret
        exact ⟨rfl, rfl⟩
      · have hkI : (k : Int) < (N : Int) := by omega
        have hre := HRE.out
        rw [if_neg hmN] at hre
        subst hre
        clear HRE
        rcases HEN.out with he | ⟨x, hx, hxr⟩
        · exact absurd (he.trans HN.out.symm) hmN
        · obtain ⟨g, hp, hcx⟩ := HCS.out k x hx
          have hne : (x.1 == rd) = true := by rw [hxr]; simp
          subst hp
          clear hx hxr HEN
          generalize x.1 = XI at *
          go_wp2
          go_ret
          exact ⟨rfl, rfl⟩
end
theorem itC_set {a b : List En} {x x' : En} (ha : ∀ y ∈ a, y.2.1.ok) (hx : x.2.1.ok) (o : Nat) (ho : o < 104) (v : Value) (he : (itL x).set o v = itL x') : (itC (a ++ x :: b)).set (a.length * 104 + o) v = itC (a ++ x' :: b) := by
  rw [itC_app, itC_cons, itC_app, itC_cons, List.set_append_right _ _ (by rw [itC_len ha]; omega), itC_len ha, Nat.add_sub_cancel_left, List.set_append_left _ _ (by rw [itL_len hx]; exact ho), he]
section
variable {c : Cx} {rb last : Nat} {I J : Nat → Prop} {X Y : World} {rl a b : List En} {av : Value} {rd : Int} {r : Rm} {lv : Value}
theorem RX.keep (h : RX c rb I X rl last av) (hk : ∀ k, (k = rb ∨ av.ownBlock = some k ∨ ∃ x ∈ rl, x.2.2.ownBlock = some k) → Y.heap[k]? = X.heap[k]?) (hI : ∀ k, I k → J k) : RX c rb J Y rl last av := by
  refine ⟨(hk _ (.inl rfl)).trans h.row, ⟨h.own.1, ?_⟩, h.ok, fun x hx => (h.logs x hx).keep (fun k hk1 _ => hk k (.inr (.inr ⟨x, hx, hk1⟩))), fun x hx k hk1 => ⟨hI _ (h.lI x hx k hk1).1, (h.lI x hx k hk1).2⟩, ⟨hI _ h.fI.1, h.fI.2⟩, fun k hk1 => ⟨hI _ (h.aI k hk1).1, (h.aI k hk1).2⟩⟩
  rcases h.own.2 with hn | ⟨g, cap, cur, e1, e2, e3, rest⟩
  · exact .inl hn
  · exact .inr ⟨g, cap, cur, e1, e2, (hk g (.inr (.inl (by rw [e1]; rfl)))).trans e3, rest⟩
theorem RX.slice (h : RX c rb I X (a ++ (rd, r, lv) :: b) last av) : ∃ g cap, av = .slice (some ⟨g, 0, none⟩) (a ++ (rd, r, lv) :: b).length cap := by
  rcases h.own.2 with ⟨e1, e2⟩ | ⟨g, cap, cur, e1, _⟩
  · simp at e2
  · exact ⟨g, cap, e1⟩
theorem RX.get (h : RX c rb I X (a ++ (rd, r, lv) :: b) last av) {g cap : Nat} (hav : av = .slice (some ⟨g, 0, none⟩) (a ++ (rd, r, lv) :: b).length cap) (o : Nat) (ho : o < 104) : X.cell? ⟨g, a.length * 104 + o, none⟩ = (itL (rd, r, lv))[o]? := by
  have h1 := h.own
  rw [hav] at h1
  rw [h1.cellAt _ (by simp; omega), itC_mid (fun y hy => h.ok y (by simp [hy])) (h.ok _ (by simp)) o ho]
theorem RX.frz (h : RX c rb I X (a ++ (rd, r, lv) :: b) last av) {g cap : Nat} (hav : av = .slice (some ⟨g, 0, none⟩) (a ++ (rd, r, lv) :: b).length cap) (o : Nat) : X.frozen? ⟨g, o, none⟩ = false := by
  have h1 := h.own
  rw [hav] at h1
  exact h1.frozenAt _
def RW (c : Cx) (rb : Nat) (I : Nat → Prop) (X Y : World) (rl : List En) (last : Nat) (av : Value) : Prop :=
  RX c rb I Y rl last av ∧ ∃ g, av.ownBlock = some g ∧ R5.Fr (fun k => k = g) X Y ∧ Y.heap.size = X.heap.size
theorem RX.put (h : RX c rb I X (a ++ (rd, r, lv) :: b) last av) {g cap : Nat} (hav : av = .slice (some ⟨g, 0, none⟩) (a ++ (rd, r, lv) :: b).length cap) (o : Nat) (ho : o < 104) (v : Value) (r' : Rm) (hr : r'.ok) (hl : r'.log = r.log) (he : (itL (rd, r, lv)).set o v = itL (rd, r', lv)) :
    RW c rb I X (X.setCell ⟨g, a.length * 104 + o, none⟩ v) (a ++ (rd, r', lv) :: b) last av := by
  have h1 := h.own
  rw [hav] at h1
  have h2 := (h1.stored (a.length * 104 + o) v).1
  rw [itC_set (fun y hy => h.ok y (by simp [hy])) (h.ok _ (by simp)) o ho v he] at h2
  have hg : av.ownBlock = some g := by rw [hav]; rfl
  have hne : ∀ k, k ≠ g → (X.setCell ⟨g, a.length * 104 + o, none⟩ v).heap[k]? = X.heap[k]? := fun k hk => heap_setCell_other _ _ _ _ (by simpa using hk)
  have hin : ∀ y ∈ a ++ (rd, r', lv) :: b, (y ∈ a ++ (rd, r, lv) :: b ∨ y = (rd, r', lv)) := fun y hy => by
    rcases List.mem_append.1 hy with hy | hy
    · exact .inl (by simp [hy])
    · rcases List.mem_cons.1 hy with hy | hy
      · exact .inr hy
      · exact .inl (by simp [hy])
  have h0 : (rd, r, lv) ∈ a ++ (rd, r, lv) :: b := by simp
  refine ⟨⟨(hne rb (h.aI g hg).2.2.symm).trans h.row, ?_, fun y hy => ?_, fun y hy => ?_, fun y hy => ?_, h.fI, h.aI⟩, g, hg, R5.Fr.setCell (R5.Fr.refl _ _) g _ v (.inl rfl), by simp⟩
  · rw [hav]
    simpa using h2
  · rcases hin y hy with hy | rfl
    · exact h.ok y hy
    · exact hr
  · rcases hin y hy with hy | rfl
    · exact (h.logs y hy).keep (fun k hk _ => hne k (fun e => (h.lI y hy k hk).2.2 (by rw [e]; exact hg)))
    · show HR _ lv r'.log
      rw [hl]
      exact (h.logs _ h0).keep (fun k hk _ => hne k (fun e => (h.lI _ h0 k hk).2.2 (by rw [e]; exact hg)))
  · rcases hin y hy with hy | rfl
    · exact h.lI y hy
    · exact h.lI (rd, r, lv) h0
theorem rat_no (h : RX c rb I X rl last av) (hn : rl.length < 1000000) (hno : NoRd rl rd) :
    Calls Tryz.prog 13 #[.pointer (some ⟨rb, 0, none⟩), .int .i64 rd] X fun e Y => e = .returned (.int .i64 (-1)) ∧ X = Y := by
  have := rat_any h hn rd rl.length (Nat.le_refl _) (fun i x _ hx => hno x (List.mem_of_getElem? hx)) (.inl rfl)
  rwa [if_pos rfl] at this
theorem rat_is (h : RX c rb I X (a ++ (rd, r, lv) :: b) last av) (hn : (a ++ (rd, r, lv) :: b).length < 1000000) (hno : NoRd a rd) :
    Calls Tryz.prog 13 #[.pointer (some ⟨rb, 0, none⟩), .int .i64 rd] X fun e Y => e = .returned (.int .i64 (a.length : Int)) ∧ X = Y := by
  have := rat_any h hn rd a.length (by simp) (fun i x hi hx => hno x (by
    rw [List.getElem?_append_left hi] at hx
    exact List.mem_of_getElem? hx)) (.inr ⟨(rd, r, lv), by simp, rfl⟩)
  rwa [if_neg (by simp)] at this
end
end Go.Proofs.YtekbppfocnbhbaaGreat.XC
