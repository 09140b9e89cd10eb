/- OracleBridge: what its walk uses. -/
import Derived.Test.YtefhjjjjbkkedaaWe
import Derived.Test.YtefhjjjjbkkedaaQP
import Derived.Test.YtefhjjjjbkkedaaQZ
set_option linter.unusedVariables false
set_option linter.unusedSimpArgs false
namespace Go.Proofs.Ytefhjjjjbkkedaa.R5
open scoped Classical
open Go.RowKit

theorem ansV_form {B og mb : Nat} {S : Nat → Prop} {X : World} {o : Pra} {dv ov : Value} (ho : PO B og mb S X o dv ov) (q : Qn) : ∃ (A : List UInt8) (n : Int), A.length = 32 ∧ ansV o q = .tuple #[.agg (A.map B8).toArray, .int .i64 n] := by
  have hf : (fresh o q).length = 32 := by
    unfold fresh; split
    · exact drawD_len _ _ ho.draws.1
    · exact compD_len _
  unfold ansV
  split
  · exact ⟨_, 0, pAsk_len ho.ok hf, rfl⟩
  · exact ⟨List.replicate 32 0, 2, by simp, rfl⟩
/-- An ask that came in, wherever the walk stands. -/
structure AkAt (w : World) (p : Option Addr) (k : Nat) (a : Ak) (g o : Nat) (pd : Option Addr) (cd : Nat) : Prop where
  ptr : p = some ⟨g, o, none⟩
  kind : ∀ X, Below w.heap.size w X → X.cell? ⟨g, o + k * 37, none⟩ = some (.int .i64 a.kind)
  row : ∀ X, Below w.heap.size w X → X.rangeAt g (o + k * 37 + 2) (qL a.q (.slice pd a.q.data.length cd))
  dom : ∀ X, Below w.heap.size w X → X.cell? ⟨g, o + k * 37 + 2 + 33, none⟩ = some (.int .i64 a.q.dom)
  dat : ∀ X, Below w.heap.size w X → X.cell? ⟨g, o + k * 37 + 2 + 34, none⟩ = some (.slice pd a.q.data.length cd)
  hb : ∀ X, Below w.heap.size w X → HB X (.slice pd a.q.data.length cd) a.q.data
  ok : kOk a.q
  dl : a.q.data.length ≤ 300
theorem much_le {ls : List Ak} (h : muchB ls = false) {k : Nat} {a : Ak} (ha : ls[k]? = some a) : a.q.data.length ≤ 300 := by
  unfold muchB at h
  simp only [Bool.or_eq_false_iff, List.any_eq_false, decide_eq_true_eq] at h
  have := h.1 a (List.mem_of_getElem? ha)
  omega
theorem akAt {w : World} {p : Option Addr} {cap : Nat} {ls : List Ak} (h : HAs w (.slice p ls.length cap) ls) (hm : muchB ls = false) : ∀ k a, ls[k]? = some a → ∃ g o pd cd, AkAt w p k a g o pd cd := by
  intro k a ha
  obtain ⟨p', cap', e, hr⟩ := h
  simp only [Value.slice.injEq, true_and] at e
  obtain ⟨g, o, dv, e1, h1, h2, h3, h4, h5, h6, h7⟩ := hr k a ha
  obtain ⟨pd, cd, hdv, _⟩ := hb_cells h7
  subst hdv
  obtain ⟨f0, f1, f2, f3, f4⟩ := ak_facts h2 h1
  have hl := much_le hm ha
  refine ⟨g, o, pd, cd, e.1.trans e1, fun X hX => (hX.cell (block_lt f0)).trans f0, fun X hX => rangeAt_below f2 hX, fun X hX => (hX.cell (block_lt f3)).trans f3, fun X hX => (hX.cell (block_lt f4)).trans f4, fun X hX => h7.below hX, ⟨h2, h3, h4, by omega⟩, hl⟩
section
variable {w X : World} {og mb : Nat} {o : Pra} {rows : List (Nat × List UInt8)}
theorem KN.askU (h : KN w og mb o rows X) (hll : o.log.length < 1000000) (dq : Value) (q : Qn) (hq : kOk q) (hql : q.data.length ≤ 4294000000) (hdq : HB X dq q.data) :
    Calls Try.prog 9 #[.pointer (some ⟨og, 0, none⟩), .agg (qL q dq).toArray] X fun e Y => e = .returned (ansV o q) ∧ KN w og mb (nxtO o q) rows Y := by
  obtain ⟨S, dv, ov, h1, h2, h3⟩ := h.ex
  refine (po_ask h1 h2.size hll dq q hq hql hdq).mono ?_
  rintro e Y ⟨rfl, hf, hq⟩
  exact ⟨rfl, KN.asked h1.low h2 h3 hf hq⟩
theorem KN.keyU (h : KN w og mb o rows X) (hll : o.log.length < 1000000) (pv : Value) (d : Int) (l : List UInt8) (hq : kOk ⟨3, o.master, d, l⟩) (hql : l.length ≤ 4294000000) (hp : HP X pv [l]) :
    Calls Try.prog 10 #[.pointer (some ⟨og, 0, none⟩), .int .i64 d, pv] X fun e Y => e = .returned (ansV o ⟨3, o.master, d, l⟩) ∧ KN w og mb (nxtO o ⟨3, o.master, d, l⟩) rows Y := by
  obtain ⟨S, dv, ov, h1, h2, h3⟩ := h.ex
  refine (po_key h1 h2.size hll pv d l hq hql hp).mono ?_
  rintro e Y ⟨rfl, hf, hq⟩
  exact ⟨rfl, KN.asked h1.low h2 h3 hf hq⟩
theorem KN.logU (h : KN w og mb o rows X) (hll : o.log.length < 1000000) : Calls Try.prog 11 #[.pointer (some ⟨og, 0, none⟩)] X fun e Y => LogEnd X o.log e Y := by
  obtain ⟨S, dv, ov, h1, h2, h3⟩ := h.ex
  exact plog_any h1 hll
theorem KN.ml (h : KN w og mb o rows X) : o.master.length = 32 := by obtain ⟨S, dv, ov, h1, h2, h3⟩ := h.ex; exact h1.ml
end
theorem TW.logU {w X : World} {oga mba ogb mbb : Nat} {oa ob : Pra} {rows : List (Nat × List UInt8)} {I : Nat → Prop} {P : World → Prop} (h : TW w oga mba oa ogb mbb ob rows I P X) (hll : oa.log.length < 1000000) : Calls Try.prog 11 #[.pointer (some ⟨oga, 0, none⟩)] X fun e Y => LogEnd X oa.log e Y := by
  obtain ⟨Sa, dva, ova, Sb, dvb, ovb, h1, h2, h3, h4, h5, h6, h7⟩ := h.ex
  exact plog_any h1 hll
theorem TW.form {w X : World} {oga mba ogb mbb : Nat} {oa ob : Pra} {rows : List (Nat × List UInt8)} {I : Nat → Prop} {P : World → Prop} (h : TW w oga mba oa ogb mbb ob rows I P X) (q : Qn) : ∃ (A : List UInt8) (n : Int), A.length = 32 ∧ ansV oa q = .tuple #[.agg (A.map B8).toArray, .int .i64 n] := by
  obtain ⟨Sa, dva, ova, Sb, dvb, ovb, h1, h2, h3, h4, h5, h6, h7⟩ := h.ex
  exact ansV_form h1 q
theorem TW.low {w X : World} {oga mba ogb mbb : Nat} {oa ob : Pra} {rows : List (Nat × List UInt8)} {I : Nat → Prop} {P : World → Prop} (h : TW w oga mba oa ogb mbb ob rows I P X) : P X := h.st X (Nat.le_refl _) (fun _ _ => rfl)
/-- A log in own memory, while its blocks are as they are. -/
theorem LO.keep {B : Nat} {w Z : World} {v : Value} {l : List (Qn × List UInt8)} {ds : List Value} (h : LO B w v l ds) (hs : w.heap.size ≤ Z.heap.size) (hk : ∀ k, B ≤ k → k < w.heap.size → Z.heap[k]? = w.heap[k]?) : LO B Z v l ds := by
  refine ⟨h.ok, h.len, own_keep h.own (fun k e hl => hk k (h.own.lt k e).1 hl), fun i e d he hd => ?_⟩
  obtain ⟨b, cap, h1, h2, h3, h4, h5⟩ := h.dat i e d he hd
  refine ⟨b, cap, h1, h2, by omega, h4, hb_keep h5 (fun k e hl => ?_)⟩
  have : b = k := by rw [h1] at e; simpa [Value.ownBlock] using e
  subst this
  exact hk b h2 hl
/-- The second oracle is made beside the first, whose log lies there. -/
theorem TW.start {w XL XM X3 Y : World} {oga mba ogb mbb : Nat} {oa ob : Pra} {rows : List (Nat × List UInt8)} {lv dvb : Value} {L : List (Qn × List UInt8)} {ds : List Value} (hk : KN w oga mba oa rows XL) (hL : LO XL.heap.size XM lv L ds) (hM : Below XL.heap.size XL XM) (h3 : Below XM.heap.size XM X3)
    (hp : PO X3.heap.size ogb mbb (fun k => k = ogb ∨ k = mbb) Y ob dvb (.slice none 0 0)) (hY : Below X3.heap.size X3 Y) (hd : ∀ k, dvb.ownBlock = some k → X3.heap.size ≤ k) :
    TW w oga mba oa ogb mbb ob [] (fun k => XL.heap.size ≤ k ∧ k < XM.heap.size) (fun Z => HLr Z lv L) Y := by
  obtain ⟨S, dva, ova, h1, h2, _⟩ := hk.ex
  have s1 := hM.size
  have s2 := h3.size
  have s3 := hY.size
  have s0 := h2.size
  have b1 : Below XL.heap.size XL Y := hM.trans ((h3.mono s1).trans (hY.mono (by omega)))
  refine ⟨⟨S, dva, ova, _, dvb, _, h1.below b1, hp.lower (by omega), fun k ha hb => ?_, fun k e hb => ?_, fun k e ha => ?_, fun r hr => by simp at hr, fun k hk => ⟨fun ha => ?_, fun hb => ?_, by omega⟩⟩, h2.trans (b1.mono s0), fun Z hs hZ => ?_⟩
  · have := h1.top k ha; have := hp.low k hb; omega
  · have := (h1.dro k e).2; have := hp.low k hb; omega
  · have := h1.top k ha; have := hd k e; omega
  · have := h1.top k ha; omega
  · have := hp.low k hb; omega
  · refine hlr_of (LO.hlg (hL.keep (by omega) (fun k hk1 hk2 => ?_)))
    rw [hZ k ⟨hk1, hk2⟩, hY.block k (by omega), h3.block k hk2]
theorem neq_digest (w : World) (xs : List UInt8) (hx : xs.length = 32) : (binOp .neq 23 (.agg (xs.map B8).toArray) (.agg (xs.map B8).toArray)).run Try.prog w = .ok (.bool false) w := by
  have := run_equalIn_bytes (P := Try.prog) w 9998 23 5 32 Try.underlying23 Try.underlying5 size_u8 xs xs hx hx
  rw [show (xs == xs) = true by simp] at this
  have h2 : (Op.equalIn 10000 23 (.agg (xs.map B8).toArray) (.agg (xs.map B8).toArray)).run Try.prog w = .ok true w := this
  rw [run_neq_struct, h2]
  rfl
theorem bs_dig (w : World) (X : List Value) (h1 : X.length = 32) : (Instr.buildSlice 42 1 #[(0, .agg X.toArray)]).run Try.prog w = .ok (.slice (some ⟨w.heap.size, 0, none⟩) 1 1) (w.alloc (.cells X.toArray 23 (0, 0))) := by
  iterate 32 (obtain ⟨_, _, e, g⟩ := cons_of h1; clear h1; subst e; have h1 := g; clear g)
  obtain rfl := List.eq_nil_of_length_eq_zero h1
  show _ = _
  kernel_rfl
theorem dC_snoc (ds : List (List UInt8)) (d : List UInt8) : dC (ds ++ [d]) = dC ds ++ d.map B8 := by unfold dC; simp
theorem own_form {B : Nat} {e : TypeId} {s : Nat} {v : Value} {n : Nat} {xs : List Value} {w : World} (h : w.ownsRow B e s v n xs) : ∃ p cap, v = .slice p n cap ∧ (p = none → cap = 0) := by
  rcases h.2 with ⟨e1, e2⟩ | ⟨g, cap, cur, e1, _⟩
  · exact ⟨none, 0, by rw [e1, e2], fun _ => rfl⟩
  · exact ⟨some ⟨g, 0, none⟩, cap, e1, fun h => by cases h⟩
/-- Bytes in a slice of slices, newly laid. -/
theorem hp_dat {X : World} {pd : Option Addr} {cd : Nat} {l : List UInt8} (h : HB X (.slice pd l.length cd) l) : HP (X.alloc (.cells #[.slice pd l.length cd] 31 (0, 0))) (.slice (some ⟨X.heap.size, 0, none⟩) 1 1) [l] := by
  refine ⟨_, 1, rfl, fun i hi => ⟨X.heap.size, .slice pd l.length cd, rfl, ?_, ?_⟩⟩
  · have : i = 0 := by simpa using hi
    subst this
    rw [cell_of_row _ _ 0 _ _ _ (heap_alloc_new _ _)]; rfl
  · have : i = 0 := by simpa using hi
    subst this
    exact h.below ((Below.refl _ _).alloc (Nat.le_refl _) _)
theorem brN_1 {m : List UInt8} {o : Pra} {a : Ak} (h : a.kind = 1) : brQ m a = some a.q ∧ brN m o a = nxtO o a.q := by unfold brN brQ; simp [h]
theorem brN_5 {m : List UInt8} {o : Pra} {a : Ak} (h : a.kind = 5) : brQ m a = some ⟨3, m, a.q.dom, a.q.data⟩ ∧ brN m o a = nxtO o ⟨3, m, a.q.dom, a.q.data⟩ := by unfold brN brQ; simp [h]
theorem brN_0 {m : List UInt8} {o : Pra} {a : Ak} (h1 : a.kind ≠ 1) (h5 : a.kind ≠ 5) : brN m o a = o := by unfold brN brQ; simp [h1, h5]
/-- One ask of both: what they answer, and what they know then. -/
theorem both {w X : World} {og mb ogb mbb : Nat} {m : List UInt8} {ls : List Ak} {L : List (Qn × List UInt8)} {rows : List (Nat × List UInt8)} {I : Nat → Prop} {P : World → Prop} {k : Nat} {a : Ak} {q : Qn} (h : TW w og mb ⟨false, m, [], L⟩ ogb mbb (brS m ⟨true, m, L.map (·.2), []⟩ (ls.take k)) rows I P X) (hL : L = (brS m ⟨false, m, [], []⟩ ls).log) (ha : ls[k]? = some a) (hq : brQ m a = some q) :
    ∃ (A : List UInt8) (n : Int), A.length = 32 ∧ ansV ⟨false, m, [], L⟩ q = .tuple #[.agg (A.map B8).toArray, .int .i64 n] ∧ ansV (brS m ⟨true, m, L.map (·.2), []⟩ (ls.take k)) q = .tuple #[.agg (A.map B8).toArray, .int .i64 n] ∧ nxtO ⟨false, m, [], L⟩ q = ⟨false, m, [], L⟩ ∧ nxtO (brS m ⟨true, m, L.map (·.2), []⟩ (ls.take k)) q = brS m ⟨true, m, L.map (·.2), []⟩ (ls.take (k + 1)) := by
  obtain ⟨A, n, hA, e⟩ := h.form q
  have hb := (bridge m ls L hL).2 k a q ha hq
  refine ⟨A, n, hA, e, hb.2 ▸ e, hb.1, ?_⟩
  rw [brS_snoc _ _ _ _ _ ha]
  unfold brN
  rw [hq]
theorem log_len {m : List UInt8} {o : Pra} {ls : List Ak} {k : Nat} (h : ls.length ≤ 6) (ho : o.log = []) : (brS m o (ls.take k)).log.length < 1000000 := by
  have := brS_len m o (ls.take k) ho
  rw [List.length_take] at this
  omega
end Go.Proofs.Ytefhjjjjbkkedaa.R5
