import Derived.Test.YtekbppfocnbhbaaGreatD9
import Derived.Test.YtekbppfocnbhbaaGreatPA
import Derived.Maps.Keyed
import Derived.DeepKeys4
import Derived.MapViews
import Derived.Maps.Own
set_option linter.unusedVariables false
set_option linter.unusedSimpArgs false
set_option maxHeartbeats 16000000
set_option maxRecDepth 100000
namespace Go.Proofs.YtekbppfocnbhbaaGreat.R5
open scoped Classical
open Go.RowKit
theorem q_facts {w : World} {b : Nat} {q : Qn} {dv : Value} {t : TypeId} {fr : Nat × Nat} (hk : q.key.length = 32) (h : w.heap[b]? = some (.cells (qL q dv).toArray t fr)) :
    w.cell? ⟨b, 0, none⟩ = some (.int .i64 q.kind) ∧ w.rangeAt b 1 (q.key.map B8) ∧ w.cell? ⟨b, 33, none⟩ = some (.int .i64 q.dom) ∧ w.cell? ⟨b, 34, none⟩ = some dv := by
  refine ⟨?_, fun j v hv => ?_, ?_, ?_⟩
  · rw [cell_of_row _ _ 0 _ _ _ h]; exact qL_0 q dv
  · rw [cell_of_row _ _ (1 + j) _ _ _ h]; exact qL_key q dv hk j v hv
  · rw [cell_of_row _ _ 33 _ _ _ h]; exact qL_33 q dv hk
  · rw [cell_of_row _ _ 34 _ _ _ h]; exact qL_34 q dv hk
theorem qsame_any (va vb : Value) (p q : Qn) (w : World) (ha : HQ w va p) (hb : HQ w vb q) : Calls Tryz.prog 75 #[va, vb] w fun e w' => e = .returned (.bool (decide (p = q))) ∧ Below w.heap.size w w' := by
  obtain ⟨hpk, da, rfl, hda⟩ := ha
  obtain ⟨hqk, db, rfl, hdb⟩ := hb
  have HB0 : Hid (Below w.heap.size w ((w.alloc (.cells (qL p da).toArray 138 (0, 0))).alloc (.cells (qL q db).toArray 138 (0, 0)))) := ((Below.refl _ _).alloc (Nat.le_refl _) _).alloc (by simp) _
  have c1 := conv_hb _ da p.data (hb_alloc (hb_alloc hda (.cells (qL p da).toArray 138 (0, 0))) (.cells (qL q db).toArray 138 (0, 0)))
  have c2 := conv_hb _ db q.data (hb_alloc (hb_alloc hdb (.cells (qL p da).toArray 138 (0, 0))) (.cells (qL q db).toArray 138 (0, 0)))
  obtain ⟨a0, a1, a2, a3⟩ := q_facts hpk (alloc2_first w (.cells (qL p da).toArray 138 (0, 0)) (.cells (qL q db).toArray 138 (0, 0)))
  obtain ⟨b0, b1, b2, b3⟩ := q_facts (b := w.heap.size + 1) hqk (heap_at (w.alloc (.cells (qL p da).toArray 138 (0, 0))) (.cells (qL q db).toArray 138 (0, 0)) _ (by simp))
  have hq := fun W => eql_digest W p.key q.key hpk hqk
  have HTX : Hid (((txt p.data).toList == (txt q.data).toList) = decide (p.data = q.data)) := txt_beq p.data q.data
  obtain ⟨k1, y1, d1, x1⟩ := p
  obtain ⟨k2, y2, d2, x2⟩ := q
  simp only at *
  have HI1 : Hid _ := info32 (y1.map B8) (by simpa using hpk)
  have HI2 : Hid _ := info32 (y2.map B8) (by simpa using hqk)
  have HA1 : Hid _ := a1
  have HB1 : Hid _ := b1
  generalize (qL ⟨k1, y1, d1, x1⟩ da).toArray = PA at *
  generalize (qL ⟨k2, y2, d2, x2⟩ db).toArray = QA at *
  clear a1 b1 hpk hqk hda hdb
  by_cases h1 : k1 = k2
  · have g1 : (k1 == k2) = true := by simp [h1]
    by_cases h2 : y1 = y2
    · have g2 : (y1 == y2) = true := by simp [h2]
      rw [g2] at hq
      by_cases h3 : d1 = d2
      · have g3 : (d1 == d2) = true := by simp [h3]
        have HE : Hid (decide ((⟨k1, y1, d1, x1⟩ : Qn) = ⟨k2, y2, d2, x2⟩) = decide (x1 = x2)) := by show _ = _; simp [h1, h2, h3]
        clear h1 h2 h3 g2
        go_enter Tryz.func75, Tryz.ntmps75
        go_wp2_with (first
          | (refine load_mid_g (by rfl) 33 _ rfl w.heap.size 1 rfl (y1.map B8) _ HA1.out Tryz.underlying33 rfl HI1.out ?_)
          | (refine load_mid_g (by rfl) 33 _ rfl (w.heap.size + 1) 1 rfl (y2.map B8) _ HB1.out Tryz.underlying33 rfl HI2.out ?_))
        go_ret
        refine ⟨?_, HB0.out⟩
        rw [HE.out, ← HTX.out]
        rfl
      · have g3 : (d1 == d2) = false := by simp [h3]
        have HE : Hid (decide ((⟨k1, y1, d1, x1⟩ : Qn) = ⟨k2, y2, d2, x2⟩) = false) := by show _ = _; simp [h3]
        clear h1 h2 h3 g2
        go_enter Tryz.func75, Tryz.ntmps75
        go_wp2_with (first
          | (refine load_mid_g (by rfl) 33 _ rfl w.heap.size 1 rfl (y1.map B8) _ HA1.out Tryz.underlying33 rfl HI1.out ?_)
          | (refine load_mid_g (by rfl) 33 _ rfl (w.heap.size + 1) 1 rfl (y2.map B8) _ HB1.out Tryz.underlying33 rfl HI2.out ?_))
        go_ret
        exact ⟨by rw [HE.out]; rfl, HB0.out⟩
    · have g2 : (y1 == y2) = false := by simp [h2]
      rw [g2] at hq
      have HE : Hid (decide ((⟨k1, y1, d1, x1⟩ : Qn) = ⟨k2, y2, d2, x2⟩) = false) := by show _ = _; simp [h2]
      clear h1 h2 g2
      go_enter Tryz.func75, Tryz.ntmps75
      go_wp2_with (first
        | (refine load_mid_g (by rfl) 33 _ rfl w.heap.size 1 rfl (y1.map B8) _ HA1.out Tryz.underlying33 rfl HI1.out ?_)
        | (refine load_mid_g (by rfl) 33 _ rfl (w.heap.size + 1) 1 rfl (y2.map B8) _ HB1.out Tryz.underlying33 rfl HI2.out ?_))
      go_ret
      exact ⟨by rw [HE.out]; rfl, HB0.out⟩
  · have g1 : (k1 == k2) = false := by simp [h1]
    have HE : Hid (decide ((⟨k1, y1, d1, x1⟩ : Qn) = ⟨k2, y2, d2, x2⟩) = false) := by show _ = _; simp [h1]
    clear h1
    go_enter Tryz.func75, Tryz.ntmps75
    go_wp2
    go_ret
    exact ⟨by rw [HE.out]; rfl, HB0.out⟩
def mayQ (q : Qn) : Bool := decide (1 ≤ q.kind ∧ q.kind ≤ 4 ∧ 1 ≤ q.dom ∧ q.dom ≤ 16 ∧ (q.kind = 1 → q.key = List.replicate 32 0))
theorem build_dig (w : World) : (Instr.build 33 #[]).run Tryz.prog w = .ok (.agg ((List.replicate 32 (0 : UInt8)).map B8).toArray) w := by kernel_rfl
theorem upon_eq {P : Program} {op : Oper} {a : Act} {K : Act → World → Prop} {Q : Exit → Act → World → Prop} {r r' : Result Next} (h : r = r') (g : op.upon P a K Q r') : op.upon P a K Q r := h ▸ g
def aL (e : Qn × List UInt8) (dv : Value) : List Value := qL e.1 dv ++ e.2.map B8
theorem aL_len (e : Qn × List UInt8) (dv : Value) (h1 : e.1.key.length = 32) (h2 : e.2.length = 32) : (aL e dv).length = 67 := by unfold aL; simp [qL_len _ _ h1, h2]
def lC : List (Qn × List UInt8) → List Value → List Value
  | e :: l, d :: ds => aL e d ++ lC l ds
  | _, _ => []
def logOk (l : List (Qn × List UInt8)) : Prop := ∀ e ∈ l, e.1.key.length = 32 ∧ e.2.length = 32
theorem lC_at : ∀ (l : List (Qn × List UInt8)) (ds : List Value), logOk l → ds.length = l.length → ∀ i e d, l[i]? = some e → ds[i]? = some d → ∀ j, j < 67 → (lC l ds)[i * 67 + j]? = (aL e d)[j]?
  | [], _, _, _, i, e, d, h, _, _, _ => by simp at h
  | _ :: _, [], _, h, _, _, _, _, _, _, _ => by simp at h
  | e :: l, d :: ds, h, hl, i, e', d', he, hd, j, hj => by
    have h0 := h e (by simp)
    have hal := aL_len e d h0.1 h0.2
    show (aL e d ++ lC l ds)[i * 67 + j]? = _
    cases i with
    | zero =>
      simp only [List.getElem?_cons_zero, Option.some.injEq] at he hd
      subst he hd
      rw [Nat.zero_mul, Nat.zero_add, List.getElem?_append_left (by omega)]
    | succ i =>
      simp only [List.getElem?_cons_succ] at he hd
      rw [List.getElem?_append_right (by rw [hal]; omega), hal, show (i + 1) * 67 + j - 67 = i * 67 + j by omega]
      exact lC_at l ds (fun x hx => h x (by simp [hx])) (by simpa using hl) i e' d' he hd j hj
theorem lC_snoc : ∀ (l : List (Qn × List UInt8)) (ds : List Value) (e : Qn × List UInt8) (d : Value), ds.length = l.length → lC (l ++ [e]) (ds ++ [d]) = lC l ds ++ aL e d
  | [], [], e, d, _ => by show aL e d ++ [] = [] ++ aL e d; simp
  | [], _ :: _, _, _, h => by simp at h
  | _ :: _, [], _, _, h => by simp at h
  | x :: l, y :: ds, e, d, h => by
    show aL x y ++ lC (l ++ [e]) (ds ++ [d]) = aL x y ++ lC l ds ++ aL e d
    rw [lC_snoc l ds e d (by simpa using h), List.append_assoc]
def HLg (B : Nat) (w : World) (lv : Value) (l : List (Qn × List UInt8)) (ds : List Value) : Prop :=
  logOk l ∧ ds.length = l.length ∧ w.ownsRow B 140 67 lv l.length (lC l ds) ∧ ∀ (i : Nat) (e : Qn × List UInt8) (d : Value), l[i]? = some e → ds[i]? = some d → HB w d e.1.data
theorem hlg_form {B : Nat} {w : World} {lv : Value} {l : List (Qn × List UInt8)} {ds : List Value} (h : HLg B w lv l ds) : ∃ p cap, lv = .slice p l.length cap ∧ ∀ i e d, l[i]? = some e → ds[i]? = some d → ∃ g, p = some ⟨g, 0, none⟩ ∧ B ≤ g ∧ w.rangeAt g (i * 67) (qL e.1 d) ∧ w.rangeAt g (i * 67 + 35) (e.2.map B8) := by
  obtain ⟨h1, h2, h3, h4⟩ := h
  rcases h3.2 with ⟨e1, e2⟩ | ⟨g, cap, cur, e1, e2, e3, e4, e5, e6, e7⟩
  · refine ⟨none, 0, by rw [e1, e2], fun i e d he _ => ?_⟩
    have : i < l.length := (List.getElem?_eq_some_iff.1 he).1
    omega
  · refine ⟨some ⟨g, 0, none⟩, cap, e1, fun i e d he hd => ⟨g, rfl, e2, ?_, ?_⟩⟩
    · intro j v hv
      have hi : i < l.length := (List.getElem?_eq_some_iff.1 he).1
      have hem : e ∈ l := List.mem_of_getElem? he
      have hk := (h1 e hem)
      have hj : j < 35 := by
        have := (List.getElem?_eq_some_iff.1 hv).1
        rw [qL_len _ _ hk.1] at this; exact this
      have hx := lC_at l ds h1 h2 i e d he hd j (by omega)
      have : (aL e d)[j]? = some v := by
        unfold aL; rw [List.getElem?_append_left (by rw [qL_len _ _ hk.1]; exact hj)]; exact hv
      rw [this] at hx
      rw [cell_of_row _ _ _ _ _ _ e3]
      rw [← e7, List.getElem?_take] at hx
      rw [if_pos (by omega)] at hx
      simpa using hx
    · intro j v hv
      have hi : i < l.length := (List.getElem?_eq_some_iff.1 he).1
      have hem : e ∈ l := List.mem_of_getElem? he
      have hk := (h1 e hem)
      have hj : j < 32 := by
        have := (List.getElem?_eq_some_iff.1 hv).1
        rw [List.length_map, hk.2] at this; exact this
      have hx := lC_at l ds h1 h2 i e d he hd (35 + j) (by omega)
      have : (aL e d)[35 + j]? = some v := by
        unfold aL
        rw [List.getElem?_append_right (by rw [qL_len _ _ hk.1]; omega), qL_len _ _ hk.1, show 35 + j - 35 = j by omega]; exact hv
      rw [this, ← Nat.add_assoc] at hx
      rw [cell_of_row _ _ _ _ _ _ e3]
      rw [← e7, List.getElem?_take] at hx
      rw [if_pos (by omega)] at hx
      simpa using hx
def fndA (q : Qn) : List (Qn × List UInt8) → Option (List UInt8)
  | [] => none
  | e :: l => @ite _ (e.1 = q) (decQ e.1 q) (some e.2) (fndA q l)
theorem fndA_drop (q : Qn) (l : List (Qn × List UInt8)) (k : Nat) (e : Qn × List UInt8) (he : l[k]? = some e) : fndA q (l.drop k) = @ite _ (e.1 = q) (decQ e.1 q) (some e.2) (fndA q (l.drop (k + 1))) := by
  have hk : k < l.length := (List.getElem?_eq_some_iff.1 he).1
  have h1 : l[k] = e := (List.getElem?_eq_some_iff.1 he).2
  rw [List.drop_eq_getElem_cons hk, h1]
  rfl
theorem fndA_none {q : Qn} : ∀ {l : List (Qn × List UInt8)}, fndA q l = none → ∀ e ∈ l, e.1 ≠ q
  | [], _, e, he => by simp at he
  | x :: l, h, e, he => by
    unfold fndA at h
    by_cases hx : x.1 = q
    · rw [if_pos hx] at h; simp at h
    · rw [if_neg hx] at h
      rcases List.mem_cons.1 he with rfl | he
      · exact hx
      · exact fndA_none h e he
theorem fndA_some {q : Qn} {A : List UInt8} : ∀ {l : List (Qn × List UInt8)}, fndA q l = some A → (q, A) ∈ l
  | [], h => by simp [fndA] at h
  | x :: l, h => by
    unfold fndA at h
    by_cases hx : x.1 = q
    · rw [if_pos hx] at h
      have h2 := Option.some.inj h
      obtain ⟨x1, x2⟩ := x
      simp only at hx h2
      subst hx h2
      simp
    · rw [if_neg hx] at h
      exact List.mem_cons_of_mem _ (fndA_some h)
def tx (l : List UInt8) : Value := .string ⟨l.toArray⟩
def kL (q : Qn) : List Value := qL q (tx q.data)
def kV (q : Qn) : Value := .agg (kL q).toArray
structure kOk (q : Qn) : Prop where
  key : q.key.length = 32
  kind : (Lit.int .i64 q.kind).wf = true
  dom : (Lit.int .i64 q.dom).wf = true
  data : q.data.length ≤ 1099511627776
theorem B8_inj {a b : UInt8} (h : B8 a = B8 b) : a = b := by
  unfold B8 at h
  simp only [Value.int.injEq, true_and] at h
  exact UInt8.toNat_inj.1 (by omega)
theorem mapB8_inj : ∀ {a b : List UInt8}, a.map B8 = b.map B8 → a = b
  | [], [], _ => rfl
  | [], _ :: _, h => by simp at h
  | _ :: _, [], h => by simp at h
  | x :: a, y :: b, h => by
    simp only [List.map_cons, List.cons.injEq] at h
    rw [B8_inj h.1, mapB8_inj h.2]
theorem kL_len (q : Qn) (h : q.key.length = 32) : (kL q).length = 35 := qL_len q _ h
theorem kL_inj {p q : Qn} (hp : p.key.length = 32) (hq : q.key.length = 32) (h : kL p = kL q) : p = q := by
  unfold kL qL at h
  rw [List.cons.injEq] at h
  obtain ⟨h1, h2⟩ := h
  have h3 := List.append_inj h2 (by simp [hp, hq])
  obtain ⟨h4, h5⟩ := h3
  have h6 := mapB8_inj h4
  simp only [tx, List.cons.injEq, Value.int.injEq, true_and, Value.string.injEq, ByteArray.mk.injEq, and_true] at h1 h5
  obtain ⟨h7, h8⟩ := h5
  have h9 : p.data = q.data := by simpa using h8
  obtain ⟨a, b, c, d⟩ := p
  obtain ⟨a', b', c', d'⟩ := q
  simp_all
theorem kV_inj {p q : Qn} (hp : p.key.length = 32) (hq : q.key.length = 32) (h : kV p = kV q) : p = q := by
  unfold kV at h
  exact kL_inj hp hq (by simpa using h)
theorem laidOut5 : laidOutB Tryz.prog = true := by kernel_rfl
theorem lawQ : Maps.Keyed Tryz.prog 120 := Maps.Keyed.of_law (deep_law_laid laidOut5 (m := 3) (by omega) (of_decide_eq_true (by kernel_rfl)) (by kernel_rfl) (by kernel_rfl))
theorem mapM_some {α β : Type} (f : α → Option β) (g : α → β) : ∀ l : List α, (∀ x ∈ l, f x = some (g x)) → l.mapM f = some (l.map g)
  | [], _ => rfl
  | x :: l, h => by
    rw [List.mapM_cons, h x (by simp), mapM_some f g l (fun y hy => h y (by simp [hy]))]
    rfl
theorem B8_wf (x : UInt8) : (Lit.int .u8 (x.toNat : Int)).wf = true := by
  have := x.toNat_lt
  simp [Lit.wf, IntKind.min, IntKind.max, IntKind.signed, IntKind.bits]
  omega
theorem size5 : ∃ m, Tryz.prog.types.size = m + 2 := ⟨Tryz.prog.types.size - 2, by have : 2 ≤ Tryz.prog.types.size := of_decide_eq_true (by kernel_rfl); omega⟩
theorem cells_q : Tryz.prog.cellsOf 120 = 35 := by kernel_rfl
theorem cells_k : Tryz.prog.cellsOf 118 = 1 := by kernel_rfl
theorem cells_m : Tryz.prog.cellsOf 105 = 1 := by kernel_rfl
theorem cells_s : Tryz.prog.cellsOf 9 = 1 := by kernel_rfl
theorem cells_d : Tryz.prog.cellsOf 33 = 32 := by kernel_rfl
theorem cells_b : Tryz.prog.cellsOf 5 = 1 := by kernel_rfl
theorem take_one {l : List Value} {i : Nat} {v : Value} (h : l[i]? = some v) : (l.drop (i * 1)).take 1 = [v] := by
  rw [Nat.mul_one]
  obtain ⟨hi, e⟩ := List.getElem?_eq_some_iff.1 h
  rw [List.drop_eq_getElem_cons hi, e]
  rfl
theorem keyLits_dig (d : Nat) (l : List UInt8) (h : l.length = 32) : ∃ ls, Tryz.prog.keyLits (d + 2) 33 (l.map B8) = some ls := by
  unfold Program.keyLits
  rw [Tryz.underlying33]
  simp only
  rw [if_pos (by rw [cells_d]; simp [h])]
  rw [mapM_some _ (fun i => [Lit.int .u8 ((l.getD i 0).toNat : Int)])]
  · exact ⟨_, rfl⟩
  · intro i hi
    have hi' : i < l.length := by rw [h]; simpa using hi
    have hg : (l.map B8)[i]? = some (B8 (l.getD i 0)) := by
      rw [List.getElem?_map, List.getElem?_eq_getElem hi', List.getD, List.getElem?_eq_getElem hi']
      rfl
    rw [cells_b, take_one hg]
    unfold Program.keyLits
    rw [Tryz.underlying5]
    simp [B8, B8_wf]
theorem keyLits_int5 (d : Nat) (t : TypeId) (n : Int) (hu : Tryz.prog.underlying t = some (.int .i64)) (h : (Lit.int .i64 n).wf = true) : Tryz.prog.keyLits (d + 1) t [.int .i64 n] = some [.int .i64 n] := by
  unfold Program.keyLits
  rw [hu]
  simp [h]
theorem keyLits_str5 (d : Nat) (l : List UInt8) (h : l.length ≤ 1099511627776) : ∃ ls, Tryz.prog.keyLits (d + 1) 9 [tx l] = some ls := by
  unfold Program.keyLits
  rw [Tryz.underlying9]
  unfold tx
  simp only
  rw [if_pos (by unfold maxLen; simp [ByteArray.size]; omega)]
  exact ⟨_, rfl⟩
theorem key_ok (q : Qn) (h : kOk q) : ∃ kl, keyOf Tryz.prog 120 (kV q) = some kl := by
  obtain ⟨m, hm⟩ := size5
  obtain ⟨ld, hd⟩ := keyLits_dig m q.key h.key
  obtain ⟨ls, hs⟩ := keyLits_str5 (m + 1) q.data h.data
  have hk := keyLits_int5 (m + 1) 118 q.kind Tryz.underlying118 h.kind
  have ho := keyLits_int5 (m + 1) 105 q.dom Tryz.underlying105 h.dom
  have e1 : ((kL q).drop 0).take 1 = [.int .i64 q.kind] := by unfold kL qL; simp
  have e2 : ((kL q).drop 1).take 32 = q.key.map B8 := by
    unfold kL qL
    rw [List.drop_succ_cons, List.drop_zero, List.take_append_of_le_length (by simp [h.key]), List.take_of_length_le (by simp [h.key])]
  have e3 : ((kL q).drop 33).take 1 = [.int .i64 q.dom] := by
    unfold kL qL
    rw [List.drop_succ_cons, List.drop_append_of_le_length (by simp [h.key]), List.drop_eq_nil_of_le (by simp [h.key])]
    simp
  have e4 : ((kL q).drop 34).take 1 = [tx q.data] := by
    unfold kL qL
    rw [List.drop_succ_cons, List.drop_append, List.drop_eq_nil_of_le (by simp [h.key])]
    simp [h.key]
  have hlits : Tryz.prog.keyLits (m + 2 + 1) 120 (kL q) = some ([[Lit.int .i64 q.kind], ld, [.int .i64 q.dom], ls].flatten) := by
    unfold Program.keyLits
    rw [Tryz.underlying120]
    simp only
    rw [if_pos ⟨by rw [cells_q, kL_len q h.key], by kernel_rfl⟩]
    simp only [List.mapM_cons, List.mapM_nil, cells_k, cells_m, cells_s, cells_d, e1, e2, e3, e4, hd, hs, hk, ho]
    rfl
  unfold keyOf
  rw [Tryz.underlying120]
  simp only
  rw [if_pos, hm]
  · rw [show (kV q).cells.toList = kL q by unfold kV; simp [Value.cells], hlits]
    exact ⟨_, rfl⟩
  · rw [Bool.and_eq_true]
    refine ⟨by kernel_rfl, ?_⟩
    unfold kV Value.formed
    rw [Tryz.underlying120, cells_q]
    simp [kL_len q h.key]
open Go.ChangeMaps (setBlock heap_setBlock_same heap_setBlock_other)
def dV (a : List UInt8) : Value := .agg (a.map B8).toArray
structure lOk (l : List (Qn × List UInt8)) : Prop where
  all : ∀ x ∈ l, kOk x.1 ∧ x.2.length = 32
  once : (l.map (·.1)).Nodup
def MH (w : World) (mb : Nat) (l : List (Qn × List UInt8)) : Prop :=
  ∃ es clock, w.heap[mb]? = some (.map es clock) ∧ (es.toList.map fun e => (e.key, e.val)).Perm (l.map fun x => (kV x.1, dV x.2))
theorem MH.lt {w : World} {mb : Nat} {l : List (Qn × List UInt8)} (h : MH w mb l) : mb < w.heap.size := by
  obtain ⟨es, c, h1, _⟩ := h; exact row_lt h1
theorem MH.keep {w w' : World} {mb : Nat} {l : List (Qn × List UInt8)} (h : MH w mb l) (e : w'.heap[mb]? = w.heap[mb]?) : MH w' mb l := by
  obtain ⟨es, c, h1, h2⟩ := h; exact ⟨es, c, e.trans h1, h2⟩
theorem MH.mem {es : Array MapEntry} {l : List (Qn × List UInt8)} (h : (es.toList.map fun e => (e.key, e.val)).Perm (l.map fun x => (kV x.1, dV x.2))) {e : MapEntry} (he : e ∈ es.toList) : ∃ x ∈ l, e.key = kV x.1 ∧ e.val = dV x.2 := by
  have := h.subset (List.mem_map.2 ⟨e, he, rfl⟩)
  obtain ⟨x, hx, hxe⟩ := List.mem_map.1 this
  simp only [Prod.mk.injEq] at hxe
  exact ⟨x, hx, hxe.1.symm, hxe.2.symm⟩
theorem MH.mem' {es : Array MapEntry} {l : List (Qn × List UInt8)} (h : (es.toList.map fun e => (e.key, e.val)).Perm (l.map fun x => (kV x.1, dV x.2))) {x : Qn × List UInt8} (hx : x ∈ l) : ∃ e ∈ es.toList, e.key = kV x.1 ∧ e.val = dV x.2 := by
  have := h.symm.subset (List.mem_map.2 ⟨x, hx, rfl⟩)
  obtain ⟨e, he, hxe⟩ := List.mem_map.1 this
  simp only [Prod.mk.injEq] at hxe
  exact ⟨e, he, hxe.1, hxe.2⟩
theorem nodup_snd : ∀ {l : List (Qn × List UInt8)}, (l.map (·.1)).Nodup → ∀ {q : Qn} {A B : List UInt8}, (q, A) ∈ l → (q, B) ∈ l → A = B
  | [], _, _, _, _, h, _ => by simp at h
  | x :: l, hn, q, A, B, h1, h2 => by
    simp only [List.map_cons, List.nodup_cons] at hn
    rcases List.mem_cons.1 h1 with e1 | e1 <;> rcases List.mem_cons.1 h2 with e2 | e2
    · rw [← e1] at e2; simpa using e2.symm
    · exact absurd (List.mem_map.2 ⟨_, e2, rfl⟩) (by rw [← e1] at hn; exact hn.1)
    · exact absurd (List.mem_map.2 ⟨_, e1, rfl⟩) (by rw [← e2] at hn; exact hn.1)
    · exact nodup_snd hn.2 e1 e2
theorem find_q {w : World} {mb : Nat} {l : List (Qn × List UInt8)} (hl : lOk l) {es : Array MapEntry} (h2 : (es.toList.map fun e => (e.key, e.val)).Perm (l.map fun x => (kV x.1, dV x.2))) {q : Qn} (hq : kOk q) :
    (fndA q l = none ∧ (Instr.findKey 120 (kV q) es.toList).run Tryz.prog w = .ok none w) ∨
    (∃ A j, fndA q l = some A ∧ (Instr.findKey 120 (kV q) es.toList).run Tryz.prog w = .ok (some (j, dV A)) w) := by
  obtain ⟨kl, hk⟩ := key_ok q hq
  rcases lawQ.find w hk es.toList (fun e he => by obtain ⟨x, hx, e1, _⟩ := MH.mem h2 he; rw [e1]; exact key_ok x.1 (hl.all x hx).1) with ⟨hr, hn⟩ | ⟨j, e, hr, hj, he⟩
  · refine .inl ⟨?_, hr⟩
    cases hf : fndA q l with
    | none => rfl
    | some A =>
      obtain ⟨e, he, e1, _⟩ := MH.mem' h2 (fndA_some hf)
      exact absurd e1 (hn e he)
  · obtain ⟨x, hx, e1, e2⟩ := MH.mem h2 (List.mem_of_getElem? hj)
    have hxq : x.1 = q := kV_inj (hl.all x hx).1.key hq.key (e1.symm.trans he)
    refine .inr ⟨x.2, j, ?_, by rw [← e2]; exact hr⟩
    cases hf : fndA q l with
    | none => exact absurd hxq (fndA_none hf x hx)
    | some A =>
      have := fndA_some hf
      rw [nodup_snd hl.once this (B := x.2) (by rw [← hxq]; exact hx)]
def lookV (l : List (Qn × List UInt8)) (q : Qn) : Value := match fndA q l with | some A => dV A | none => dV (List.replicate 32 0)
theorem mh_look {w : World} {mb : Nat} {l : List (Qn × List UInt8)} (hl : lOk l) (h : MH w mb l) {q : Qn} (hq : kOk q) (c : Bool) (hz : (zeroValue 33).run Tryz.prog w = .ok (dV (List.replicate 32 0)) w) :
    (Instr.lookup 114 (.map (some mb)) (kV q) c).run Tryz.prog w = .ok (if c then .tuple #[lookV l q, .bool (fndA q l).isSome] else lookV l q) w := by
  obtain ⟨es, clock, h1, h2⟩ := h
  obtain ⟨kl, hk⟩ := key_ok q hq
  rcases find_q (w := w) (mb := mb) hl h2 hq with ⟨hf, hr⟩ | ⟨A, j, hf, hr⟩
  · simp [Instr.lookup, run_underlying Tryz.underlying114, MapKept.run_getObj_map h1, lawQ.check w _ hk, hr, hz, hf, lookV, Result.andThen]
  · simp [Instr.lookup, run_underlying Tryz.underlying114, MapKept.run_getObj_map h1, lawQ.check w _ hk, hr, hf, lookV, Result.andThen]
theorem mh_put {w : World} {mb : Nat} {l : List (Qn × List UInt8)} (hl : lOk l) (h : MH w mb l) {q : Qn} (hq : kOk q) (A : List UInt8) (hf : fndA q l = none) :
    ∃ o, (Instr.mapUpdate 114 (.map (some mb)) (kV q) (dV A)).run Tryz.prog w = .ok () (setBlock w mb o) ∧ MH (setBlock w mb o) mb (l ++ [(q, A)]) ∧ w.grownBy (setBlock w mb o) (some mb) := by
  obtain ⟨es, clock, h1, h2⟩ := h
  obtain ⟨kl, hk⟩ := key_ok q hq
  rcases find_q (w := w) (mb := mb) hl h2 hq with ⟨_, hr⟩ | ⟨A', j, hf', hr⟩
  · refine ⟨.map (es.push ⟨kV q, dV A, clock⟩) (clock + 1), ?_, ⟨_, _, heap_setBlock_same h1 _, ?_⟩, ⟨rfl, rfl, rfl, by simp [setBlock], fun i _ hi => heap_setBlock_other h1 _ (fun e => hi (by rw [e]))⟩⟩
    · simp [Instr.mapUpdate, run_underlying Tryz.underlying114, MapKept.run_getObj_map h1, lawQ.check w false hk, hr, MapKept.run_setObj_map _ h1, Result.andThen, setBlock]
    · rw [Array.toList_push, List.map_append, List.map_append]
      exact h2.append_right _
  · rw [hf] at hf'; cases hf'
theorem lOk.snoc {l : List (Qn × List UInt8)} (h : lOk l) {q : Qn} (hq : kOk q) {A : List UInt8} (hA : A.length = 32) (hf : fndA q l = none) : lOk (l ++ [(q, A)]) := by
  refine ⟨fun x hx => ?_, ?_⟩
  · rcases List.mem_append.1 hx with hx | hx
    · exact h.all x hx
    · have : x = (q, A) := by simpa using hx
      subst this
      exact ⟨hq, hA⟩
  · rw [List.map_append, List.nodup_append]
    refine ⟨h.once, by simp, fun a ha b hb e => ?_⟩
    have hbq : b = q := by simpa using hb
    obtain ⟨x, hx, hxa⟩ := List.mem_map.1 ha
    exact fndA_none hf x hx (by rw [hxa, e, hbq])
end Go.Proofs.YtekbppfocnbhbaaGreat.R5
