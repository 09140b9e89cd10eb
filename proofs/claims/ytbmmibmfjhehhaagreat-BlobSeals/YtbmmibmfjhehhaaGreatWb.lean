/- Several texts in one. -/
import Derived.Test.YtbmmibmfjhehhaaGreatB9
import Derived.Test.YtbmmibmfjhehhaaGreatWa
import Derived.Great.BuildSlice
import Derived.Deep.AppendLies
set_option linter.unusedVariables false
set_option linter.unusedSimpArgs false
/- Contract of ref 5's May. -/
namespace Go.Proofs.YtbmmibmfjhehhaaGreat.R5
open scoped Classical
open Go.RowKit

def mayQ (q : Qn) : Bool := decide (1 ≤ q.kind ∧ q.kind ≤ 4 ∧ 1 ≤ q.dom ∧ q.dom ≤ 16 ∧ (q.kind = 1 → q.key = List.replicate 32 0))
theorem build_dig (w : World) : (Instr.build 23 #[]).run Tryz.prog w = .ok (.agg ((List.replicate 32 (0 : UInt8)).map B8).toArray) w := by kernel_rfl

theorem upon_eq {P : Program} {op : Oper} {a : Act} {K : Act → World → Prop} {Q : Exit → Act → World → Prop} {r r' : Result Next} (h : r = r') (g : op.upon P a K Q r') : op.upon P a K Q r := h ▸ g

end Go.Proofs.YtbmmibmfjhehhaaGreat.R5

/- Logs of ref 5: their cells. -/
namespace Go.Proofs.YtbmmibmfjhehhaaGreat.R5
open scoped Classical
open Go.RowKit

def aL (e : Qn × List UInt8) (dv : Value) : List Value := qL e.1 dv ++ e.2.map B8
theorem aL_len (e : Qn × List UInt8) (dv : Value) (h1 : e.1.key.length = 32) (h2 : e.2.length = 32) : (aL e dv).length = 67 := by unfold aL; simp [qL_len _ _ h1, h2]
def lC : List (Qn × List UInt8) → List Value → List Value
  | e :: l, d :: ds => aL e d ++ lC l ds
  | _, _ => []
def logOk (l : List (Qn × List UInt8)) : Prop := ∀ e ∈ l, e.1.key.length = 32 ∧ e.2.length = 32
theorem lC_at : ∀ (l : List (Qn × List UInt8)) (ds : List Value), logOk l → ds.length = l.length → ∀ i e d, l[i]? = some e → ds[i]? = some d → ∀ j, j < 67 → (lC l ds)[i * 67 + j]? = (aL e d)[j]?
  | [], _, _, _, i, e, d, h, _, _, _ => by simp at h
  | _ :: _, [], _, h, _, _, _, _, _, _, _ => by simp at h
  | e :: l, d :: ds, h, hl, i, e', d', he, hd, j, hj => by
    have h0 := h e (by simp)
    have hal := aL_len e d h0.1 h0.2
    show (aL e d ++ lC l ds)[i * 67 + j]? = _
    cases i with
    | zero =>
      simp only [List.getElem?_cons_zero, Option.some.injEq] at he hd
      subst he hd
      rw [Nat.zero_mul, Nat.zero_add, List.getElem?_append_left (by omega)]
    | succ i =>
      simp only [List.getElem?_cons_succ] at he hd
      rw [List.getElem?_append_right (by rw [hal]; omega), hal, show (i + 1) * 67 + j - 67 = i * 67 + j by omega]
      exact lC_at l ds (fun x hx => h x (by simp [hx])) (by simpa using hl) i e' d' he hd j hj
theorem lC_snoc : ∀ (l : List (Qn × List UInt8)) (ds : List Value) (e : Qn × List UInt8) (d : Value), ds.length = l.length → lC (l ++ [e]) (ds ++ [d]) = lC l ds ++ aL e d
  | [], [], e, d, _ => by show aL e d ++ [] = [] ++ aL e d; simp
  | [], _ :: _, _, _, h => by simp at h
  | _ :: _, [], _, _, h => by simp at h
  | x :: l, y :: ds, e, d, h => by
    show aL x y ++ lC (l ++ [e]) (ds ++ [d]) = aL x y ++ lC l ds ++ aL e d
    rw [lC_snoc l ds e d (by simpa using h), List.append_assoc]
def HLg (B : Nat) (w : World) (lv : Value) (l : List (Qn × List UInt8)) (ds : List Value) : Prop :=
  logOk l ∧ ds.length = l.length ∧ w.ownsRow B 68 67 lv l.length (lC l ds) ∧ ∀ (i : Nat) (e : Qn × List UInt8) (d : Value), l[i]? = some e → ds[i]? = some d → HB w d e.1.data
theorem hlg_form {B : Nat} {w : World} {lv : Value} {l : List (Qn × List UInt8)} {ds : List Value} (h : HLg B w lv l ds) : ∃ p cap, lv = .slice p l.length cap ∧ ∀ i e d, l[i]? = some e → ds[i]? = some d → ∃ g, p = some ⟨g, 0, none⟩ ∧ B ≤ g ∧ w.rangeAt g (i * 67) (qL e.1 d) ∧ w.rangeAt g (i * 67 + 35) (e.2.map B8) := by
  obtain ⟨h1, h2, h3, h4⟩ := h
  rcases h3.2 with ⟨e1, e2⟩ | ⟨g, cap, cur, e1, e2, e3, e4, e5, e6, e7⟩
  · refine ⟨none, 0, by rw [e1, e2], fun i e d he _ => ?_⟩
    have : i < l.length := (List.getElem?_eq_some_iff.1 he).1
    omega
  · refine ⟨some ⟨g, 0, none⟩, cap, e1, fun i e d he hd => ⟨g, rfl, e2, ?_, ?_⟩⟩
    · intro j v hv
      have hi : i < l.length := (List.getElem?_eq_some_iff.1 he).1
      have hem : e ∈ l := List.mem_of_getElem? he
      have hk := (h1 e hem)
      have hj : j < 35 := by
        have := (List.getElem?_eq_some_iff.1 hv).1
        rw [qL_len _ _ hk.1] at this; exact this
      have hx := lC_at l ds h1 h2 i e d he hd j (by omega)
      have : (aL e d)[j]? = some v := by
        unfold aL; rw [List.getElem?_append_left (by rw [qL_len _ _ hk.1]; exact hj)]; exact hv
      rw [this] at hx
      rw [cell_of_row _ _ _ _ _ _ e3]
      rw [← e7, List.getElem?_take] at hx
      rw [if_pos (by omega)] at hx
      simpa using hx
    · intro j v hv
      have hi : i < l.length := (List.getElem?_eq_some_iff.1 he).1
      have hem : e ∈ l := List.mem_of_getElem? he
      have hk := (h1 e hem)
      have hj : j < 32 := by
        have := (List.getElem?_eq_some_iff.1 hv).1
        rw [List.length_map, hk.2] at this; exact this
      have hx := lC_at l ds h1 h2 i e d he hd (35 + j) (by omega)
      have : (aL e d)[35 + j]? = some v := by
        unfold aL
        rw [List.getElem?_append_right (by rw [qL_len _ _ hk.1]; omega), qL_len _ _ hk.1, show 35 + j - 35 = j by omega]; exact hv
      rw [this, ← Nat.add_assoc] at hx
      rw [cell_of_row _ _ _ _ _ _ e3]
      rw [← e7, List.getElem?_take] at hx
      rw [if_pos (by omega)] at hx
      simpa using hx
def fndA (q : Qn) : List (Qn × List UInt8) → Option (List UInt8)
  | [] => none
  | e :: l => @ite _ (e.1 = q) (decQ e.1 q) (some e.2) (fndA q l)
theorem fndA_drop (q : Qn) (l : List (Qn × List UInt8)) (k : Nat) (e : Qn × List UInt8) (he : l[k]? = some e) : fndA q (l.drop k) = @ite _ (e.1 = q) (decQ e.1 q) (some e.2) (fndA q (l.drop (k + 1))) := by
  have hk : k < l.length := (List.getElem?_eq_some_iff.1 he).1
  have h1 : l[k] = e := (List.getElem?_eq_some_iff.1 he).2
  rw [List.drop_eq_getElem_cons hk, h1]
  rfl

theorem fndA_none {q : Qn} : ∀ {l : List (Qn × List UInt8)}, fndA q l = none → ∀ e ∈ l, e.1 ≠ q
  | [], _, e, he => by simp at he
  | x :: l, h, e, he => by
    unfold fndA at h
    by_cases hx : x.1 = q
    · rw [if_pos hx] at h; simp at h
    · rw [if_neg hx] at h
      rcases List.mem_cons.1 he with rfl | he
      · exact hx
      · exact fndA_none h e he

theorem fndA_some {q : Qn} {A : List UInt8} : ∀ {l : List (Qn × List UInt8)}, fndA q l = some A → (q, A) ∈ l
  | [], h => by simp [fndA] at h
  | x :: l, h => by
    unfold fndA at h
    by_cases hx : x.1 = q
    · rw [if_pos hx] at h
      have h2 := Option.some.inj h
      obtain ⟨x1, x2⟩ := x
      simp only at hx h2
      subst hx h2
      simp
    · rw [if_neg hx] at h
      exact List.mem_cons_of_mem _ (fndA_some h)

end Go.Proofs.YtbmmibmfjhehhaaGreat.R5

/- Contract of ref 5's answer: what was asked before. -/
namespace Go.Proofs.YtbmmibmfjhehhaaGreat.R5
open scoped Classical
open Go.RowKit

theorem w3_facts (w : World) (QL : List Value) (CA ZA : Array Value) (w1 : World) (h : w1 = ((w.alloc (.cells QL.toArray 66 (0, 0))).alloc (.cells CA 23 (0, 0))).alloc (.cells ZA 23 (0, 0))) :
    Below w.heap.size w w1 ∧ w1.heap.size = w.heap.size + 3 ∧ w1.heap[w.heap.size]? = some (.cells QL.toArray 66 (0, 0)) ∧ w1.heap[w.heap.size + 1]? = some (.cells CA 23 (0, 0)) ∧ w1.heap[w.heap.size + 1 + 1]? = some (.cells ZA 23 (0, 0)) := by
  subst h
  refine ⟨(((Below.refl _ _).alloc (Nat.le_refl _) _).alloc (by simp) _).alloc (by simp; omega) _, by simp, ?_, ?_, heap_at _ _ _ (by simp)⟩
  · rw [heap_alloc_old _ _ (by simp; omega)]; exact alloc2_first _ _ _
  · rw [heap_alloc_old _ _ (by simp)]; exact heap_at _ _ _ (by simp)

set_option maxHeartbeats 8000000 in
set_option maxRecDepth 100000 in
theorem answer_found (og B : Nat) (lv qv : Value) (l : List (Qn × List UInt8)) (lds : List Value) (q : Qn) (C A : List UInt8) (w : World) (hC : C.length = 32) (hll : l.length < 9223372036854775807) (hc : w.cell? ⟨og, 35, none⟩ = some lv) (hl : HLg B w lv l lds) (hq : HQ w qv q) (hf : fndA q l = some A) :
    Calls Tryz.prog 40 #[.pointer (some ⟨og, 0, none⟩), qv, .agg (C.map B8).toArray] w fun e w' => e = .returned (.agg (A.map B8).toArray) ∧ Below w.heap.size w w' := by
  obtain ⟨hqk, dv, rfl, hdv⟩ := hq
  have hHQ : HQ w (.agg (qL q dv).toArray) q := ⟨hqk, dv, rfl, hdv⟩
  have hQi := info35 (qL q dv) (qL_len q dv hqk)
  obtain ⟨p, cap, rfl, hrows⟩ := hlg_form hl
  obtain ⟨hlok, hdl, _, hent⟩ := hl
  have hog := block_lt hc
  simp only at hog
  have hzv := fun W => zero_dig W
  obtain ⟨ZA, hZA⟩ : ∃ A, A = ((List.replicate 32 (0 : UInt8)).map B8).toArray := ⟨_, rfl⟩
  rw [← hZA] at hzv
  have HZS : Hid (ZA.size = 32) := by show _ = _; rw [hZA]; simp
  generalize qL q dv = QL at *
  generalize (C.map B8).toArray = CA at *
  obtain ⟨w1, hw1⟩ : ∃ w1, w1 = ((w.alloc (.cells QL.toArray 66 (0, 0))).alloc (.cells CA 23 (0, 0))).alloc (.cells ZA 23 (0, 0)) := ⟨_, rfl⟩
  obtain ⟨hb1, hs1, hr0, _, hr2⟩ := w3_facts w QL CA ZA w1 hw1
  have HQ1 : Hid _ := hq_below hHQ hb1
  have HC1 : Hid (w1.cell? ⟨og, 35, none⟩ = some (.slice p l.length cap)) := (hb1.cell hog).trans hc
  have HRQ : Hid (w1.rangeAt w.heap.size 0 QL) := rangeAt_row hr0
  have HRZ : Hid _ := hr2
  have HQI : Hid _ := hQi
  have HB1 : Hid _ := hb1
  have HW1 : Hid _ := hw1
  have HF : Hid _ := hf
  have HRW : Hid _ := hrows
  have HEN : Hid _ := hent
  have HOK : Hid _ := hlok
  have HDL : Hid _ := hdl
  have HS1 : Hid _ := hs1
  have hog1 : og < w1.heap.size := by omega
  have huQ := Tryz.underlying66
  have HUQ : Hid _ := huQ
  clear hZA hdv hHQ hrows hent hc hb1 hr0 hr2 hf hlok hdl hw1 hQi hqk hC hs1 huQ
  go_enter Tryz.func40, Tryz.ntmps40
  go_wp2
  go_loopw [7] (fun i wr => ∃ k : Nat, k ≤ l.length ∧ i = .int .i64 k ∧ fndA q (l.drop k) = some A ∧ Below w1.heap.size w1 wr) (fun i _ => l.length - (intOf i).toNat)
  case atStart => exact ⟨0, Nat.zero_le _, rfl, HF.out, by rw [HW1.out]; exact Below.refl _ _⟩
  case round =>
    obtain ⟨k, hk, rfl, hfk, hb⟩ := hrel
    by_cases hlt : k < l.length
    · have hkI : (k : Int) < (l.length : Int) := by omega
      obtain ⟨e, he⟩ : ∃ e, l[k]? = some e := ⟨_, List.getElem?_eq_getElem hlt⟩
      obtain ⟨d, hd⟩ : ∃ d, lds[k]? = some d := ⟨_, List.getElem?_eq_getElem (by rw [HDL.out]; exact hlt)⟩
      obtain ⟨g, rfl, hBg, hr1, hr2⟩ := HRW.out k e d he hd
      have hok := HOK.out e (List.mem_of_getElem? he)
      have hE1 : HQ w (.agg (qL e.1 d).toArray) e.1 := ⟨hok.1, d, rfl, HEN.out k e d he hd⟩
      have HEQ : Hid _ := hq_below hE1 HB1.out
      have HEI : Hid _ := info35 (qL e.1 d) (qL_len e.1 d hok.1)
      have HER : Hid _ := rangeAt_below hr1 HB1.out
      have HAR : Hid _ := rangeAt_below hr2 HB1.out
      have HAI : Hid _ := info32 (e.2.map B8) (by rw [List.length_map]; exact hok.2)
      have HAS : Hid ((e.2.map B8).toArray.size = 32) := by show _ = _; simp [hok.2]
      have HA1 : Hid _ := B8_onea e.2
      have hcW : wr.cell? ⟨og, 35, none⟩ = some (.slice (some ⟨g, 0, none⟩) l.length cap) := (hb.cell hog1).trans HC1.out
      have hdr := fndA_drop q l k e he
      rw [hfk] at hdr
      obtain ⟨e1, e2⟩ := e
      simp only at *
      generalize qL e1 d = EL at *
      have HBd : Hid (Below w1.heap.size w1 wr.drew) := hb.drew
      have HDR : Hid _ := hdr
      clear hr1 hr2 hok hE1 he hd hfk hdr hb HRW HEN
      by_cases heq : e1 = q
      · have HD : Hid (decide (e1 = q) = true) := decide_eq_true heq
        have HE2 : Hid (some A = some e2) := by show _ = _; rw [HDR.out, if_pos heq]
        clear heq HDR
        go_wp2
        refine wp_region_held_drew (S := fun w' => Below w1.heap.size w1 w') (by kernel_rfl) HBd.out (fun hHeld => ?_)
        generalize wr.drew = W at *
        refine wpAnyH_take (i := 0) (oi := ⟨some 18, .move (.tmp 0), 32, _, #[], none⟩) (v := .pointer (some ⟨og, 0, none⟩)) rfl (by kernel_rfl) (by kernel_rfl) (by kernel_rfl) (fun _ _ _ h => h) (Or.inl ⟨by rfl, fun w' hw' => ?_⟩) hHeld ?_
        · first | (go_simp; done) | (go_simp; rfl)
        try simp only [Act.put, qT, q0, qS]
        refine wpAnyH_take (i := 1) (oi := ⟨some 19, .nilCheck (.tmp 18), 0, _, #[⟨0, .data⟩], none⟩) (v := .pointer (some ⟨og, 0, none⟩)) rfl (by kernel_rfl) (by kernel_rfl) (by kernel_rfl) (fun _ _ _ h => h) (Or.inl ⟨by rfl, fun w' hw' => ?_⟩) hHeld ?_
        · first | (go_simp; done) | (go_simp; rfl)
        try simp only [Act.put, qT, q0, qS]
        refine wpAnyH_take (i := 2) (oi := ⟨some 20, .fieldAddr 45 (.tmp 19) 4, 0, _, #[⟨1, .data⟩], none⟩) (v := .pointer (some ⟨og, 35, none⟩)) rfl (by kernel_rfl) (by kernel_rfl) (by kernel_rfl) (fun _ _ _ h => h) (Or.inl ⟨by rfl, fun w' hw' => ?_⟩) hHeld ?_
        · first | (go_simp; done) | (go_simp; rfl)
        try simp only [Act.put, qT, q0, qS]
        refine wpAnyH_take (i := 3) (oi := ⟨some 21, .load 40 (.tmp 20), 40, _, #[⟨2, .data⟩], none⟩) (v := .slice (some ⟨g, 0, none⟩) l.length cap) rfl (by kernel_rfl) (by kernel_rfl) (by kernel_rfl) (fun _ _ _ h => h) (Or.inl ⟨by rfl, fun w' hw' => ?_⟩) hHeld ?_
        · have hcc := (hw'.cell hog1).trans HC1.out; first | (go_simp; done) | (go_simp; rfl)
        try simp only [Act.put, qT, q0, qS]
        refine wpAnyH_take (i := 4) (oi := ⟨some 22, .move (.tmp 7), 3, _, #[], none⟩) (v := .int .i64 (k : Int)) rfl (by kernel_rfl) (by kernel_rfl) (by kernel_rfl) (fun _ _ _ h => h) (Or.inl ⟨by rfl, fun w' hw' => ?_⟩) hHeld ?_
        · first | (go_simp; done) | (go_simp; rfl)
        try simp only [Act.put, qT, q0, qS]
        refine wpAnyH_take (i := 5) (oi := ⟨some 23, .indexAddr 40 (.tmp 21) (.tmp 22), 0, _, #[⟨3, .data⟩, ⟨4, .data⟩], none⟩) (v := .pointer (some ⟨g, k * 67, none⟩)) rfl (by kernel_rfl) (by kernel_rfl) (by kernel_rfl) (fun _ _ _ h => h) (Or.inl ⟨by rfl, fun w' hw' => ?_⟩) hHeld ?_
        · first | (go_simp; done) | (go_simp; rfl)
        try simp only [Act.put, qT, q0, qS]
        refine wpAnyH_take (i := 6) (oi := ⟨some 24, .fieldAddr 68 (.tmp 23) 0, 0, _, #[⟨5, .data⟩], none⟩) (v := .pointer (some ⟨g, k * 67, none⟩)) rfl (by kernel_rfl) (by kernel_rfl) (by kernel_rfl) (fun _ _ _ h => h) (Or.inl ⟨by rfl, fun w' hw' => ?_⟩) hHeld ?_
        · first | (go_simp; done) | (go_simp; rfl)
        try simp only [Act.put, qT, q0, qS]
        refine wpAnyH_take (i := 7) (oi := ⟨some 25, .load 66 (.tmp 24), 66, _, #[⟨6, .data⟩], none⟩) rfl (by kernel_rfl) (by kernel_rfl) (by kernel_rfl) (fun _ _ _ h => h) (yieldsIf_load_mid (by rfl) 66 (.tmp 24) rfl (g) (k * 67) rfl (EL) _ (fun _ h => rangeAt_below HER.out h) HUQ.out rfl HEI.out) hHeld ?_
        try simp only [Act.put, qT, q0, qS]
        refine wpAnyH_take (i := 8) (oi := ⟨some 26, .load 66 (.tmp 4), 66, _, #[], none⟩) rfl (by kernel_rfl) (by kernel_rfl) (by kernel_rfl) (fun _ _ _ h => h) (yieldsIf_load_mid (by rfl) 66 (.tmp 4) rfl (w.heap.size) (0) rfl (QL) _ (fun _ h => rangeAt_below HRQ.out h) HUQ.out rfl HQI.out) hHeld ?_
        try simp only [Act.put, qT, q0, qS]
        refine wpAnyH_ready (rs := [9]) (by kernel_rfl) (by simp) ?_
        refine AllReadyH.cons (o := { dst := some 27, op := .call { callee := Go.Callee.value (.func 27), args := #[.tmp 25, .tmp 26], argTypes := #[66, 66] }, type := 4, pos := _, after := #[⟨7, .data⟩, ⟨8, .data⟩], guard := none }) rfl (fun K hK => ?_) AllReadyH.nil
        rw [if_pos (by rfl)]
        go_wp2_with fail
        refine (qsame_any (.agg EL.toArray) (.agg QL.toArray) e1 q _ (hq_below HEQ.out hHeld) (hq_below HQ1.out hHeld)).mono ?_
        rintro ex W2 ⟨rfl, hb2⟩
        rw [HD.out]
        have hHeld2 : Below w1.heap.size w1 W2 := hHeld.trans (hb2.mono hHeld.size)
        clear hb2
        refine hK.out _ _ hHeld2 (fun _ => ?_)
        clear hK K
        try simp only [Act.put, qT, q0, qS]
        refine wpAnyH_done (by kernel_rfl) ?_ _
        have HAW : Hid (W2.rangeAt g (k * 67 + 35) (e2.map B8)) := rangeAt_below HAR.out hHeld2
        have HZW : Hid (W2.heap[w.heap.size + 1 + 1]? = some (.cells ZA 23 (0, 0))) := (hHeld2.block _ (by have := HS1.out; omega)).trans HRZ.out
        have HBW : Hid (Below w.heap.size w W2) := HB1.out.trans (hHeld2.mono (by have := HS1.out; omega))
        have hcW2 : W2.cell? ⟨og, 35, none⟩ = some (.slice (some ⟨g, 0, none⟩) l.length cap) := (hHeld2.cell hog1).trans HC1.out
        clear hHeld hHeld2 hcW
        go_wp2_with (first
          | (refine wpList_load_mid rfl 23 _ rfl g (k * 67 + 35) rfl (e2.map B8) _ HAW.out Tryz.underlying23 rfl HAI.out ?_)
          | (refine wpList_store_row rfl 23 _ _ rfl (w.heap.size + 1 + 1) (e2.map B8).toArray rfl rfl 23 ZA HZW.out (info32a _ HAS.out) (HZS.out.trans HAS.out.symm) HA1.out ?_))
        refine bodyPost_ret (v := .agg (e2.map B8).toArray) ?_ rfl ⟨by rw [Option.some.inj HE2.out], below_setRow HBW.out (by omega) _⟩
        exact results_cell_row Tryz.results40 _ _ (w.heap.size + 1 + 1) 23 _ (0, 0) _ rfl (setRow_heap _ _ _ _ _ _ HZW.out) Tryz.underlying23 rfl (info32a _ HAS.out)
      · have HD : Hid (decide (e1 = q) = false) := decide_eq_false heq
        have HE2 : Hid (fndA q (l.drop (k + 1)) = some A) := by show _ = _; rw [HDR.out, if_neg heq]
        clear heq HDR
        go_wp2
        refine wp_region_held_drew (S := fun w' => Below w1.heap.size w1 w') (by kernel_rfl) HBd.out (fun hHeld => ?_)
        generalize wr.drew = W at *
        refine wpAnyH_take (i := 0) (oi := ⟨some 18, .move (.tmp 0), 32, _, #[], none⟩) (v := .pointer (some ⟨og, 0, none⟩)) rfl (by kernel_rfl) (by kernel_rfl) (by kernel_rfl) (fun _ _ _ h => h) (Or.inl ⟨by rfl, fun w' hw' => ?_⟩) hHeld ?_
        · first | (go_simp; done) | (go_simp; rfl)
        try simp only [Act.put, qT, q0, qS]
        refine wpAnyH_take (i := 1) (oi := ⟨some 19, .nilCheck (.tmp 18), 0, _, #[⟨0, .data⟩], none⟩) (v := .pointer (some ⟨og, 0, none⟩)) rfl (by kernel_rfl) (by kernel_rfl) (by kernel_rfl) (fun _ _ _ h => h) (Or.inl ⟨by rfl, fun w' hw' => ?_⟩) hHeld ?_
        · first | (go_simp; done) | (go_simp; rfl)
        try simp only [Act.put, qT, q0, qS]
        refine wpAnyH_take (i := 2) (oi := ⟨some 20, .fieldAddr 45 (.tmp 19) 4, 0, _, #[⟨1, .data⟩], none⟩) (v := .pointer (some ⟨og, 35, none⟩)) rfl (by kernel_rfl) (by kernel_rfl) (by kernel_rfl) (fun _ _ _ h => h) (Or.inl ⟨by rfl, fun w' hw' => ?_⟩) hHeld ?_
        · first | (go_simp; done) | (go_simp; rfl)
        try simp only [Act.put, qT, q0, qS]
        refine wpAnyH_take (i := 3) (oi := ⟨some 21, .load 40 (.tmp 20), 40, _, #[⟨2, .data⟩], none⟩) (v := .slice (some ⟨g, 0, none⟩) l.length cap) rfl (by kernel_rfl) (by kernel_rfl) (by kernel_rfl) (fun _ _ _ h => h) (Or.inl ⟨by rfl, fun w' hw' => ?_⟩) hHeld ?_
        · have hcc := (hw'.cell hog1).trans HC1.out; first | (go_simp; done) | (go_simp; rfl)
        try simp only [Act.put, qT, q0, qS]
        refine wpAnyH_take (i := 4) (oi := ⟨some 22, .move (.tmp 7), 3, _, #[], none⟩) (v := .int .i64 (k : Int)) rfl (by kernel_rfl) (by kernel_rfl) (by kernel_rfl) (fun _ _ _ h => h) (Or.inl ⟨by rfl, fun w' hw' => ?_⟩) hHeld ?_
        · first | (go_simp; done) | (go_simp; rfl)
        try simp only [Act.put, qT, q0, qS]
        refine wpAnyH_take (i := 5) (oi := ⟨some 23, .indexAddr 40 (.tmp 21) (.tmp 22), 0, _, #[⟨3, .data⟩, ⟨4, .data⟩], none⟩) (v := .pointer (some ⟨g, k * 67, none⟩)) rfl (by kernel_rfl) (by kernel_rfl) (by kernel_rfl) (fun _ _ _ h => h) (Or.inl ⟨by rfl, fun w' hw' => ?_⟩) hHeld ?_
        · first | (go_simp; done) | (go_simp; rfl)
        try simp only [Act.put, qT, q0, qS]
        refine wpAnyH_take (i := 6) (oi := ⟨some 24, .fieldAddr 68 (.tmp 23) 0, 0, _, #[⟨5, .data⟩], none⟩) (v := .pointer (some ⟨g, k * 67, none⟩)) rfl (by kernel_rfl) (by kernel_rfl) (by kernel_rfl) (fun _ _ _ h => h) (Or.inl ⟨by rfl, fun w' hw' => ?_⟩) hHeld ?_
        · first | (go_simp; done) | (go_simp; rfl)
        try simp only [Act.put, qT, q0, qS]
        refine wpAnyH_take (i := 7) (oi := ⟨some 25, .load 66 (.tmp 24), 66, _, #[⟨6, .data⟩], none⟩) rfl (by kernel_rfl) (by kernel_rfl) (by kernel_rfl) (fun _ _ _ h => h) (yieldsIf_load_mid (by rfl) 66 (.tmp 24) rfl (g) (k * 67) rfl (EL) _ (fun _ h => rangeAt_below HER.out h) HUQ.out rfl HEI.out) hHeld ?_
        try simp only [Act.put, qT, q0, qS]
        refine wpAnyH_take (i := 8) (oi := ⟨some 26, .load 66 (.tmp 4), 66, _, #[], none⟩) rfl (by kernel_rfl) (by kernel_rfl) (by kernel_rfl) (fun _ _ _ h => h) (yieldsIf_load_mid (by rfl) 66 (.tmp 4) rfl (w.heap.size) (0) rfl (QL) _ (fun _ h => rangeAt_below HRQ.out h) HUQ.out rfl HQI.out) hHeld ?_
        try simp only [Act.put, qT, q0, qS]
        refine wpAnyH_ready (rs := [9]) (by kernel_rfl) (by simp) ?_
        refine AllReadyH.cons (o := { dst := some 27, op := .call { callee := Go.Callee.value (.func 27), args := #[.tmp 25, .tmp 26], argTypes := #[66, 66] }, type := 4, pos := _, after := #[⟨7, .data⟩, ⟨8, .data⟩], guard := none }) rfl (fun K hK => ?_) AllReadyH.nil
        rw [if_pos (by rfl)]
        go_wp2_with fail
        refine (qsame_any (.agg EL.toArray) (.agg QL.toArray) e1 q _ (hq_below HEQ.out hHeld) (hq_below HQ1.out hHeld)).mono ?_
        rintro ex W2 ⟨rfl, hb2⟩
        rw [HD.out]
        have hHeld2 : Below w1.heap.size w1 W2 := hHeld.trans (hb2.mono hHeld.size)
        clear hb2
        refine hK.out _ _ hHeld2 (fun _ => ?_)
        clear hK K
        try simp only [Act.put, qT, q0, qS]
        refine wpAnyH_done (by kernel_rfl) ?_ _
        have HBW : Hid (Below w1.heap.size w1 W2) := hHeld2
        clear hHeld hHeld2 hcW
        go_wp2
        go_roundw
        case rel => exact ⟨k + 1, by omega, by go_num, HE2.out, HBW.out⟩
        case measure => simp [intOf]; omega
    · have : k = l.length := by omega
      subst this
      rw [List.drop_length] at hfk
      exact absurd hfk (by simp [fndA])

end Go.Proofs.YtbmmibmfjhehhaaGreat.R5

/- An oracle of ref 5 in memory; rows of one more question. -/
namespace Go.Proofs.YtbmmibmfjhehhaaGreat.R5
open scoped Classical
open Go.RowKit

def oL (ideal : Bool) (m : List UInt8) (dv : Value) (u : Nat) (lv : Value) : List Value := .bool ideal :: (m.map B8 ++ [dv, .int .i64 (u : Int), lv])
theorem oL_0 (i : Bool) (m : List UInt8) (dv : Value) (u : Nat) (lv : Value) : (oL i m dv u lv).toArray[0]? = some (.bool i) := by unfold oL; simp
theorem oL_at (i : Bool) (m : List UInt8) (dv : Value) (u : Nat) (lv : Value) (h : m.length = 32) (j : Nat) : (oL i m dv u lv).toArray[33 + j]? = [dv, .int .i64 (u : Int), lv][j]? := by
  unfold oL
  rw [List.getElem?_toArray, show 33 + j = (32 + j) + 1 by omega, List.getElem?_cons_succ, List.getElem?_append_right (by simp [h])]
  simp [h]
theorem oL_33 (i : Bool) (m : List UInt8) (dv : Value) (u : Nat) (lv : Value) (h : m.length = 32) : (oL i m dv u lv).toArray[33]? = some dv := oL_at i m dv u lv h 0
theorem oL_34 (i : Bool) (m : List UInt8) (dv : Value) (u : Nat) (lv : Value) (h : m.length = 32) : (oL i m dv u lv).toArray[34]? = some (.int .i64 (u : Int)) := oL_at i m dv u lv h 1
theorem oL_35 (i : Bool) (m : List UInt8) (dv : Value) (u : Nat) (lv : Value) (h : m.length = 32) : (oL i m dv u lv).toArray[35]? = some lv := oL_at i m dv u lv h 2
theorem cons_of {α : Type} {l : List α} {n : Nat} (h : l.length = n + 1) : ∃ a t, l = a :: t ∧ t.length = n := by
  cases l with
  | nil => simp at h
  | cons a t => exact ⟨a, t, rfl, by simpa using h⟩
theorem oL_set34 (i : Bool) (m : List UInt8) (dv : Value) (u : Nat) (lv : Value) (h : m.length = 32) (u' : Nat) : (oL i m dv u lv).toArray.setIfInBounds 34 (.int .i64 (u' : Int)) = (oL i m dv u' lv).toArray := by
  unfold oL
  rw [List.setIfInBounds_toArray, show (34 : Nat) = 33 + 1 from rfl, List.set_cons_succ, List.set_append_right _ _ (by simp [h])]
  simp [h]
theorem oL_set35 (i : Bool) (m : List UInt8) (dv : Value) (u : Nat) (lv : Value) (h : m.length = 32) (lv' : Value) : (oL i m dv u lv).toArray.setIfInBounds 35 lv' = (oL i m dv u lv').toArray := by
  unfold oL
  rw [List.setIfInBounds_toArray, show (35 : Nat) = 34 + 1 from rfl, List.set_cons_succ, List.set_append_right _ _ (by simp [h])]
  simp [h]
theorem qL_set34 (q : Qn) (dv dv' : Value) (h : q.key.length = 32) : (qL q dv).toArray.setIfInBounds 34 dv' = (qL q dv').toArray := by
  unfold qL
  rw [List.setIfInBounds_toArray, show (34 : Nat) = 33 + 1 from rfl, List.set_cons_succ, List.set_append_right _ _ (by simp [h])]
  simp [h]

def zAk : List Value := qL ⟨0, List.replicate 32 0, 0, []⟩ (.slice none 0 0) ++ (List.replicate 32 0).map B8
theorem infoAk : (Tryz.prog.info? 68).map (fun i => (i.zero, i.size, i.bytes)) = some (some (.agg zAk.toArray), 67, 104) := by kernel_rfl

set_option maxHeartbeats 4000000 in
set_option maxRecDepth 100000 in
theorem build_asked (w : World) (QL DL : List Value) (h1 : QL.length = 35) (h2 : DL.length = 32) : (Instr.build 68 #[(0, .agg QL.toArray), (1, .agg DL.toArray)]).run Tryz.prog w = .ok (.agg (QL ++ DL).toArray) w := by
  iterate 35 (obtain ⟨_, _, e, g⟩ := cons_of h1; clear h1; subst e; have h1 := g; clear g)
  obtain rfl := List.eq_nil_of_length_eq_zero h1
  iterate 32 (obtain ⟨_, _, e, g⟩ := cons_of h2; clear h2; subst e; have h2 := g; clear g)
  obtain rfl := List.eq_nil_of_length_eq_zero h2
  show _ = _
  kernel_rfl
set_option maxHeartbeats 4000000 in
set_option maxRecDepth 100000 in
theorem fill_asked (AL : List Value) (h : AL.length = 67) : Instr.fill (fun i => some (i * 67, 67)) ((Array.range (1 * 67)).map ((Value.agg zAk.toArray).cells[· % (Value.agg zAk.toArray).cells.size]!)) [(0, .agg AL.toArray)] = some AL.toArray := by
  iterate 67 (obtain ⟨_, _, e, g⟩ := cons_of h; clear h; subst e; have h := g; clear g)
  obtain rfl := List.eq_nil_of_length_eq_zero h
  show _ = _
  kernel_rfl

theorem hb_keep {w w' : World} {v : Value} {l : List UInt8} (h : HB w v l) (hk : ∀ k, v.ownBlock = some k → k < w.heap.size → w'.heap[k]? = w.heap[k]?) : HB w' v l := by
  rcases h with ⟨h1, h2⟩ | ⟨b, o, cap, h1, h2, h3, h4⟩
  · exact .inl ⟨h1, h2⟩
  · refine .inr ⟨b, o, cap, h1, h2, h3, fun i hi => ?_⟩
    have hc := h4 i hi
    have hb := hk b (by rw [h1]; rfl) (block_lt hc)
    exact (World.cell?_of_block (a := ⟨b, o + i, none⟩) hb).trans hc
theorem hds_keep {w w' : World} {v : Value} {ds : List (List UInt8)} (h : HDs w v ds) (hk : ∀ k, v.ownBlock = some k → k < w.heap.size → w'.heap[k]? = w.heap[k]?) : HDs w' v ds := by
  obtain ⟨h0, p, cap, h1, h2⟩ := h
  refine ⟨h0, p, cap, h1, fun i hi => ?_⟩
  obtain ⟨b, o, e, hr⟩ := h2 i hi
  refine ⟨b, o, e, fun j u hu => ?_⟩
  have hc := hr j u hu
  exact (World.cell?_of_block (a := ⟨b, o + i * 32 + j, none⟩) (hk b (by rw [h1, e]; rfl) (block_lt hc))).trans hc
theorem hds_keepN {w w' : World} {v : Value} {ds : List (List UInt8)} (h : HDs w v ds) (hk : ds ≠ [] → ∀ k, v.ownBlock = some k → k < w.heap.size → w'.heap[k]? = w.heap[k]?) : HDs w' v ds := by
  by_cases hd : ds = []
  · subst hd
    obtain ⟨h0, p, cap, h1, _⟩ := h
    exact ⟨h0, p, cap, h1, fun i hi => by simp at hi⟩
  · exact hds_keep h (hk hd)
theorem hlg_keep {B : Nat} {w w' : World} {lv : Value} {l : List (Qn × List UInt8)} {lds : List Value} (h : HLg B w lv l lds) (hk : ∀ k, (lv.ownBlock = some k ∨ ∃ d ∈ lds, d.ownBlock = some k) → k < w.heap.size → w'.heap[k]? = w.heap[k]?) : HLg B w' lv l lds := by
  obtain ⟨h1, h2, h3, h4⟩ := h
  refine ⟨h1, h2, ⟨h3.1, ?_⟩, fun i e d he hd => hb_keep (h4 i e d he hd) (fun k hd' => hk k (.inr ⟨d, List.mem_of_getElem? hd, hd'⟩))⟩
  rcases h3.2 with hn | ⟨g, cap, cur, e1, e2, e3, rest⟩
  · exact .inl hn
  · exact .inr ⟨g, cap, cur, e1, e2, (hk g (.inl (by rw [e1]; rfl)) (row_lt e3)).trans e3, rest⟩

structure Fr (S : Nat → Prop) (w w' : World) : Prop where
  os : w'.os = w.os
  tape : w'.tape = w.tape
  output : w'.output = w.output
  size : w.heap.size ≤ w'.heap.size
  block : ∀ k, k < w.heap.size → ¬ S k → w'.heap[k]? = w.heap[k]?
theorem Fr.refl (S : Nat → Prop) (w : World) : Fr S w w := ⟨rfl, rfl, rfl, Nat.le_refl _, fun _ _ _ => rfl⟩
theorem Fr.trans {S T : Nat → Prop} {a b c : World} (h : Fr S a b) (g : Fr T b c) (hT : ∀ k, T k → S k ∨ a.heap.size ≤ k) : Fr S a c :=
  ⟨g.os.trans h.os, g.tape.trans h.tape, g.output.trans h.output, Nat.le_trans h.size g.size, fun k hk hs => (g.block k (Nat.lt_of_lt_of_le hk h.size) (fun ht => (hT k ht).elim hs (fun h2 => by omega))).trans (h.block k hk hs)⟩
theorem Fr.ofBelow {S : Nat → Prop} {w w' : World} (h : Below w.heap.size w w') : Fr S w w' := ⟨h.os, h.tape, h.output, h.size, fun k hk _ => h.block k hk⟩
theorem Fr.then {S : Nat → Prop} {a b c : World} (h : Fr S a b) (g : Below b.heap.size b c) : Fr S a c := h.trans (T := fun _ => False) (Fr.ofBelow g) (fun _ hf => hf.elim)
theorem Fr.setCell {S : Nat → Prop} {a b : World} (h : Fr S a b) (g o : Nat) (v : Value) (hg : S g ∨ a.heap.size ≤ g) : Fr S a (b.setCell ⟨g, o, none⟩ v) := by
  have hb : Below g b (b.setCell ⟨g, o, none⟩ v) := (Below.refl _ _).setCell (p := ⟨g, o, none⟩) (by simp) _
  refine ⟨hb.os.trans h.os, hb.tape.trans h.tape, hb.output.trans h.output, Nat.le_trans h.size hb.size, fun k hk hs => ?_⟩
  have hne : k ≠ g := fun e => hg.elim (fun hh => hs (e ▸ hh)) (fun hh => by omega)
  exact (heap_setCell_other _ _ _ _ (by simpa using hne)).trans (h.block k hk hs)
theorem Fr.setRow {S : Nat → Prop} {a b : World} (h : Fr S a b) (g : Nat) (N : Array Value) (hg : S g ∨ a.heap.size ≤ g) : Fr S a (b.setRow g N) := by
  have hb : Below g b (b.setRow g N) := below_setRow (Below.refl _ _) (Nat.le_refl _) _
  refine ⟨hb.os.trans h.os, hb.tape.trans h.tape, hb.output.trans h.output, Nat.le_trans h.size hb.size, fun k hk hs => ?_⟩
  have hne : k ≠ g := fun e => hg.elim (fun hh => hs (e ▸ hh)) (fun hh => by omega)
  exact (setRow_other _ _ _ _ hne).trans (h.block k hk hs)
theorem Fr.grown {S : Nat → Prop} {a b c : World} {row : Option Nat} (h : Fr S a b) (g : b.grownBy c row) (hr : ∀ k, row = some k → S k ∨ a.heap.size ≤ k) : Fr S a c :=
  ⟨g.os.trans h.os, g.tape.trans h.tape, g.output.trans h.output, Nat.le_trans h.size g.size, fun k hk hs => (g.block k (Nat.lt_of_lt_of_le hk h.size) (fun e => (hr k e.symm).elim hs (fun h2 => by omega))).trans (h.block k hk hs)⟩

structure Ora where
  ideal : Bool
  master : List UInt8
  draws : List (List UInt8)
  used : Nat
  log : List (Qn × List UInt8)
structure OR (B og : Nat) (S : Nat → Prop) (w : World) (o : Ora) (dv lv : Value) (lds : List Value) (t : TypeId) : Prop where
  ml : o.master.length = 32
  row : w.heap[og]? = some (.cells (oL o.ideal o.master dv o.used lv).toArray t (0, 0))
  draws : HDs w dv o.draws
  dlow : o.draws ≠ [] → ∀ k, dv.ownBlock = some k → k < B
  log : HLg B w lv o.log lds
  sog : S og
  slog : ∀ k, lv.ownBlock = some k → S k ∧ k ≠ og
  sdat : ∀ d ∈ lds, ∀ k, d.ownBlock = some k → S k ∧ k ≠ og ∧ k < w.heap.size ∧ lv.ownBlock ≠ some k
  low : ∀ k, S k → B ≤ k
  top : ∀ k, S k → k < w.heap.size
theorem OR.keep {B og : Nat} {S : Nat → Prop} {w w' : World} {o : Ora} {dv lv : Value} {lds : List Value} {t : TypeId} (h : OR B og S w o dv lv lds t) (hs : w.heap.size ≤ w'.heap.size) (hk : ∀ k, k < w.heap.size → (S k ∨ k < B) → w'.heap[k]? = w.heap[k]?) : OR B og S w' o dv lv lds t :=
  ⟨h.ml, (hk og (row_lt h.row) (.inl h.sog)).trans h.row, hds_keepN h.draws (fun hne k e hl => hk k hl (.inr (h.dlow hne k e))), h.dlow,
    hlg_keep h.log (fun k e hl => hk k hl (.inl (e.elim (fun e => (h.slog k e).1) (fun ⟨d, hd, e⟩ => (h.sdat d hd k e).1)))), h.sog, h.slog,
    fun d hd k e => ⟨(h.sdat d hd k e).1, (h.sdat d hd k e).2.1, Nat.lt_of_lt_of_le (h.sdat d hd k e).2.2.1 hs, (h.sdat d hd k e).2.2.2⟩, h.low, fun k hk => Nat.lt_of_lt_of_le (h.top k hk) hs⟩
theorem OR.more {B og : Nat} {S S' : Nat → Prop} {w : World} {o : Ora} {dv lv : Value} {lds : List Value} {t : TypeId} (h : OR B og S w o dv lv lds t) (hs : ∀ k, S k → S' k) (hl : ∀ k, S' k → B ≤ k ∧ k < w.heap.size) : OR B og S' w o dv lv lds t :=
  ⟨h.ml, h.row, h.draws, h.dlow, h.log, hs _ h.sog, fun k e => ⟨hs _ (h.slog k e).1, (h.slog k e).2⟩, fun d hd k e => ⟨hs _ (h.sdat d hd k e).1, (h.sdat d hd k e).2⟩, fun k hk => (hl k hk).1, fun k hk => (hl k hk).2⟩

end Go.Proofs.YtbmmibmfjhehhaaGreat.R5

/- One more question in an oracle's log: memory. -/
namespace Go.Proofs.YtbmmibmfjhehhaaGreat.R5
open scoped Classical
open Go.RowKit

structure S11 (w : World) (og b8 H8 : Nat) (QN DL : List Value) (ZA : Array Value) (L : Nat → Prop) (v1 : Value) (dd : List UInt8) (X : World) : Prop where
  fr : Fr (fun k => k = og ∨ L k) w X
  q : X.heap[w.heap.size]? = some (.cells QN.toArray 66 (0, 0))
  d : X.heap[b8]? = some (.cells DL.toArray 23 (0, 0))
  z : X.heap[w.heap.size + 1 + 1]? = some (.cells ZA 23 (0, 0))
  dat : HB X v1 dd
  vb : ∀ k, v1.ownBlock = some k → H8 ≤ k ∧ k < X.heap.size
theorem S11.step {w : World} {og b8 H8 : Nat} {QN DL : List Value} {ZA : Array Value} {L : Nat → Prop} {v1 : Value} {dd : List UInt8} {X Y : World} (h : S11 w og b8 H8 QN DL ZA L v1 dd X) (hF : Fr (fun k => k = og ∨ L k) X Y) (hlow : ∀ k, (k = og ∨ L k) → k < w.heap.size) (h8 : w.heap.size ≤ b8) (hH : w.heap.size ≤ H8) : S11 w og b8 H8 QN DL ZA L v1 dd Y := by
  have hk : ∀ k, w.heap.size ≤ k → k < X.heap.size → Y.heap[k]? = X.heap[k]? := fun k h1 h2 => hF.block k h2 (fun h3 => by have := hlow k h3; omega)
  exact ⟨h.fr.trans hF (fun k hk => .inl hk), (hk _ (Nat.le_refl _) (row_lt h.q)).trans h.q, (hk _ h8 (row_lt h.d)).trans h.d, (hk _ (by omega) (row_lt h.z)).trans h.z,
    hb_keep h.dat (fun k e hl => hk k (Nat.le_trans hH (h.vb k e).1) hl), fun k e => ⟨(h.vb k e).1, Nat.lt_of_lt_of_le (h.vb k e).2 hF.size⟩⟩

theorem S11.drew {w : World} {og b8 H8 : Nat} {QN DL : List Value} {ZA : Array Value} {L : Nat → Prop} {v1 : Value} {dd : List UInt8} {X : World} (h : S11 w og b8 H8 QN DL ZA L v1 dd X) : S11 w og b8 H8 QN DL ZA L v1 dd X.drew :=
  ⟨⟨h.fr.os, h.fr.tape, h.fr.output, h.fr.size, h.fr.block⟩, h.q, h.d, h.z, hb_drew h.dat, h.vb⟩
theorem qL_one (q : Qn) (dv : Value) (h : dv.oneCell' = true) : ∀ u ∈ qL q dv, u.oneCell' = true := by
  intro u hu
  unfold qL at hu
  rcases List.mem_cons.1 hu with rfl | hu
  · rfl
  · rcases List.mem_append.1 hu with hu | hu
    · exact B8_one _ u hu
    · rcases List.mem_cons.1 hu with rfl | hu
      · rfl
      · obtain rfl := List.mem_singleton.1 hu
        exact h

theorem add_none (b o j : Nat) : (⟨b, o, none⟩ : Addr).add j = ⟨b, o + j, none⟩ := by
  unfold Addr.add
  split <;> simp_all
theorem exec_build (ev : Operand → Value) (o : Oper) (t : TypeId) (parts : Array (Nat × Operand)) (vals : Array (Nat × Value)) (v : Value) (w : World) (ho : o.op = .build t parts) (hp : (parts.map fun (i, x) => (i, ev x)) = vals) (h : (Instr.build t vals).run Tryz.prog w = .ok v w) :
    (execOp ev o).run Tryz.prog w = .ok (.value v) w := by
  unfold execOp
  simp only [ho, Sem.run_bind, hp, h, Result.andThen_ok]
  rfl

theorem own_keep {B : Nat} {e : TypeId} {s : Nat} {v : Value} {n : Nat} {xs : List Value} {w w' : World} (h : w.ownsRow B e s v n xs) (hk : ∀ k, v.ownBlock = some k → k < w.heap.size → w'.heap[k]? = w.heap[k]?) : w'.ownsRow B e s v n xs := by
  refine ⟨h.1, ?_⟩
  rcases h.2 with hn | ⟨g, cap, cur, e1, e2, e3, rest⟩
  · exact .inl hn
  · exact .inr ⟨g, cap, cur, e1, e2, (hk g (by rw [e1]; rfl) (row_lt e3)).trans e3, rest⟩

theorem or_more {B og : Nat} {S : Nat → Prop} {w Z : World} {o : Ora} {dv lv : Value} {lds : List Value} {t : TypeId} {q : Qn} {D : List UInt8} {v1 : Value} {g cap2 H : Nat}
    (ho : OR B og S w o dv lv lds t) (hB : B ≤ w.heap.size) (hqk : q.key.length = 32) (hD : D.length = 32) (hfr : Fr (fun k => k = og ∨ lv.ownBlock = some k) w Z)
    (hrow : Z.heap[og]? = some (.cells (oL o.ideal o.master dv (o.used + 1) (.slice (some ⟨g, 0, none⟩) (o.log.length + 1) cap2)).toArray t (0, 0)))
    (hown : Z.ownsRow B 68 67 (.slice (some ⟨g, 0, none⟩) (o.log.length + 1) cap2) (o.log.length + 1) (lC o.log lds ++ aL (q, D) v1))
    (hg : lv.ownBlock = some g ∨ g = H) (hH : w.heap.size ≤ H) (hgZ : g < Z.heap.size) (hdat : HB Z v1 q.data) (hv : ∀ k, v1.ownBlock = some k → w.heap.size ≤ k ∧ k < H ∧ k < Z.heap.size) :
    Fr S w Z ∧ OR B og (fun k => S k ∨ (w.heap.size ≤ k ∧ k < Z.heap.size)) Z { o with used := o.used + 1, log := o.log ++ [(q, D)] } dv (.slice (some ⟨g, 0, none⟩) (o.log.length + 1) cap2) (lds ++ [v1]) t := by
  have hog := row_lt ho.row
  have hlw : ∀ k, lv.ownBlock = some k → k < w.heap.size := fun k e => (ho.log.2.2.1.lt k e).2
  have hS : Fr S w Z := ⟨hfr.os, hfr.tape, hfr.output, hfr.size, fun k hk hs => hfr.block k hk (fun h => h.elim (fun e => hs (e ▸ ho.sog)) (fun e => hs (ho.slog k e).1))⟩
  refine ⟨hS, ho.ml, hrow, hds_keepN ho.draws (fun hne k e hl => hS.block k hl (fun hs => by have := ho.low k hs; have := ho.dlow hne k e; omega)), ho.dlow, ⟨?_, ?_, ?_, ?_⟩, .inl ho.sog, ?_, ?_, ?_, fun k hk => hk.elim (fun h => Nat.lt_of_lt_of_le (ho.top k h) hfr.size) (fun h => h.2)⟩
  · intro e he
    rcases List.mem_append.1 he with he | he
    · exact ho.log.1 e he
    · obtain rfl := List.mem_singleton.1 he
      exact ⟨hqk, hD⟩
  · simp [ho.log.2.1]
  · show Z.ownsRow B _ 67 _ (o.log ++ [(q, D)]).length (lC (o.log ++ [(q, D)]) (lds ++ [v1]))
    rw [lC_snoc _ _ _ _ ho.log.2.1, List.length_append]
    exact hown
  · intro i e d he hd
    by_cases hi : i < o.log.length
    · rw [List.getElem?_append_left hi] at he
      rw [List.getElem?_append_left (by rw [ho.log.2.1]; exact hi)] at hd
      refine hb_keep (ho.log.2.2.2 i e d he hd) (fun k ek hl => hfr.block k hl (fun h => ?_))
      have hs := ho.sdat d (List.mem_of_getElem? hd) k ek
      rcases h with h | h
      · exact hs.2.1 h
      · exact hs.2.2.2 h
    · rw [List.getElem?_append_right (by omega)] at he
      rw [List.getElem?_append_right (by rw [ho.log.2.1]; omega)] at hd
      have he' := List.mem_singleton.1 (List.mem_of_getElem? he)
      have hd' := List.mem_singleton.1 (List.mem_of_getElem? hd)
      subst he' hd'
      exact hdat
  · intro k e
    have ek : g = k := by simpa [Value.ownBlock] using e
    subst ek
    rcases hg with hg | hg
    · exact ⟨.inl (ho.slog g hg).1, (ho.slog g hg).2⟩
    · exact ⟨.inr ⟨by omega, hgZ⟩, by omega⟩
  · intro d hd k e
    rcases List.mem_append.1 hd with hd | hd
    · have hs := ho.sdat d hd k e
      refine ⟨.inl hs.1, hs.2.1, Nat.lt_of_lt_of_le hs.2.2.1 hfr.size, fun ek => ?_⟩
      have ek : g = k := by simpa [Value.ownBlock] using ek
      subst ek
      rcases hg with hg | hg
      · exact hs.2.2.2 hg
      · have := hs.2.2.1; omega
    · obtain rfl := List.mem_singleton.1 hd
      have hs := hv k e
      refine ⟨.inr ⟨hs.1, hs.2.2⟩, by omega, hs.2.2, fun ek => ?_⟩
      have ek : g = k := by simpa [Value.ownBlock] using ek
      subst ek
      rcases hg with hg | hg
      · have := hlw g hg; omega
      · omega
  · intro k hk
    rcases hk with hk | hk
    · exact ho.low k hk
    · omega

end Go.Proofs.YtbmmibmfjhehhaaGreat.R5
