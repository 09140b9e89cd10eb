/- Contract of ref 5's Stream, in ideal mode. -/
import Derived.Test.YtbmmibmfjhehhaaGreatK9
set_option linter.unusedVariables false
set_option linter.unusedSimpArgs false
namespace Go.Proofs.YtbmmibmfjhehhaaGreat.R5
open scoped Classical
open Go.RowKit

theorem askO_ideal (o : Ora) (q : Qn) : (askO o q).2.ideal = o.ideal := by
  cases h : fndA q o.log with
  | some A => rw [askO_some h]
  | none => rw [askO_none h]
theorem askO_log (o : Ora) (q : Qn) : (askO o q).2.log.length ≤ o.log.length + 1 := by
  cases h : fndA q o.log with
  | some A => rw [askO_some h]; exact Nat.le_succ _
  | none => rw [askO_none h]; simp
theorem askO_used (o : Ora) (q : Qn) : (askO o q).2.used ≤ o.used + 1 := by
  cases h : fndA q o.log with
  | some A => rw [askO_some h]; exact Nat.le_succ _
  | none => rw [askO_none h]; exact Nat.le_refl _
def sQ (q : Qn) (k : Nat) : Qn := { q with data := q.data ++ W1.le 8 k }
def strO (q : Qn) (o : Ora) : Nat → List UInt8 × Ora
  | 0 => ([], o)
  | k + 1 => ((strO q o k).1 ++ (askO (strO q o k).2 (sQ q k)).1, (askO (strO q o k).2 (sQ q k)).2)
theorem strO_ideal (q : Qn) (o : Ora) : ∀ k, (strO q o k).2.ideal = o.ideal
  | 0 => rfl
  | k + 1 => (askO_ideal _ _).trans (strO_ideal q o k)
theorem strO_log (q : Qn) (o : Ora) : ∀ k, (strO q o k).2.log.length ≤ o.log.length + k
  | 0 => Nat.le_refl _
  | k + 1 => by have := strO_log q o k; have h2 := askO_log (strO q o k).2 (sQ q k); show (askO (strO q o k).2 (sQ q k)).2.log.length ≤ _; omega
theorem strO_used (q : Qn) (o : Ora) : ∀ k, (strO q o k).2.used ≤ o.used + k
  | 0 => Nat.le_refl _
  | k + 1 => by have := strO_used q o k; have h2 := askO_used (strO q o k).2 (sQ q k); show (askO (strO q o k).2 (sQ q k)).2.used ≤ _; omega
structure StI (B og : Nat) (S : Nat → Prop) (w : World) (o : Ora) (q : Qn) (dv : Value) (t : TypeId) (QL : List Value) (k : Nat) (v : Value) (wr : World) (Sk : Nat → Prop) (lv : Value) (lds : List Value) : Prop where
  ora : OR B og Sk wr (strO q o k).2 dv lv lds t
  sub : ∀ j, Sk j → S j ∨ w.heap.size ≤ j
  out : FB w.heap.size wr v (strO q o k).1
  len : (strO q o k).1.length = 32 * k
  ob : ∀ j, v.ownBlock = some j → ¬ Sk j ∧ j ≠ w.heap.size
  qb : ¬ Sk w.heap.size
  row : wr.heap[w.heap.size]? = some (.cells QL.toArray 66 (0, 0))
  fr : Fr S w wr

end Go.Proofs.YtbmmibmfjhehhaaGreat.R5

namespace Go.Proofs.YtbmmibmfjhehhaaGreat.R5
open scoped Classical
open Go.RowKit

theorem zero_qn (w : World) : (zeroValue 66).run Tryz.prog w = .ok (.agg (qL ⟨0, List.replicate 32 0, 0, []⟩ (.slice none 0 0)).toArray) w := by kernel_rfl
theorem info35a (RS : Array Value) (h : RS.size = 35) : (Tryz.prog.info? 66).map (·.size) = some RS.size := by rw [h]; kernel_rfl
theorem all_of {l : List Value} (h : ∀ u ∈ l, u.oneCell' = true) : l.toArray.all (·.oneCell') = true := by
  rw [Array.all_eq_true_iff_forall_mem]; intro x hx; exact h x (by simpa using hx)
theorem hb_one {w : World} {v : Value} {l : List UInt8} (h : HB w v l) : v.oneCell' = true := by
  obtain ⟨p, c, rfl, _⟩ := hb_cells h
  rfl
theorem str_row {wr wa w28 w31 w32 : World} {q : Qn} {dq v28 v32 : Value} {d e : List UInt8} {k : Nat} (hqk : q.key.length = 32) (hba : Below wr.heap.size wr wa) (hR : wa.heap[wr.heap.size]? = some (.cells (qL q dq).toArray 66 (0, 0))) (hsa : wa.heap.size = wr.heap.size + 1)
    (hg28 : wa.grownBy w28 none) (h28 : FB (wr.heap.size + 1) w28 v28 d) (hb31 : Below w28.heap.size w28 w31) (hg32 : w31.grownBy w32 v28.ownBlock) (h32 : FB (wr.heap.size + 1) w32 v32 e) :
    w32.cell? ⟨wr.heap.size, 34, none⟩ = some dq ∧ w32.frozen? ⟨wr.heap.size, 34, none⟩ = false ∧ (w32.setCell ⟨wr.heap.size, 34, none⟩ v32).heap[wr.heap.size]? = some (.cells (qL (sQ q k) v32).toArray 66 (0, 0))
      ∧ Fr (fun _ => False) wr (w32.setCell ⟨wr.heap.size, 34, none⟩ v32) ∧ HB (w32.setCell ⟨wr.heap.size, 34, none⟩ v32) v32 e := by
  have s1 := hg28.size
  have s2 := hb31.size
  have h28b := fun j hj => (World.ownsRow.lt h28 j hj).1
  have r32 : w32.heap[wr.heap.size]? = some (.cells (qL q dq).toArray 66 (0, 0)) :=
    (hg32.block _ (by omega) (fun h => by have := h28b _ h.symm; omega)).trans ((hb31.block _ (by omega)).trans ((hg28.block _ (by omega) (by simp)).trans hR))
  refine ⟨?_, frozen_of_row _ _ 34 _ _ r32, ?_, ?_, ?_⟩
  · rw [cell_of_row _ _ 34 _ _ _ r32]; exact qL_34 q dq hqk
  · rw [heap_setCell_same _ _ 34 _ _ _ r32, qL_set34 q dq v32 hqk]; rfl
  · exact (((((Fr.ofBelow hba).grown hg28 (fun k h => by simp at h)).then hb31).grown hg32 (fun j h => .inr (by have := h28b j h; omega))).setCell _ _ _ (.inr (Nat.le_refl _)))
  · exact hb_keep h32.hb (fun j h hl => heap_setCell_other _ _ _ _ (by have := (World.ownsRow.lt h32 j h).1; show j ≠ wr.heap.size; omega))

theorem hb_take {w : World} {p : Option Addr} {c cap : Nat} {l : List UInt8} (h : HB w (.slice p c cap) l) (n : Nat) (hn : n ≤ l.length) : HB w (.slice p n cap) (l.take n) := by
  rcases h with ⟨h1, p', cap', h2, h3⟩ | ⟨b, o, cap', h1, h2, h3, h4⟩
  · subst h1
    have : n = 0 := by simpa using hn
    subst this
    injection h2 with e1 e2 e3
    subst e1 e3
    exact .inl ⟨rfl, _, _, rfl, h3⟩
  · injection h1 with e1 e2 e3
    subst e1 e3
    have hl : (l.take n).length = n := by rw [List.length_take]; omega
    refine .inr ⟨b, o, cap, by rw [hl], by rw [hl]; omega, h3, fun i hi => ?_⟩
    rw [hl] at hi
    rw [h4 i (by omega)]
    simp [List.getD, List.getElem?_take, hi]

def StrEnd (B og : Nat) (S : Nat → Prop) (w : World) (o : Ora) (dv : Value) (t : TypeId) (q : Qn) (n : Nat) (e : Ending) (w' : World) : Prop :=
  ∃ v m, e = .returned v ∧ n ≤ 32 * m ∧ 32 * m < n + 32 ∧ HB w' v ((strO q o m).1.take n) ∧ (strO q o m).1.length = 32 * m ∧ Fr S w w' ∧ ∃ lv' lds', OR B og (fun k => S k ∨ (w.heap.size ≤ k ∧ k < w'.heap.size)) w' (strO q o m).2 dv lv' lds' t

set_option maxHeartbeats 8000000 in
set_option maxRecDepth 100000 in
theorem stream_any (B og : Nat) (S : Nat → Prop) (dq dv lv : Value) (o : Ora) (lds : List Value) (t : TypeId) (q : Qn) (n : Nat) (w : World) (hid : o.ideal = true) (hll : o.log.length < 900000) (hu : o.used < 900000) (hql : q.data.length ≤ 1000000) (hn : n ≤ 1024) (hB : B ≤ w.heap.size)
    (ho : OR B og S w o dv lv lds t) (hqk : q.key.length = 32) (hdq : HB w dq q.data) (hqo : q.data ≠ [] → ∀ j, dq.ownBlock = some j → j < w.heap.size ∧ ¬ S j) :
    Calls Tryz.prog 24 #[.pointer (some ⟨og, 0, none⟩), .agg (qL q dq).toArray, .int .i64 (n : Int)] w fun e w' => StrEnd B og S w o dv t q n e w' := by
  have hQi := info35 (qL q dq) (qL_len q dq hqk)
  have hog := row_lt ho.row
  have hzq := fun W => zero_qn W
  have hzv := fun W => zero_dig W
  have hsl := fun W b => sliceDig W b 0
  have HQ1 : Hid _ := all_of (qL_one q dq (hb_one hdq))
  have HQS : Hid ((qL q dq).toArray.size = 35) := by show _ = _; simp [qL_len q dq hqk]
  obtain ⟨ZQ, hZQ⟩ : ∃ A, A = (qL ⟨0, List.replicate 32 0, 0, []⟩ (.slice none 0 0)).toArray := ⟨_, rfl⟩
  rw [← hZQ] at hzq
  have HZQ : Hid (ZQ.size = 35) := by show _ = _; rw [hZQ]; rfl
  obtain ⟨ZA, hZA⟩ : ∃ A, A = ((List.replicate 32 (0 : UInt8)).map B8).toArray := ⟨_, rfl⟩
  rw [← hZA] at hzv
  have HZS : Hid (ZA.size = 32) := by show _ = _; rw [hZA]; simp
  obtain ⟨QL, hQL⟩ : ∃ L, L = qL q dq := ⟨_, rfl⟩
  rw [← hQL] at hQi HQ1 HQS ⊢
  have hb1 : Below w.heap.size w (w.alloc (.cells QL.toArray 66 (0, 0))) := (Below.refl _ _).alloc (Nat.le_refl _) _
  have hr1 := (hb1.block _ hog).trans ho.row
  have hc1 : (w.alloc (.cells QL.toArray 66 (0, 0))).cell? ⟨og, 0, none⟩ = some (.bool true) := by rw [cell_of_row _ _ 0 _ _ _ hr1, ← hid]; exact oL_0 _ _ _ _ _
  have HST : Hid (StI B og S w o q dv t QL 0 (.slice none 0 0) (w.alloc (.cells QL.toArray 66 (0, 0))) S lv lds) :=
    ⟨ho.keep hb1.size (fun k hk _ => hb1.block k hk), fun j h => .inl h, World.ownsRow_nil _ _ _ _, rfl, fun j h => by simp [Value.ownBlock] at h, fun h => by have := ho.top _ h; omega, heap_at _ _ _ rfl, Fr.ofBelow hb1⟩
  have HQI : Hid _ := hQi
  have HOR : Hid _ := ho
  have HQL : Hid _ := hQL
  have HDq : Hid _ := hdq
  have HQO : Hid _ := hqo
  have HUQ : Hid _ := Tryz.underlying66
  have HZA : Hid _ := hZA
  clear hQi hQL hb1 hr1 ho hdq hqo hZA hZQ
  go_enter Tryz.func24, Tryz.ntmps24
  go_wp2
  go_loopw [7, 8] (fun v i wr => ∃ (k : Nat) (Sk : Nat → Prop) (lv' : Value) (lds' : List Value), 32 * k < n + 32 ∧ i = .int .i64 k ∧ StI B og S w o q dv t QL k v wr Sk lv' lds') (fun _ i _ => n - 32 * (intOf i).toNat)
  case atStart => exact ⟨0, S, lv, lds, by omega, rfl, HST.out⟩
  case round =>
    obtain ⟨k, Sk, lv1, lds1, hk, rfl, hI⟩ := hrel
    obtain ⟨c, hc⟩ : ∃ c, c = 32 * k := ⟨_, rfl⟩
    obtain ⟨p7, c7, hv7, _, _⟩ := hb_cells hI.out.hb
    rw [hI.len, ← hc] at hv7
    subst hv7
    have HI : Hid _ := hI
    have HC : Hid _ := hc
    have hk33 : k ≤ 33 := by omega
    have hc33 : c ≤ 1056 := by omega
    clear hI hc
    by_cases hlt : c < n
    · have hltI : (c : Int) < (n : Int) := by omega
      have hsw : w.heap.size < wr.heap.size := row_lt HI.out.row
      have HX0 : Hid (wr.rangeAt w.heap.size 0 QL) := rangeAt_row HI.out.row
      have HX8 : Hid ((wr.alloc (.cells ZQ 66 (0, 0))).heap[wr.heap.size]? = some (.cells ZQ 66 (0, 0))) := heap_at _ _ _ rfl
      have hba : Below wr.heap.size wr ((wr.alloc (.cells ZQ 66 (0, 0))).setRow wr.heap.size QL.toArray) := below_setRow ((Below.refl _ _).alloc (Nat.le_refl _) _) (Nat.le_refl _) _
      have hda : ((wr.alloc (.cells ZQ 66 (0, 0))).setRow wr.heap.size QL.toArray).cell? ⟨w.heap.size, 34, none⟩ = some dq := by
        rw [cell_of_row _ _ 34 _ _ _ ((hba.block _ hsw).trans HI.out.row), HQL.out]; exact qL_34 q dq hqk
      have HRa : Hid (((wr.alloc (.cells ZQ 66 (0, 0))).setRow wr.heap.size QL.toArray).heap[wr.heap.size]? = some (.cells QL.toArray 66 (0, 0))) := setRow_heap _ _ _ _ _ _ HX8.out
      have HDa : Hid (HB ((wr.alloc (.cells ZQ 66 (0, 0))).setRow wr.heap.size QL.toArray) dq q.data) := HB.below (hb_keepN HDq.out (fun hne j e hl => HI.out.fr.block j hl (HQO.out hne j e).2)) hba
      have hsa : ((wr.alloc (.cells ZQ 66 (0, 0))).setRow wr.heap.size QL.toArray).heap.size = wr.heap.size + 1 := by simp
      have HSA : Hid _ := hsa
      have HBa : Hid _ := hba
      clear hba hsa
      go_wp2_with (first
        | (refine wpList_load_mid rfl 66 _ rfl w.heap.size 0 rfl QL _ HX0.out HUQ.out rfl HQI.out ?_)
        | (refine wpList_store_row rfl 66 _ _ rfl wr.heap.size QL.toArray rfl rfl 66 ZQ HX8.out (info35a _ HQS.out) (HZQ.out.trans HQS.out.symm) HQ1.out ?_)
        | (at_builtin; refine wpList_appHB rfl (.const (.slice none 0 0)) (.tmp 27) rfl (wr.heap.size + 1) (.slice none 0 0) dq [] q.data rfl rfl (World.ownsRow_nil _ _ _ _) HDa.out (by simp; omega) (Nat.le_of_eq HSA.out.symm) ?_; intro v28 w28 hf28 hg28; rw [List.nil_append] at hf28; obtain ⟨p28, c28, hv28, _, _⟩ := hb_cells hf28.hb; subst hv28))
      refine (le_any k w28 (by omega)).mono ?_
      rintro ex w31 ⟨v31, rfl, hf31, hb31⟩
      obtain ⟨p31, c31, hv31, _, _⟩ := hb_cells hf31.hb
      subst hv31
      have hF28 := fb_below hf28 hb31
      have hL8 := W1.le_length 8 k
      rw [hL8]
      have HL8 : Hid _ := hL8
      have HF28 : Hid _ := hF28
      have HF28' : Hid _ := hf28
      have HH31 : Hid _ := hf31.hb
      have HB31 : Hid _ := hb31
      have HG28 : Hid _ := hg28
      rw [hL8] at HH31
      have hs31 : wr.heap.size + 1 ≤ w31.heap.size := by have := hg28.size; rw [HSA.out] at this; have h2 := hb31.size; omega
      have HRq : Hid (((wr.alloc (.cells ZQ 66 (0, 0))).setRow wr.heap.size QL.toArray).heap[wr.heap.size]? = some (.cells (qL q dq).toArray 66 (0, 0))) := HRa.out.trans (by rw [HQL.out])
      clear hF28 hf28 hf31 hb31 hg28 hL8
      go_wp2_with (first
        | (refine wpList_load_mid rfl 66 _ rfl wr.heap.size 0 rfl _ _ HR33.out HUQ.out rfl HQ33.out ?_)
        | (at_builtin; refine wpList_appHB rfl (.tmp 28) (.tmp 31) rfl (wr.heap.size + 1) (.slice p28 q.data.length c28) (.slice p31 8 c31) q.data (W1.le 8 k) rfl rfl HF28.out HH31.out (by rw [HL8.out]; omega) hs31 ?_; intro v32 w32 hf32 hg32; obtain ⟨p32, c32, hv32, _, _⟩ := hb_cells hf32.hb; obtain ⟨m32, hm32⟩ : ∃ m, m = (q.data ++ W1.le 8 k).length := ⟨_, rfl⟩; rw [← hm32] at hv32; subst hv32; clear hm32; obtain ⟨hc32, f32, hR33, hF33, hD33⟩ := str_row (k := k) hqk HBa.out HRq.out HSA.out HG28.out HF28'.out HB31.out hg32 hf32; have HR33 : Hid _ := rangeAt_row hR33; have HQ33 : Hid _ := info35 (qL (sQ q k) (.slice p32 m32 c32)) (qL_len _ _ hqk); have HF33 : Hid _ := hF33; have HD33 : Hid _ := hD33; have HF32 : Hid _ := hf32; clear hR33 hF33 hD33 hf32 hg32))
      have hFr := HF33.out
      have hs33 := hFr.size
      have hor33 := HI.out.ora.keep hFr.size (fun k hk _ => hFr.block k hk (fun h => h))
      have hcl := answer_any B og Sk (.slice p32 m32 c32) dv lv1 (strO q o k).2 lds1 t (sQ q k) (List.replicate 32 0) _ (by simp) ((strO_ideal q o k).trans hid) (by have := strO_log q o k; omega) (by have := strO_used q o k; omega) (by show (q.data ++ W1.le 8 k).length ≤ _; rw [List.length_append, HL8.out]; omega) (by omega) hor33 hqk HD33.out (fun _ e => by have h1 := (World.ownsRow.lt HF32.out og e).1; have h2 := row_lt HI.out.ora.row; omega)
      rw [← HZA.out] at hcl
      refine hcl.mono ?_
      clear hcl
      rintro ex w37 ⟨rfl, hfr37, lv2, lds2, hor37⟩
      have hAl := askO_len (q := sQ q k) HI.out.ora.log.1 HI.out.ora.draws.1
      obtain ⟨AL, hAL⟩ : ∃ L, L = (askO (strO q o k).2 (sQ q k)).1.map B8 := ⟨_, rfl⟩
      rw [← hAL]
      have hAn : AL.length = 32 := by rw [hAL, List.length_map]; exact hAl
      have HAS : Hid (AL.toArray.size = 32) := by show _ = _; simpa using hAn
      have HA1 : Hid (∀ u ∈ AL, u.oneCell' = true) := by rw [hAL]; exact B8_one _
      have HAA : Hid _ := all_of HA1.out
      have HAN : Hid _ := hAn
      have HX10 : Hid ((w37.alloc (.cells ZA 23 (0, 0))).heap[w37.heap.size]? = some (.cells ZA 23 (0, 0))) := heap_at _ _ _ rfl
      have hb38 : Below w37.heap.size w37 ((w37.alloc (.cells ZA 23 (0, 0))).setRow w37.heap.size AL.toArray) := below_setRow ((Below.refl _ _).alloc (Nat.le_refl _) _) (Nat.le_refl _) _
      have hs38 : ((w37.alloc (.cells ZA 23 (0, 0))).setRow w37.heap.size AL.toArray).heap.size = w37.heap.size + 1 := by simp
      have hs37 := hfr37.size
      have hvb := fun j e => World.ownsRow.lt HI.out.out j e
      have HOUT : Hid (((w37.alloc (.cells ZA 23 (0, 0))).setRow w37.heap.size AL.toArray).ownsRow w.heap.size 5 1 (.slice p7 c c7) c ((strO q o k).1.map B8)) := by
        have h0 := HI.out.out
        unfold FB at h0
        rw [HI.out.len, ← HC.out] at h0
        refine own_keep h0 (fun j e hl => (hb38.block _ (by omega)).trans ((hfr37.block _ (by omega) (HI.out.ob j e).1).trans (hFr.block j hl (fun h => h))))
      have HNEW : Hid (∀ j u, AL[j]? = some u → ((w37.alloc (.cells ZA 23 (0, 0))).setRow w37.heap.size AL.toArray).cell? ((⟨w37.heap.size, 0, none⟩ : Addr).add j) = some u) := fun j u hu => by
        rw [add_none]; exact rangeAt_row (setRow_heap _ _ _ _ _ _ HX10.out) j u hu
      obtain ⟨i0, hi, hz0, hz1, hz2⟩ := info_parts Tryz.infoU8
      have HI0 : Hid _ := hi
      have HI1 : Hid _ := hz0
      have HI2 : Hid _ := hz1
      have HI3 : Hid _ := hz2
      have HFR : Hid _ := hFr
      have HF37 : Hid _ := hfr37
      have HO37 : Hid _ := hor37
      have HB38 : Hid _ := hb38
      have HS38 : Hid _ := hs38
      have HAL : Hid _ := hAL
      have HVB : Hid _ := hvb
      clear hFr hor33 hfr37 hor37 hb38 hs38 hAL hAn hAl hi hz0 hz1 hz2 hvb
      go_wp2_with (first
        | (refine wpList_store_row rfl 23 _ _ rfl w37.heap.size AL.toArray rfl rfl 23 ZA HX10.out (info32a _ HAS.out) (HZS.out.trans HAS.out.symm) HAA.out ?_)
        | (at_builtin; refine wpList_append_lies _ rfl (.tmp 38) (.tmp 39) 64 rfl w.heap.size 5 i0 (.int .u8 0) 1 1 Tryz.underlying64 HI0.out HI1.out HI2.out HI3.out rfl (by decide) (.slice p7 c c7) c ((strO q o k).1.map B8) rfl HOUT.out ⟨w37.heap.size, 0, none⟩ 32 32 AL rfl HAN.out HNEW.out HA1.out (by decide) (by unfold maxLen; omega) (by omega) (by rw [HS38.out]; omega) (w37.heap.size + 1) HS38.out ?_; intro g cap w40 hown hgr hgl hgX; have HOWN : Hid _ := hown; have HGR : Hid _ := hgr; have HGL : Hid _ := hgl; clear hown hgr hgl))
      have hlen : (strO q o (k + 1)).1.length = c + 32 := by
        show ((strO q o k).1 ++ (askO (strO q o k).2 (sQ q k)).1).length = _
        rw [List.length_append, HI.out.len, askO_len HI.out.ora.log.1 HI.out.ora.draws.1, ← HC.out]
      have hs40 := HGR.out.size
      rw [HS38.out] at hs40
      have hown : ∀ j, some j = (Value.slice p7 c c7).ownBlock → ¬ Sk j ∧ j ≠ w.heap.size ∧ w.heap.size ≤ j ∧ j < wr.heap.size := fun j e => ⟨(HI.out.ob j e.symm).1, (HI.out.ob j e.symm).2, (HVB.out j e.symm).1, (HVB.out j e.symm).2⟩
      have hnext : StI B og S w o q dv t QL (k + 1) (.slice (some ⟨g, 0, none⟩) (c + 32) cap) w40 (fun j => Sk j ∨ ((w32.setCell ⟨wr.heap.size, 34, none⟩ (.slice p32 m32 c32)).heap.size ≤ j ∧ j < w37.heap.size)) lv2 lds2 := by
        refine ⟨HO37.out.keep (by omega) (fun j hj hS => (HGR.out.block j (by rw [HS38.out]; omega) (fun e => ?_)).trans (HB38.out.block j hj)), fun j h => h.elim (HI.out.sub j) (fun h => .inr (by omega)), ?_, ?_, fun j e => ?_, fun h => h.elim HI.out.qb (fun h => by omega), ?_, ?_⟩
        · have h := hown j e
          rcases hS with (hS | hS) | hS
          · exact h.1 hS
          · omega
          · omega
        · unfold FB
          rw [hlen]
          show w40.ownsRow _ _ _ _ _ (((strO q o k).1 ++ (askO (strO q o k).2 (sQ q k)).1).map B8)
          rw [List.map_append, ← HAL.out]
          exact HOWN.out
        · rw [hlen, HC.out]; omega
        · have ej : g = j := by simpa [Value.ownBlock] using e
          subst ej
          rcases HGL.out with h | h
          · have h2 := hown g h.symm
            exact ⟨fun h3 => h3.elim h2.1 (fun h4 => by omega), h2.2.1⟩
          · refine ⟨fun h3 => h3.elim (fun h4 => ?_) (fun h4 => by omega), by omega⟩
            have := HI.out.ora.top g h4
            omega
        · exact (HGR.out.block _ (by rw [HS38.out]; omega) (fun e => (hown _ e).2.1 rfl)).trans ((HB38.out.block _ (by omega)).trans ((HF37.out.block _ (by omega) HI.out.qb).trans ((HFR.out.block _ hsw (fun h => h)).trans HI.out.row)))
        · exact (((HI.out.fr.trans HFR.out (fun _ h => h.elim)).trans HF37.out (fun j h => HI.out.sub j h)).then HB38.out).grown HGR.out (fun j e => .inr (hown j e.symm).2.2.1)
      go_roundw
      case rel => exact ⟨k + 1, _, lv2, lds2, by have := HC.out; omega, by go_num, hnext⟩
      case measure => have := HC.out; simp [intOf]; omega
    · have hnI : ¬ (c : Int) < (n : Int) := by omega
      have hnc : n ≤ c := by omega
      have hHB := hb_take HI.out.out.hb n (by rw [HI.out.len, ← HC.out]; exact hnc)
      have HEND : Hid (∀ v, v = .slice p7 n c7 → StrEnd B og S w o dv t q n (.returned v) wr) := fun v hv => by
        have hs := HI.out.fr.size
        refine ⟨v, k, rfl, by rw [← HC.out]; exact hnc, hk, by rw [hv]; exact hHB, HI.out.len, HI.out.fr, lv1, lds1, HI.out.ora.more (fun j h => (HI.out.sub j h).elim .inl (fun h2 => .inr ⟨h2, HI.out.ora.top j h⟩)) (fun j h => h.elim (fun h => ⟨HOR.out.low j h, by have := HOR.out.top j h; omega⟩) (fun h => ⟨by omega, h.2⟩))⟩
      have hcap : n ≤ c7 ∧ (p7 = none → n = 0 ∧ c7 = 0) := by
        rcases HI.out.out.2 with ⟨h1, h2⟩ | ⟨g, cap, cur, h1, h2, h3, h4, h5, h6⟩
        · injection h1 with e1 e2 e3
          exact ⟨by omega, fun _ => ⟨by omega, e3⟩⟩
        · injection h1 with e1 e2 e3
          exact ⟨by omega, fun h => by rw [h] at e1; cases e1⟩
      obtain ⟨hcap, hnone⟩ := hcap
      clear hHB
      cases p7 with
      | none =>
        obtain ⟨rfl, rfl⟩ := hnone rfl
        go_wp2
        go_ret
        exact HEND.out _ rfl
      | some ad =>
        clear hnone
        go_wp2
        go_ret
        exact HEND.out _ rfl

end Go.Proofs.YtbmmibmfjhehhaaGreat.R5
