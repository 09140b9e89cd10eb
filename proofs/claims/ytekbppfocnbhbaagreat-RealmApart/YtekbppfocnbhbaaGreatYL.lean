import Derived.Test.YtekbppfocnbhbaaGreatXD
import Derived.Test.YtekbppfocnbhbaaGreatYJ
set_option linter.unusedVariables false
set_option linter.unusedSimpArgs false
set_option maxHeartbeats 16000000
set_option maxRecDepth 100000
namespace Go.Proofs.YtekbppfocnbhbaaGreat.R5
open scoped Classical
open Go.RowKit
section
variable {w K X : World} {n tn og mb rg : Nat} {m : List UInt8} {D : List (List UInt8)} {L R : List (Qn × List UInt8)} {I : Nat → Prop}
def RQ (w : World) (n og mb rg : Nat) (m : List UInt8) (D : List (List UInt8)) (L R : List (Qn × List UInt8)) (I : Nat → Prop) (X Y : World) : Prop :=
  MM w n Y.heap.size og mb rg m D L R I Y Y ∧ (∀ k, I k → Y.heap[k]? = X.heap[k]?) ∧ X.heap.size ≤ Y.heap.size
theorem MM.rdig (h : MM w n tn og mb rg m D L R I K X) (hll : R.length < 1000000) (d : Int) (v : Value) (l : List UInt8) (hl : l.length ≤ 1099511627776) (hd : HB X v l) (hI : ∀ k, v.ownBlock = some k → I k) (hAl : (nx D R ⟨1, List.replicate 32 0, d, l⟩).1.length = 32) :
    Calls Tryz.prog 52 #[.pointer (some ⟨rg, 0, none⟩), .int .i64 d, v] X fun e Y => e = .returned (.agg ((nx D R ⟨1, List.replicate 32 0, d, l⟩).1.map B8).toArray) ∧ RQ w n og mb rg m D L (nx D R ⟨1, List.replicate 32 0, d, l⟩).2 I X Y := by
  have hzv := fun W => zero_dig W
  obtain ⟨ZL, hZL⟩ : ∃ L, L = (List.replicate 32 (0 : UInt8)).map B8 := ⟨_, rfl⟩
  rw [← hZL] at hzv
  have HZS : Hid (ZL.toArray.size = 32) := by show _ = _; rw [hZL]; simp
  obtain ⟨p2, c2, hv2, _, _⟩ := hb_cells hd
  subst hv2
  obtain ⟨X1, hX1⟩ : ∃ X1, X1 = X.alloc (.cells ZL.toArray 33 (0, 0)) := ⟨_, rfl⟩
  have hb1 : Below X.heap.size X X1 := by rw [hX1]; exact (Below.refl _ _).alloc (Nat.le_refl _) _
  have hz1 : X1.heap.size = X.heap.size + 1 := by rw [hX1]; simp
  have hr1 : X1.heap[X.heap.size]? = some (.cells ZL.toArray 33 (0, 0)) := by rw [hX1]; exact heap_at _ _ _ rfl
  have hIl : ∀ k, I k → k < X.heap.size := fun k hk => by
    obtain ⟨S, dv, ov, T, dr, lv, lds, h1, h2, h3, h4, h5, h6⟩ := h.ex
    exact (h5 k hk).2.2
  have h1 : MM w n tn og mb rg m D L R (fun k => I k ∨ k = X.heap.size) X1 X1 := h.go (Fr.ofBelow hb1) (fun k hk => hk.elim .inl (fun e => .inr (by omega)))
  have HASK : Hid (Calls Tryz.prog 82 #[.pointer (some ⟨rg, 0, none⟩), .agg (qL ⟨1, List.replicate 32 0, d, l⟩ (.slice p2 l.length c2)).toArray] X1 fun e Y => e = .returned (.agg ((nx D R ⟨1, List.replicate 32 0, d, l⟩).1.map B8).toArray) ∧ MM w n Y.heap.size og mb rg m D L (nx D R ⟨1, List.replicate 32 0, d, l⟩).2 (fun k => I k ∨ k = X.heap.size) X1 Y) :=
    h1.rask hll (.slice p2 l.length c2) ⟨1, List.replicate 32 0, d, l⟩ (by simp) hl (hd.below hb1) (fun k hk => .inl (hI k hk))
  have hbk := fun W => build_q3 W 1 d p2 l.length c2
  have hqq : Value.int .i64 1 :: ((List.replicate 32 (0 : UInt8)).map B8 ++ [.int .i64 d, .slice p2 l.length c2]) = qL ⟨1, List.replicate 32 0, d, l⟩ (.slice p2 l.length c2) := rfl
  rw [hqq] at hbk
  have HEND : Hid (∀ Y2 AA, MM w n Y2.heap.size og mb rg m D L (nx D R ⟨1, List.replicate 32 0, d, l⟩).2 (fun k => I k ∨ k = X.heap.size) X1 Y2 → Y2.heap[X.heap.size]? = some (.cells ZL.toArray 33 (0, 0)) ∧ RQ w n og mb rg m D L (nx D R ⟨1, List.replicate 32 0, d, l⟩).2 I X (Y2.setRow X.heap.size AA)) := fun Y2 AA hM => by
    refine ⟨(hM.same _ (.inr rfl)).trans hr1, ?_, fun k hk => ?_, ?_⟩
    · have hsz : (Y2.setRow X.heap.size AA).heap.size = Y2.heap.size := by simp
      rw [hsz]
      exact hM.go (Fr.setRow (Fr.refl _ _) X.heap.size AA (.inl ⟨h.low.2, .inr rfl⟩)) (fun k hk => .inl (.inl hk))
    · have hk1 := hIl k hk
      rw [setRow_other _ _ _ _ (by omega), hM.same k (.inl hk)]
      exact hb1.block k hk1
    · have : X1.heap.size ≤ Y2.heap.size := by
        obtain ⟨S, dv, ov, T, dr, lv, lds, g1, g2, g3, g4, g5, g6⟩ := hM.ex
        have := (g5 X.heap.size (.inr rfl)).2.2
        omega
      have hsz : (Y2.setRow X.heap.size AA).heap.size = Y2.heap.size := by simp
      omega
  have HAL : Hid ((nx D R ⟨1, List.replicate 32 0, d, l⟩).1.length = 32) := hAl
  rw [hX1] at HASK HEND
  generalize qL ⟨1, List.replicate 32 0, d, l⟩ (.slice p2 l.length c2) = QB at *
  generalize nx D R ⟨1, List.replicate 32 0, d, l⟩ = NX at *
  have HBK : Hid _ := hbk
  clear hbk hqq h1 hr1 hb1 hz1 hIl hd hAl hZL hX1 X1
  go_enter Tryz.func52, Tryz.ntmps52
  go_wp2_with (refine wpList_build rfl 138 _ rfl _ _ (by simp; exact ⟨rfl, rfl, rfl⟩) (HBK.out _) ?_)
  refine Calls.mono HASK.out ?_
  rintro e Y2 ⟨rfl, hM⟩
  have hE := HEND.out Y2 (NX.1.map B8).toArray hM
  have HR2 : Hid (Y2.heap[X.heap.size]? = some (.cells ZL.toArray 33 (0, 0))) := hE.1
  have HFIN : Hid (RQ w n og mb rg m D L NX.2 I X (Y2.setRow X.heap.size (NX.1.map B8).toArray)) := hE.2
  have HAS : Hid ((NX.1.map B8).toArray.size = 32) := by show _ = _; simpa using HAL.out
  have HA1 : Hid _ := B8_onea NX.1
  clear hE hM HASK HEND HAL
  obtain ⟨AA, hAA⟩ : ∃ AA, AA = (NX.1.map B8).toArray := ⟨_, rfl⟩
  rw [← hAA] at HFIN HAS HA1 ⊢
  have HAA : Hid (AA = (NX.1.map B8).toArray) := hAA
  clear hAA
  go_wp2_with (refine wpList_store_row rfl 33 _ _ rfl X.heap.size AA rfl rfl 33 ZL.toArray HR2.out (info32a _ HAS.out) (HZS.out.trans HAS.out.symm) HA1.out ?_)
  refine bodyPost_ret (v := .agg AA) ?_ rfl ⟨by rw [HAA.out], HFIN.out⟩
  exact results_cell_row Tryz.results52 _ _ X.heap.size 33 _ (0, 0) _ rfl (setRow_heap _ _ _ _ _ _ HR2.out) Tryz.underlying33 rfl (info32a _ HAS.out)
theorem MM.rkey (h : MM w n tn og mb rg m D L R I K X) (hll : R.length < 1000000) (d : Int) (v : Value) (l : List UInt8) (hl : l.length ≤ 1099511627776) (hd : HB X v l) (hI : ∀ k, v.ownBlock = some k → I k) (hAl : (nx D R ⟨3, m, d, l⟩).1.length = 32) :
    Calls Tryz.prog 50 #[.pointer (some ⟨rg, 0, none⟩), .int .i64 d, v] X fun e Y => e = .returned (.agg ((nx D R ⟨3, m, d, l⟩).1.map B8).toArray) ∧ RQ w n og mb rg m D L (nx D R ⟨3, m, d, l⟩).2 I X Y := by
  have hzv := fun W => zero_dig W
  obtain ⟨hm, hmr⟩ : m.length = 32 ∧ X.rangeAt rg 1 (m.map B8) := by
    obtain ⟨S, dv, ov, T, dr, lv, lds, h1, h2, h3, h4, h5, h6⟩ := h.ex
    refine ⟨h2.ml, fun j v hv => ?_⟩
    rw [cell_of_row _ _ _ _ _ _ h2.row]
    have hj : j < (m.map B8).length := (List.getElem?_eq_some_iff.1 hv).1
    show (oL true m dr _ lv).toArray[1 + j]? = some v
    unfold oL
    rw [List.getElem?_toArray, Nat.add_comm, List.getElem?_cons_succ, List.getElem?_append_left hj]
    exact hv
  obtain ⟨ZL, hZL⟩ : ∃ L, L = (List.replicate 32 (0 : UInt8)).map B8 := ⟨_, rfl⟩
  rw [← hZL] at hzv
  have HZS : Hid (ZL.toArray.size = 32) := by show _ = _; rw [hZL]; simp
  obtain ⟨p2, c2, hv2, _, _⟩ := hb_cells hd
  subst hv2
  obtain ⟨X1, hX1⟩ : ∃ X1, X1 = X.alloc (.cells ZL.toArray 33 (0, 0)) := ⟨_, rfl⟩
  have hb1 : Below X.heap.size X X1 := by rw [hX1]; exact (Below.refl _ _).alloc (Nat.le_refl _) _
  have hz1 : X1.heap.size = X.heap.size + 1 := by rw [hX1]; simp
  have hr1 : X1.heap[X.heap.size]? = some (.cells ZL.toArray 33 (0, 0)) := by rw [hX1]; exact heap_at _ _ _ rfl
  have hIl : ∀ k, I k → k < X.heap.size := fun k hk => by
    obtain ⟨S, dv, ov, T, dr, lv, lds, h1, h2, h3, h4, h5, h6⟩ := h.ex
    exact (h5 k hk).2.2
  have h1 : MM w n tn og mb rg m D L R (fun k => I k ∨ k = X.heap.size) X1 X1 := h.go (Fr.ofBelow hb1) (fun k hk => hk.elim .inl (fun e => .inr (by omega)))
  have HASK : Hid (Calls Tryz.prog 82 #[.pointer (some ⟨rg, 0, none⟩), .agg (qL ⟨3, m, d, l⟩ (.slice p2 l.length c2)).toArray] X1 fun e Y => e = .returned (.agg ((nx D R ⟨3, m, d, l⟩).1.map B8).toArray) ∧ MM w n Y.heap.size og mb rg m D L (nx D R ⟨3, m, d, l⟩).2 (fun k => I k ∨ k = X.heap.size) X1 Y) :=
    h1.rask hll (.slice p2 l.length c2) ⟨3, m, d, l⟩ hm hl (hd.below hb1) (fun k hk => .inl (hI k hk))
  have hbk := fun W => build_q4 W 3 d (m.map B8) (by simpa using hm) p2 l.length c2
  have hqq : Value.int .i64 3 :: (m.map B8 ++ [.int .i64 d, .slice p2 l.length c2]) = qL ⟨3, m, d, l⟩ (.slice p2 l.length c2) := rfl
  rw [hqq] at hbk
  have HEND : Hid (∀ Y2 AA, MM w n Y2.heap.size og mb rg m D L (nx D R ⟨3, m, d, l⟩).2 (fun k => I k ∨ k = X.heap.size) X1 Y2 → Y2.heap[X.heap.size]? = some (.cells ZL.toArray 33 (0, 0)) ∧ RQ w n og mb rg m D L (nx D R ⟨3, m, d, l⟩).2 I X (Y2.setRow X.heap.size AA)) := fun Y2 AA hM => by
    refine ⟨(hM.same _ (.inr rfl)).trans hr1, ?_, fun k hk => ?_, ?_⟩
    · have hsz : (Y2.setRow X.heap.size AA).heap.size = Y2.heap.size := by simp
      rw [hsz]
      exact hM.go (Fr.setRow (Fr.refl _ _) X.heap.size AA (.inl ⟨h.low.2, .inr rfl⟩)) (fun k hk => .inl (.inl hk))
    · have hk1 := hIl k hk
      rw [setRow_other _ _ _ _ (by omega), hM.same k (.inl hk)]
      exact hb1.block k hk1
    · have : X1.heap.size ≤ Y2.heap.size := by
        obtain ⟨S, dv, ov, T, dr, lv, lds, g1, g2, g3, g4, g5, g6⟩ := hM.ex
        have := (g5 X.heap.size (.inr rfl)).2.2
        omega
      have hsz : (Y2.setRow X.heap.size AA).heap.size = Y2.heap.size := by simp
      omega
  have HMR : Hid (X1.rangeAt rg 1 (m.map B8)) := rangeAt_below hmr hb1
  have HMI : Hid _ := info32 (m.map B8) (by simpa using hm)
  have HAL : Hid ((nx D R ⟨3, m, d, l⟩).1.length = 32) := hAl
  rw [hX1] at HASK HEND HMR
  generalize qL ⟨3, m, d, l⟩ (.slice p2 l.length c2) = QB at *
  generalize nx D R ⟨3, m, d, l⟩ = NX at *
  have HBK : Hid _ := hbk
  clear hbk hqq hm hmr h1 hr1 hb1 hz1 hIl hd hAl hZL hX1 X1
  go_enter Tryz.func50, Tryz.ntmps50
  generalize m.map B8 = ML at *
  go_wp2_with (first
    | (refine wpList_load_mid rfl 33 _ rfl rg 1 rfl ML _ HMR.out Tryz.underlying33 rfl HMI.out ?_)
    | (refine wpList_build rfl 138 _ rfl _ _ (by simp; exact ⟨rfl, rfl, rfl, rfl⟩) (HBK.out _) ?_))
  refine Calls.mono HASK.out ?_
  rintro e Y2 ⟨rfl, hM⟩
  have hE := HEND.out Y2 (NX.1.map B8).toArray hM
  have HR2 : Hid (Y2.heap[X.heap.size]? = some (.cells ZL.toArray 33 (0, 0))) := hE.1
  have HFIN : Hid (RQ w n og mb rg m D L NX.2 I X (Y2.setRow X.heap.size (NX.1.map B8).toArray)) := hE.2
  have HAS : Hid ((NX.1.map B8).toArray.size = 32) := by show _ = _; simpa using HAL.out
  have HA1 : Hid _ := B8_onea NX.1
  clear hE hM HASK HEND HAL
  obtain ⟨AA, hAA⟩ : ∃ AA, AA = (NX.1.map B8).toArray := ⟨_, rfl⟩
  rw [← hAA] at HFIN HAS HA1 ⊢
  have HAA : Hid (AA = (NX.1.map B8).toArray) := hAA
  clear hAA
  go_wp2_with (refine wpList_store_row rfl 33 _ _ rfl X.heap.size AA rfl rfl 33 ZL.toArray HR2.out (info32a _ HAS.out) (HZS.out.trans HAS.out.symm) HA1.out ?_)
  refine bodyPost_ret (v := .agg AA) ?_ rfl ⟨by rw [HAA.out], HFIN.out⟩
  exact results_cell_row Tryz.results50 _ _ X.heap.size 33 _ (0, 0) _ rfl (setRow_heap _ _ _ _ _ _ HR2.out) Tryz.underlying33 rfl (info32a _ HAS.out)
end
end Go.Proofs.YtekbppfocnbhbaaGreat.R5
namespace Go.Proofs.YtekbppfocnbhbaaGreat.XC
open Go.RowKit
section
variable {c : Cx} {rb tn : Nat} {I : Nat → Prop} {X : World} {L R : List (R5.Qn × List UInt8)}
theorem alloc_three (w : World) (A B C : Array Value) (ta tb tc : TypeId) (w1 : World) (h : w1 = ((w.alloc (.cells A ta (0, 0))).alloc (.cells B tb (0, 0))).alloc (.cells C tc (0, 0))) :
    Below w.heap.size w w1 ∧ w1.heap.size = w.heap.size + 3 ∧ w1.heap[w.heap.size]? = some (.cells A ta (0, 0)) ∧ w1.heap[w.heap.size + 1]? = some (.cells B tb (0, 0)) ∧ w1.heap[w.heap.size + 2]? = some (.cells C tc (0, 0)) := by
  subst h
  refine ⟨(((Below.refl _ _).alloc (Nat.le_refl _) _).alloc (by simp) _).alloc (by simp; omega) _, by simp, ?_, ?_, ?_⟩
  · rw [heap_alloc_old _ _ (by simp; omega), heap_alloc_old _ _ (by simp)]; exact heap_alloc_new _ _
  · rw [heap_alloc_old _ _ (by simp)]
    have := heap_alloc_new (w.alloc (.cells A ta (0, 0))) (.cells B tb (0, 0))
    rwa [show (w.alloc (.cells A ta (0, 0))).heap.size = w.heap.size + 1 by simp] at this
  · have := heap_alloc_new ((w.alloc (.cells A ta (0, 0))).alloc (.cells B tb (0, 0))) (.cells C tc (0, 0))
    rwa [show ((w.alloc (.cells A ta (0, 0))).alloc (.cells B tb (0, 0))).heap.size = w.heap.size + 2 by simp] at this
theorem rms1 (h : R5.MM c.w c.n tn c.og c.mo c.rg c.m c.D L R I X X) (hc : X.cell? ⟨rb, 0, none⟩ = some (.pointer (some ⟨c.rg, 0, none⟩))) (hrb : I rb) (hll : R.length < 1000000) (MA : Array Value) (rec : Rd) (hok : rec.ok) (hk : rec.kind = 1)
    (hAl : (R5.nx c.D R ⟨1, List.replicate 32 0, 1, rec.value⟩).1.length = 32) :
    Calls Tryz.prog 18 #[.pointer (some ⟨rb, 0, none⟩), .agg MA, .agg (rdL rec).toArray] X fun e Y => e = .returned (.agg ((R5.nx c.D R ⟨1, List.replicate 32 0, 1, rec.value⟩).1.map B8).toArray) ∧ R5.RQ c.w c.n c.og c.mo c.rg c.m c.D L (R5.nx c.D R ⟨1, List.replicate 32 0, 1, rec.value⟩).2 I X Y := by
  have hzv := fun W => R5.zero_dig W
  obtain ⟨ZL, hZL⟩ : ∃ L, L = (List.replicate 32 (0 : UInt8)).map B8 := ⟨_, rfl⟩
  rw [← hZL] at hzv
  have HZS : Hid (ZL.toArray.size = 32) := by show _ = _; rw [hZL]; simp
  obtain ⟨X1, hX1⟩ : ∃ X1, X1 = ((X.alloc (.cells MA 33 (0, 0))).alloc (.cells (rdL rec).toArray 69 (0, 0))).alloc (.cells ZL.toArray 33 (0, 0)) := ⟨_, rfl⟩
  obtain ⟨hb1, hs1, r0, r1, r2⟩ := alloc_three X _ _ _ _ _ _ X1 hX1
  have hIl : ∀ k, I k → k < X.heap.size := fun k hk => by
    obtain ⟨S, dv, ov, T, dr, lv, lds, h1, h2, h3, h4, h5, h6⟩ := h.ex
    exact (h5 k hk).2.2
  have h1 : R5.MM c.w c.n tn c.og c.mo c.rg c.m c.D L R (fun k => I k ∨ (X.heap.size ≤ k ∧ k < X1.heap.size)) X1 X1 := h.go (R5.Fr.ofBelow hb1) (fun k hk => hk)
  have hval : X1.rangeAt (X.heap.size + 1) 1 (rec.value.map B8) := by
    have := PC.rangeAt_part (PC.rangeAt_row r1) 1 32
    rwa [List.drop_one, rdL_val hok, Nat.zero_add] at this
  have HBV : Hid (∀ W, Below X1.heap.size X1 W → HB W (.slice (some ⟨X.heap.size + 1, 1, none⟩) 32 32) rec.value) := fun W hW => R5.hb_range 32 hok.v.symm (by rw [hok.v]; decide) (R5.rangeAt_below hval hW)
  have HDIG : Hid (∀ W, Below X1.heap.size X1 W → Calls Tryz.prog 52 #[.pointer (some ⟨c.rg, 0, none⟩), .int .i64 1, .slice (some ⟨X.heap.size + 1, 1, none⟩) 32 32] W fun e Y => e = .returned (.agg ((R5.nx c.D R ⟨1, List.replicate 32 0, 1, rec.value⟩).1.map B8).toArray) ∧ R5.RQ c.w c.n c.og c.mo c.rg c.m c.D L (R5.nx c.D R ⟨1, List.replicate 32 0, 1, rec.value⟩).2 (fun k => I k ∨ (X.heap.size ≤ k ∧ k < X1.heap.size)) W Y) := fun W hW =>
    (h1.step hW).rdig hll 1 _ rec.value (by rw [hok.v]; decide) (HBV.out W hW) (fun k hk => .inr (by
      have : k = X.heap.size + 1 := by simpa [Value.ownBlock] using hk.symm
      omega)) hAl
  have HC : Hid (∀ W Y, Below X1.heap.size X1 W → R5.RQ c.w c.n c.og c.mo c.rg c.m c.D L (R5.nx c.D R ⟨1, List.replicate 32 0, 1, rec.value⟩).2 (fun k => I k ∨ (X.heap.size ≤ k ∧ k < X1.heap.size)) W Y → Y.heap[X.heap.size + 2]? = some (.cells ZL.toArray 33 (0, 0)) ∧ Y.cell? ⟨rb, 0, none⟩ = some (.pointer (some ⟨c.rg, 0, none⟩)) ∧ ∀ AA, R5.RQ c.w c.n c.og c.mo c.rg c.m c.D L (R5.nx c.D R ⟨1, List.replicate 32 0, 1, rec.value⟩).2 I X (Y.setRow (X.heap.size + 2) AA)) := fun W Y hW hY => by
    have hYk : ∀ k, I k → Y.heap[k]? = X.heap[k]? := fun k hk => by
      rw [hY.2.1 k (.inl hk), hW.block k (by have := hIl k hk; omega), hb1.block k (hIl k hk)]
    refine ⟨?_, ?_, fun AA => ⟨?_, fun k hk => ?_, ?_⟩⟩
    · rw [hY.2.1 _ (.inr ⟨by omega, by omega⟩), hW.block _ (by omega)]; exact r2
    · rw [World.cell?_of_block (w := X) (a := ⟨rb, 0, none⟩) (hYk rb hrb)]; exact hc
    · have hsz : (Y.setRow (X.heap.size + 2) AA).heap.size = Y.heap.size := by simp
      rw [hsz]
      exact hY.1.go (R5.Fr.setRow (R5.Fr.refl _ _) (X.heap.size + 2) AA (.inl ⟨by have := h.low.2; omega, .inr ⟨by omega, by omega⟩⟩)) (fun k hk => .inl (.inl hk))
    · rw [setRow_other _ _ _ _ (by have := hIl k hk; omega)]; exact hYk k hk
    · have hsz : (Y.setRow (X.heap.size + 2) AA).heap.size = Y.heap.size := by simp
      have := hY.2.2
      have := hW.size
      omega
  have HXc : Hid (X1.cell? ⟨rb, 0, none⟩ = some (.pointer (some ⟨c.rg, 0, none⟩))) := by
    show _ = _
    rw [World.cell?_of_block (w := X) (a := ⟨rb, 0, none⟩) (hb1.block rb (hIl rb hrb))]; exact hc
  have hkd : X1.cell? ⟨X.heap.size + 1, 0, none⟩ = some (.int .i64 1) := by
    have := PC.rangeAt_row r1 0 (.int .i64 rec.kind) rfl
    rw [hk] at this; exact this
  have HNE : Hid (rb ≠ X.heap.size + 2) := by show _ ≠ _; have := hIl rb hrb; omega
  have HAL : Hid ((R5.nx c.D R ⟨1, List.replicate 32 0, 1, rec.value⟩).1.length = 32) := hAl
  have HX1 : Hid (X1 = ((X.alloc (.cells MA 33 (0, 0))).alloc (.cells (rdL rec).toArray 69 (0, 0))).alloc (.cells ZL.toArray 33 (0, 0))) := hX1
  rw [hX1] at hkd
  generalize R5.nx c.D R ⟨1, List.replicate 32 0, 1, rec.value⟩ = NX at *
  generalize (rdL rec).toArray = RA at *
  clear h h1 hb1 hs1 r0 r1 r2 hIl hval hAl hX1 hZL hk hok HBV
  go_enter Tryz.func18, Tryz.ntmps18
  go_wp2
  rw [← HX1.out]
  clear HX1 hkd
  have HBW : Hid (Below X1.heap.size X1 X1.drew) := (Below.refl _ _).drew
  refine wp_region_held_drew (S := fun w' => w'.cell? ⟨rb, 0, none⟩ = some (.pointer (some ⟨c.rg, 0, none⟩))) (by kernel_rfl) HXc.out (fun hHeld => ?_)
  generalize X1.drew = W at *
  refine qzI 0 ⟨some 13, .move (.tmp 0), 27, _, #[], none⟩ (.pointer (some ⟨rb, 0, none⟩)) rfl (by kernel_rfl) (fun _ _ _ h => h) (by rfl) (fun w' hw' => ?_) hHeld ?_
  · go_simp <;> rfl
  try simp only [Act.put, qT, q0, qS]
  refine qzI 1 ⟨some 14, .nilCheck (.tmp 13), 0, _, #[⟨0, .data⟩], none⟩ (.pointer (some ⟨rb, 0, none⟩)) rfl (by kernel_rfl) (fun _ _ _ h => h) (by rfl) (fun w' hw' => ?_) hHeld ?_
  · go_simp <;> rfl
  try simp only [Act.put, qT, q0, qS]
  refine qzI 2 ⟨some 15, .fieldAddr 58 (.tmp 14) 0, 0, _, #[⟨1, .data⟩], none⟩ (.pointer (some ⟨rb, 0, none⟩)) rfl (by kernel_rfl) (fun _ _ _ h => h) (by rfl) (fun w' hw' => ?_) hHeld ?_
  · go_simp <;> rfl
  try simp only [Act.put, qT, q0, qS]
  refine qzI 3 ⟨some 16, .load 55 (.tmp 15), 55, _, #[⟨2, .data⟩], none⟩ (.pointer (some ⟨c.rg, 0, none⟩)) rfl (by kernel_rfl) (fun _ _ _ h => h) (by rfl) (fun w' hw' => ?_) hHeld ?_
  · have hq := hw'; go_simp <;> rfl
  try simp only [Act.put, qT, q0, qS]
  refine qzI 4 ⟨some 17, .fieldAddr 69 (.tmp 5) 1, 0, _, #[], none⟩ (.pointer (some ⟨X.heap.size + 1, 1, none⟩)) rfl (by kernel_rfl) (fun _ _ _ h => h) (by rfl) (fun w' hw' => ?_) hHeld ?_
  · go_simp <;> rfl
  try simp only [Act.put, qT, q0, qS]
  refine qzI 5 ⟨some 18, .slice 33 (.tmp 17) none none none, 106, _, #[⟨4, .data⟩], none⟩ (.slice (some ⟨X.heap.size + 1, 1, none⟩) 32 32) rfl (by kernel_rfl) (fun _ _ _ h => h) (by rfl) (fun w' hw' => ?_) hHeld ?_
  · go_simp <;> rfl
  try simp only [Act.put, qT, q0, qS]
  refine qzR 6 ⟨some 19, .call ⟨.value (.func 52), #[.tmp 16, .const (Go.Value.int Go.IntKind.i64 1), .tmp 18], #[55, 105, 106]⟩, 33, _, #[⟨3, .data⟩, ⟨5, .data⟩], none⟩ (by kernel_rfl) rfl (by rfl) (fun K hK => ?_)
  go_wp2_with fail
  refine Calls.mono (HDIG.out W HBW.out) ?_
  rintro e Y ⟨rfl, hY⟩
  obtain ⟨hr2, hcY, hfin⟩ := HC.out W Y HBW.out hY
  have HR2 : Hid (Y.heap[X.heap.size + 2]? = some (.cells ZL.toArray 33 (0, 0))) := hr2
  have HFIN : Hid (R5.RQ c.w c.n c.og c.mo c.rg c.m c.D L NX.2 I X (Y.setRow (X.heap.size + 2) (NX.1.map B8).toArray)) := hfin _
  have HAS : Hid ((NX.1.map B8).toArray.size = 32) := by show _ = _; simpa using HAL.out
  have HA1 : Hid _ := R5.B8_onea NX.1
  clear hr2 hfin hY HDIG HC HAL HXc
  obtain ⟨AA, hAA⟩ : ∃ AA, AA = (NX.1.map B8).toArray := ⟨_, rfl⟩
  rw [← hAA] at HFIN HAS HA1 ⊢
  have HAA : Hid (AA = (NX.1.map B8).toArray) := hAA
  clear hAA
  refine hK.out _ _ hcY (fun _ => ?_)
  clear hK K
  try simp only [Act.put, qT, q0, qS]
  refine qzR 7 ⟨none, .store 33 (.tmp 6) (.tmp 19), 0, _, #[⟨6, .data⟩, ⟨6, .chain⟩, ⟨0, .phase⟩, ⟨1, .phase⟩, ⟨2, .phase⟩, ⟨3, .phase⟩, ⟨4, .phase⟩, ⟨5, .phase⟩, ⟨6, .phase⟩], none⟩ (by kernel_rfl) rfl (by rfl) (fun K hK => ?_)
  refine wp_store_row 33 _ _ rfl (X.heap.size + 2) AA rfl rfl 33 ZL.toArray HR2.out (R5.info32a _ HAS.out) (HZS.out.trans HAS.out.symm) HA1.out ?_
  have hcZ : (Y.setRow (X.heap.size + 2) AA).cell? ⟨rb, 0, none⟩ = some (.pointer (some ⟨c.rg, 0, none⟩)) := by
    rw [World.cell?_of_block (w := Y) (a := ⟨rb, 0, none⟩) (setRow_other _ _ _ _ HNE.out)]; exact hcY
  refine hK.out _ _ hcZ (fun _ => ?_)
  clear hK K
  try simp only [Act.put, qT, q0, qS]
  refine wpAnyH_done (by kernel_rfl) ?_ _
  clear hcY hcZ hHeld HNE
  go_wp2
  refine bodyPost_ret (v := .agg AA) ?_ rfl ⟨by rw [HAA.out], HFIN.out⟩
  exact results_cell_row Tryz.results18 _ _ (X.heap.size + 2) 33 _ (0, 0) _ rfl (setRow_heap _ _ _ _ _ _ HR2.out) Tryz.underlying33 rfl (R5.info32a _ HAS.out)
end
end Go.Proofs.YtekbppfocnbhbaaGreat.XC
