import Derived.Test.YtekbppfocnbhbaaGreatRb
set_option linter.unusedVariables false
set_option linter.unusedSimpArgs false
set_option maxHeartbeats 16000000
set_option maxRecDepth 100000
namespace Go.Proofs.YtekbppfocnbhbaaGreat.XC
open Go.RowKit
section
variable {c : Cx} {rb tn last : Nat} {L R R' : Lg} {I J : Nat → Prop} {X Y Z : World} {rl a b : List En} {av : Value} {rd root : Int} {r : Rm} {lv : Value}
theorem rcr_arg (p0 : Value) (ha : rd < 0 ∨ root < 0) (PA TA : Array Value) :
    Calls Tryz.prog 17 #[p0, .int .i64 rd, .int .i64 root, .agg PA, .agg TA] X fun e Y => e = .returned (.tuple #[.agg (rmL zR (.slice none 0 0)).toArray, .int .i64 2]) ∧ Below X.heap.size X Y := by
  have hz := fun W => zero_rm W
  have HBZ : Hid (∀ W, (Instr.build 47 #[]).run Tryz.prog W = .ok (.agg (rmL zR (.slice none 0 0)).toArray) W) := build_zrm
  obtain ⟨ZL, hZL⟩ : ∃ L, L = rmL zR (.slice none 0 0) := ⟨_, rfl⟩
  rw [← hZL] at hz HBZ ⊢
  have HZN : Hid (ZL.length = 103) := by show _ = _; rw [hZL]; exact rmL_len zR_ok _
  have HZS : Hid (ZL.toArray.size = 103) := by show _ = _; simpa using HZN.out
  have HZ1 : Hid (ZL.toArray.all (·.oneCell') = true) := by show _ = _; rw [hZL]; exact PC.onea (rmL_one _ _ rfl)
  have HZI : Hid ((Tryz.prog.info? 47).map (·.size) = some ZL.toArray.size) := info103a _ HZS.out
  obtain ⟨X3, hX3⟩ : ∃ X3, X3 = ((X.alloc (.cells PA 36 (0, 0))).alloc (.cells TA 33 (0, 0))).alloc (.cells ZL.toArray 47 (0, 0)) := ⟨_, rfl⟩
  obtain ⟨hb3, hs3, _, _, hr2⟩ := alloc_three X PA TA ZL.toArray _ _ _ X3 hX3
  have HB3 : Hid _ := hb3
  have HS2 : Hid (X3.heap[X.heap.size + 1 + 1]? = some (.cells ZL.toArray 47 (0, 0))) := hr2
  have HX3 : Hid _ := hX3
  rw [hX3] at HS2
  clear hZL hb3 hs3 hr2 hX3
  by_cases h0 : rd < 0
  · clear ha
    go_enter Tryz.func17, Tryz.ntmps17
    go_wp2_with (first
      | (refine PC.wpList_build rfl 47 _ rfl #[] (.agg ZL.toArray) (by simp) (HBZ.out _) ?_)
      | (refine wpList_store_row rfl 47 _ _ rfl (X.heap.size + 1 + 1) ZL.toArray rfl rfl 47 ZL.toArray HS2.out HZI.out rfl HZ1.out ?_))
    refine bodyPost_ret (v := .tuple #[.agg ZL.toArray, .int .i64 2]) ?_ rfl ⟨rfl, by rw [← HX3.out]; exact below_setRow HB3.out (by omega) _⟩
    exact PC.results2 Tryz.results17 _ _ (X.heap.size + 1 + 1) 47 _ (0, 0) _ rfl rfl (setRow_heap _ _ _ _ _ _ HS2.out) Tryz.underlying47 rfl (info103 _ HZN.out)
  · have h1 : root < 0 := ha.resolve_left h0
    clear ha
    go_enter Tryz.func17, Tryz.ntmps17
    go_wp2_with (first
      | (refine PC.wpList_build rfl 47 _ rfl #[] (.agg ZL.toArray) (by simp) (HBZ.out _) ?_)
      | (refine wpList_store_row rfl 47 _ _ rfl (X.heap.size + 1 + 1) ZL.toArray rfl rfl 47 ZL.toArray HS2.out HZI.out rfl HZ1.out ?_))
    refine bodyPost_ret (v := .tuple #[.agg ZL.toArray, .int .i64 2]) ?_ rfl ⟨rfl, by rw [← HX3.out]; exact below_setRow HB3.out (by omega) _⟩
    exact PC.results2 Tryz.results17 _ _ (X.heap.size + 1 + 1) 47 _ (0, 0) _ rfl rfl (setRow_heap _ _ _ _ _ _ HS2.out) Tryz.underlying47 rfl (info103 _ HZN.out)
theorem rcr_st (h : RX c rb I X (a ++ (rd, r, lv) :: b) last av) (hs : ∀ k, I k → k < X.heap.size) (hn : (a ++ (rd, r, lv) :: b).length < 1000000) (hno : NoRd a rd) (h0 : ¬ rd < 0) (h1 : ¬ root < 0) (PA TA : Array Value) :
    Calls Tryz.prog 17 #[.pointer (some ⟨rb, 0, none⟩), .int .i64 rd, .int .i64 root, .agg PA, .agg TA] X fun e Y => e = .returned (.tuple #[.agg (rmL zR (.slice none 0 0)).toArray, .int .i64 7]) ∧ Below X.heap.size X Y := by
  have hz := fun W => zero_rm W
  have HBZ : Hid (∀ W, (Instr.build 47 #[]).run Tryz.prog W = .ok (.agg (rmL zR (.slice none 0 0)).toArray) W) := build_zrm
  obtain ⟨ZL, hZL⟩ : ∃ L, L = rmL zR (.slice none 0 0) := ⟨_, rfl⟩
  rw [← hZL] at hz HBZ ⊢
  have HZN : Hid (ZL.length = 103) := by show _ = _; rw [hZL]; exact rmL_len zR_ok _
  have HZS : Hid (ZL.toArray.size = 103) := by show _ = _; simpa using HZN.out
  have HZ1 : Hid (ZL.toArray.all (·.oneCell') = true) := by show _ = _; rw [hZL]; exact PC.onea (rmL_one _ _ rfl)
  have HZI : Hid ((Tryz.prog.info? 47).map (·.size) = some ZL.toArray.size) := info103a _ HZS.out
  obtain ⟨X3, hX3⟩ : ∃ X3, X3 = ((X.alloc (.cells PA 36 (0, 0))).alloc (.cells TA 33 (0, 0))).alloc (.cells ZL.toArray 47 (0, 0)) := ⟨_, rfl⟩
  obtain ⟨hb3, hs3, _, _, hr2⟩ := alloc_three X PA TA ZL.toArray _ _ _ X3 hX3
  have HB3 : Hid _ := hb3
  have HS2 : Hid (X3.heap[X.heap.size + 1 + 1]? = some (.cells ZL.toArray 47 (0, 0))) := hr2
  have HX3 : Hid _ := hX3
  have HC : Hid (Calls Tryz.prog 13 #[.pointer (some ⟨rb, 0, none⟩), .int .i64 rd] X3 fun e Y => e = .returned (.int .i64 (a.length : Int)) ∧ X3 = Y) := rat_is (h.below hs hb3) hn hno
  rw [hX3] at HS2 HC
  have hge : (0 : Int) ≤ (a.length : Int) := by omega
  clear hZL hb3 hs3 hr2 hX3 h hs hn hno
  generalize (a.length : Int) = K at *
  go_enter Tryz.func17, Tryz.ntmps17
  go_wp2_with fail
  refine Calls.mono HC.out ?_
  rintro e w1 ⟨rfl, rfl⟩
  clear HC
  go_wp2_with (first
    | (refine PC.wpList_build rfl 47 _ rfl #[] (.agg ZL.toArray) (by simp) (HBZ.out _) ?_)
    | (refine wpList_store_row rfl 47 _ _ rfl (X.heap.size + 1 + 1) ZL.toArray rfl rfl 47 ZL.toArray HS2.out HZI.out rfl HZ1.out ?_))
  refine bodyPost_ret (v := .tuple #[.agg ZL.toArray, .int .i64 7]) ?_ rfl ⟨rfl, by rw [← HX3.out]; exact below_setRow HB3.out (by omega) _⟩
  exact PC.results2 Tryz.results17 _ _ (X.heap.size + 1 + 1) 47 _ (0, 0) _ rfl rfl (setRow_heap _ _ _ _ _ _ HS2.out) Tryz.underlying47 rfl (info103 _ HZN.out)
theorem RE.of_rv {rl' : List En} (hM : R5.MM c.w c.n tn c.og c.mo c.rg c.m c.D L R I X X) (h0 : RX c rb I X rl last av) (h : RV c rb I X Y rl' last av) (hlg : ∀ x ∈ rl', ∀ k, x.2.2.ownBlock = some k → ∃ y ∈ rl, y.2.2.ownBlock = some k) : RE c rb L R I X Y rl rl' last av av := by
  refine ⟨⟨I, h.1, ?_, fun _ h => h⟩, fun k hI h1 h2 => h.2.block k (hM.ilt hI) h2, h.2.size, fun k e => .inl e, fun x hx k e => .inl (hlg x hx k e)⟩
  have hF : R5.Fr (fun k => c.n ≤ k ∧ I k) X Y := ⟨h.2.os, h.2.tape, h.2.output, h.2.size, fun k hk hn => h.2.block k hk (fun e => hn ⟨(h0.aI k e).2.1, (h0.aI k e).1⟩)⟩
  exact (hM.go hF (fun k hk => .inl hk)).retn
theorem RE.refl (hM : R5.MM c.w c.n tn c.og c.mo c.rg c.m c.D L R I X X) (h0 : RX c rb I X rl last av) (hb : Below X.heap.size X Y) : RE c rb L R I X Y rl rl last av av :=
  RE.of_rv hM h0 ⟨h0.below (fun k hk => hM.ilt hk) hb, R5.Fr.ofBelow hb⟩ (fun x hx k e => ⟨x, hx, e⟩)
theorem lg_upd {r' : Rm} : ∀ x ∈ a ++ (rd, r', lv) :: b, ∀ k, x.2.2.ownBlock = some k → ∃ y ∈ a ++ (rd, r, lv) :: b, y.2.2.ownBlock = some k := fun x hx k e => by
  rcases List.mem_append.1 hx with hx | hx
  · exact ⟨x, by simp [hx], e⟩
  · rcases List.mem_cons.1 hx with rfl | hx
    · exact ⟨(rd, r, lv), by simp, e⟩
    · exact ⟨x, by simp [hx], e⟩
theorem RE.of_rm {rl' : List En} (hM : R5.MM c.w c.n tn c.og c.mo c.rg c.m c.D L R I X X) (h0 : RX c rb I X rl last av) {av' : Value} (hx : RX c rb (fun k => I k ∨ (X.heap.size ≤ k ∧ k < Y.heap.size)) Y rl' last av') (hF : R5.Fr (fun k => k = rb) X Y) (hnw : ∀ k, av'.ownBlock = some k → av.ownBlock = some k ∨ X.heap.size ≤ k) (hlg : ∀ x ∈ rl', ∀ k, x.2.2.ownBlock = some k → ∃ y ∈ rl, y.2.2.ownBlock = some k) : RE c rb L R I X Y rl rl' last av av' := by
  refine ⟨⟨_, hx, ?_, fun _ h => .inl h⟩, fun k hI h1 h2 => hF.block k (hM.ilt hI) h1, hF.size, hnw, fun x hx k e => .inl (hlg x hx k e)⟩
  have hF2 : R5.Fr (fun k => c.n ≤ k ∧ I k) X Y := ⟨hF.os, hF.tape, hF.output, hF.size, fun k hk hn => hF.block k hk (fun e => hn (by rw [e]; exact ⟨h0.fI.2, h0.fI.1⟩))⟩
  exact (hM.go hF2 (fun k hk => hk)).retn
theorem RE.of_ge {av : Value} (hM : R5.MM c.w c.n tn c.og c.mo c.rg c.m c.D L R I X X) {r' : Rm} (h : GE c rb L R' I X Y a b rd r' last av) : ∃ v, RE c rb L R' I X Y (a ++ (rd, r, lv) :: b) (a ++ (rd, r', v) :: b) last av av := by
  obtain ⟨v, h1, h2, h3, h4, h5⟩ := h
  refine ⟨v, ⟨_, h1, h2, fun _ h => .inl h⟩, fun k hI hr ha => h3 k hI ha, h4, fun k e => .inl e, fun x hx k e => ?_⟩
  rcases List.mem_append.1 hx with hx | hx
  · exact .inl ⟨x, by simp [hx], e⟩
  · rcases List.mem_cons.1 hx with rfl | hx
    · exact .inr (h5 k e)
    · exact .inl ⟨x, by simp [hx], e⟩
end
theorem load_mid_g {ops : Array Oper} {rest : List Oper} {o : Oper} {a : Act} {w : World} {Q : Exit → Act → World → Prop} (hw : Region.wanted o (yielded ops a.tmps) = true) (ty : TypeId) (x : Operand) (ho : o.op = .load ty x)
    (b off : Nat) (hx : a.eval x = .pointer (some ⟨b, off, none⟩)) (cs : List Value) (d : TypeDesc) (hc : w.rangeAt b off cs) (hu : Tryz.prog.underlying ty = some d) (hd : d.isRow = true) (hi : (Tryz.prog.info? ty).map (·.size) = some cs.length)
    (h : wpList Tryz.prog ops Q rest (a.put o.dst (.agg cs.toArray)) w) : wpList Tryz.prog ops Q (o :: rest) a w :=
  wpList_step fun K hK => by rw [if_pos hw]; exact wp_load_mid ty x ho b off hx cs d hc hu hd hi (hK _ _ h)
section
variable {c : Cx} {rb tn last : Nat} {L R R' : Lg} {I J : Nat → Prop} {X Y Z T : World} {rl a b : List En} {av : Value} {rd root : Int} {r r' r'' : Rm} {lv : Value}
theorem RE.of_put {v : Value} (h1 : RX c rb (fun k => I k ∨ v.ownBlock = some k) T (a ++ (rd, r', v) :: b) last av) (h2 : R5.MM c.w c.n tn c.og c.mo c.rg c.m c.D L R' (fun k => I k ∨ v.ownBlock = some k) T T) (h3 : ∀ k, I k → av.ownBlock ≠ some k → T.heap[k]? = X.heap[k]?) (h4 : X.heap.size ≤ T.heap.size) (h5 : ∀ k, v.ownBlock = some k → X.heap.size ≤ k)
    (hw : RW c rb (fun k => I k ∨ v.ownBlock = some k) T Y (a ++ (rd, r'', v) :: b) last av) : RE c rb L R' I X Y (a ++ (rd, r, lv) :: b) (a ++ (rd, r'', v) :: b) last av av := by
  obtain ⟨hx, g, hg, hF, hsz⟩ := hw
  refine ⟨⟨_, hx, ?_, fun _ h => .inl h⟩, fun k hI hr ha => ?_, by omega, fun k e => .inl e, fun x hx k e => ?_⟩
  · exact (h2.go (R5.Fr.trans (S := fun k => c.n ≤ k ∧ (I k ∨ v.ownBlock = some k)) (R5.Fr.refl _ _) hF (fun k e => .inl (by rw [e]; exact ⟨(h1.aI g hg).2.1, (h1.aI g hg).1⟩))) (fun k hk => .inl hk)).retn
  · have hkT := h2.ilt (k := k) (.inl hI)
    rw [hF.block k hkT (fun e => ha (by rw [hg, e]))]
    exact h3 k hI ha
  · rcases List.mem_append.1 hx with hx | hx
    · exact .inl ⟨x, by simp [hx], e⟩
    · rcases List.mem_cons.1 hx with rfl | hx
      · exact .inr (h5 k e)
      · exact .inl ⟨x, by simp [hx], e⟩
theorem radd_no (h : RX c rb I X rl last av) (hs : ∀ k, I k → k < X.heap.size) (hn : rl.length < 1000000) (hno : NoRd rl rd) (pc : Nat) (rs : List Nat) (run : Bool) (hrs : rs.length = 8) :
    Calls Tryz.prog 35 #[.pointer (some ⟨rb, 0, none⟩), .int .i64 rd, .agg (PC.rcL pc rs run).toArray] X fun e Y => e = .returned (.int .i64 6) ∧ Below X.heap.size X Y := by
  have hcl := PC.rcL_len pc rs run hrs
  have HPI : Hid _ := PC.info10 (PC.rcL pc rs run) hcl
  have HBK : Hid (∀ W, (Instr.build 69 #[(0, .int .i64 3), (4, .agg (PC.rcL pc rs run).toArray)]).run Tryz.prog W = .ok (.agg (rdL (rec3 pc rs run)).toArray) W) := fun W => build_rd3 W (PC.rcL pc rs run) hcl
  obtain ⟨X1, hX1⟩ : ∃ X1, X1 = X.alloc (.cells (PC.rcL pc rs run).toArray 41 (0, 0)) := ⟨_, rfl⟩
  have hb1 : Below X.heap.size X X1 := by rw [hX1]; exact (Below.refl _ _).alloc (Nat.le_refl _) _
  have hs1 : X1.heap.size = X.heap.size + 1 := by rw [hX1]; simp
  have hbx : X1.heap[X.heap.size]? = some (.cells (PC.rcL pc rs run).toArray 41 (0, 0)) := by rw [hX1]; exact heap_alloc_new _ _
  have HBR : Hid (∀ W, Below X1.heap.size X1 W → W.rangeAt X.heap.size 0 (PC.rcL pc rs run)) := fun W hW => PC.rangeAt_row ((hW.block _ (by omega)).trans hbx)
  have HB1 : Hid _ := hb1
  have HX1 : Hid _ := hX1
  have h1 := h.below hs hb1
  have hs2 : ∀ k, I k → k < X1.heap.size := fun k hk => by have := hs k hk; omega
  have HC : Hid (Calls Tryz.prog 13 #[.pointer (some ⟨rb, 0, none⟩), .int .i64 rd] X1 fun e Y => e = .returned (.int .i64 (-1)) ∧ X1 = Y) := rat_no h1 hn hno
  have HG : Hid (Calls Tryz.prog 73 #[.pointer (some ⟨rb, 0, none⟩), .int .i64 rd, .agg (rdL (rec3 pc rs run)).toArray] X1 fun e Y => e = .returned (.int .i64 6) ∧ RX c rb I Y rl last av ∧ Below X1.heap.size X1 Y) := rgrow_no h1 hs2 hn hno _
  have hbr := HBR.out X1 (Below.refl _ _)
  have HBX : Hid _ := hbr
  rw [hX1] at HC HG HBX
  clear h hs hn hno h1 hs2 hbr hX1 hbx hs1 hb1 HBR hcl hrs
  generalize rdL (rec3 pc rs run) = AL at *
  generalize PC.rcL pc rs run = PL at *
  go_enter Tryz.func35, Tryz.ntmps35
  go_wp2_with fail
  refine Calls.mono HC.out ?_
  rintro e w1 ⟨rfl, rfl⟩
  go_wp2_with (first
    | (refine wpList_load_mid rfl 41 _ rfl X.heap.size 0 rfl PL _ HBX.out Tryz.underlying41 rfl HPI.out ?_)
    | (refine R5.wpList_build rfl 69 _ rfl _ _ (by simp; exact ⟨rfl, rfl⟩) (HBK.out _) ?_))
  refine Calls.mono HG.out ?_
  rintro e w2 ⟨rfl, _, hb2⟩
  have HBE : Hid (Below X.heap.size X w2) := HB1.out.trans (by have := HX1.out; rw [← this] at hb2; exact hb2.mono HB1.out.size)
  clear hb2
  go_wp2
  go_ret
  exact ⟨rfl, HBE.out⟩
theorem radd_st (h : RX c rb I X (a ++ (rd, r, lv) :: b) last av) (hs : ∀ k, I k → k < X.heap.size) (hn : (a ++ (rd, r, lv) :: b).length < 1000000) (hno : NoRd a rd) (hst : r.st ≠ 1) (pc : Nat) (rs : List Nat) (run : Bool) (hrs : rs.length = 8) :
    Calls Tryz.prog 35 #[.pointer (some ⟨rb, 0, none⟩), .int .i64 rd, .agg (PC.rcL pc rs run).toArray] X fun e Y => e = .returned (.int .i64 7) ∧ Below X.heap.size X Y := by
  have hcl := PC.rcL_len pc rs run hrs
  have HPI : Hid _ := PC.info10 (PC.rcL pc rs run) hcl
  have HBK : Hid (∀ W, (Instr.build 69 #[(0, .int .i64 3), (4, .agg (PC.rcL pc rs run).toArray)]).run Tryz.prog W = .ok (.agg (rdL (rec3 pc rs run)).toArray) W) := fun W => build_rd3 W (PC.rcL pc rs run) hcl
  obtain ⟨X1, hX1⟩ : ∃ X1, X1 = X.alloc (.cells (PC.rcL pc rs run).toArray 41 (0, 0)) := ⟨_, rfl⟩
  have hb1 : Below X.heap.size X X1 := by rw [hX1]; exact (Below.refl _ _).alloc (Nat.le_refl _) _
  have hs1 : X1.heap.size = X.heap.size + 1 := by rw [hX1]; simp
  have hbx : X1.heap[X.heap.size]? = some (.cells (PC.rcL pc rs run).toArray 41 (0, 0)) := by rw [hX1]; exact heap_alloc_new _ _
  have HBR : Hid (∀ W, Below X1.heap.size X1 W → W.rangeAt X.heap.size 0 (PC.rcL pc rs run)) := fun W hW => PC.rangeAt_row ((hW.block _ (by omega)).trans hbx)
  have HB1 : Hid _ := hb1
  have HX1 : Hid _ := hX1
  obtain ⟨g, cap, hav⟩ := h.slice
  have h1 := h.below hs hb1
  have hs2 : ∀ k, I k → k < X1.heap.size := fun k hk => by have := hs k hk; omega
  have HC : Hid (Calls Tryz.prog 13 #[.pointer (some ⟨rb, 0, none⟩), .int .i64 rd] X1 fun e Y => e = .returned (.int .i64 (a.length : Int)) ∧ X1 = Y) := rat_is h1 hn hno
  have hc1 := h1.cells.2.1
  rw [hav] at hc1
  have hlt : a.length < (a ++ (rd, r, lv) :: b).length := by simp
  have hg2 := h1.get hav 2 (by decide)
  replace hg2 : X1.cell? ⟨g, a.length * 104 + 2, none⟩ = some (.int .i64 r.st) := hg2
  have hbr := HBR.out X1 (Below.refl _ _)
  have HBX : Hid _ := hbr
  have HG : Hid (Calls Tryz.prog 73 #[.pointer (some ⟨rb, 0, none⟩), .int .i64 rd, .agg (rdL (rec3 pc rs run)).toArray] X1 fun e Y => e = .returned (.int .i64 7) ∧ RX c rb I Y (a ++ (rd, r, lv) :: b) last av ∧ Below X1.heap.size X1 Y) := rgrow_st h1 hs2 hn hno hst _
  have hne : (r.st == 1) = false := by rw [beq_eq_false_iff_ne]; exact hst
  rw [hX1] at HC HG HBX hc1 hg2
  clear h hs h1 hs2 hbr hX1 hbx hs1 hb1 HBR hcl hrs hno hst
  obtain ⟨Kk, hKk⟩ : ∃ Kk, Kk = a.length := ⟨_, rfl⟩
  obtain ⟨Nn, hNn⟩ : ∃ Nn, Nn = (a ++ (rd, r, lv) :: b).length := ⟨_, rfl⟩
  rw [← hNn] at hc1 hlt hn
  rw [← hKk] at hlt HC hg2
  have hneg : (0 : Int) ≤ (Kk : Int) := by omega
  have hltI : (Kk : Int) < (Nn : Int) := by omega
  clear hav hKk hNn
  generalize rdL (rec3 pc rs run) = AL at *
  generalize PC.rcL pc rs run = PL at *
  generalize r.st = ST at hg2 hne
  go_enter Tryz.func35, Tryz.ntmps35
  go_wp2_with fail
  refine Calls.mono HC.out ?_
  rintro e w1 ⟨rfl, rfl⟩
  go_wp2_with (first
    | (refine wpList_load_mid rfl 41 _ rfl X.heap.size 0 rfl PL _ HBX.out Tryz.underlying41 rfl HPI.out ?_)
    | (refine R5.wpList_build rfl 69 _ rfl _ _ (by simp; exact ⟨rfl, rfl⟩) (HBK.out _) ?_))
  refine Calls.mono HG.out ?_
  rintro e w2 ⟨rfl, _, hb2⟩
  have HBE : Hid (Below X.heap.size X w2) := HB1.out.trans (by have := HX1.out; rw [← this] at hb2; exact hb2.mono HB1.out.size)
  clear hb2
  go_wp2
  go_ret
  exact ⟨rfl, HBE.out⟩
theorem radd_bad (h : RX c rb I X (a ++ (rd, r, lv) :: b) last av) (hs : ∀ k, I k → k < X.heap.size) (hn : (a ++ (rd, r, lv) :: b).length < 1000000) (hno : NoRd a rd) (hst : r.st = 1) (pc : Nat) (rs : List Nat) (run : Bool) (hrs : rs.length = 8) (hmay : PC.mayC pc = false) :
    Calls Tryz.prog 35 #[.pointer (some ⟨rb, 0, none⟩), .int .i64 rd, .agg (PC.rcL pc rs run).toArray] X fun e Y => e = .returned (.int .i64 2) ∧ Below X.heap.size X Y := by
  have hcl := PC.rcL_len pc rs run hrs
  have HPI : Hid _ := PC.info10 (PC.rcL pc rs run) hcl
  have HBK : Hid (∀ W, (Instr.build 69 #[(0, .int .i64 3), (4, .agg (PC.rcL pc rs run).toArray)]).run Tryz.prog W = .ok (.agg (rdL (rec3 pc rs run)).toArray) W) := fun W => build_rd3 W (PC.rcL pc rs run) hcl
  obtain ⟨X1, hX1⟩ : ∃ X1, X1 = X.alloc (.cells (PC.rcL pc rs run).toArray 41 (0, 0)) := ⟨_, rfl⟩
  have hb1 : Below X.heap.size X X1 := by rw [hX1]; exact (Below.refl _ _).alloc (Nat.le_refl _) _
  have hs1 : X1.heap.size = X.heap.size + 1 := by rw [hX1]; simp
  have hbx : X1.heap[X.heap.size]? = some (.cells (PC.rcL pc rs run).toArray 41 (0, 0)) := by rw [hX1]; exact heap_alloc_new _ _
  have HBR : Hid (∀ W, Below X1.heap.size X1 W → W.rangeAt X.heap.size 0 (PC.rcL pc rs run)) := fun W hW => PC.rangeAt_row ((hW.block _ (by omega)).trans hbx)
  have HB1 : Hid _ := hb1
  have HX1 : Hid _ := hX1
  obtain ⟨g, cap, hav⟩ := h.slice
  have h1 := h.below hs hb1
  have hs2 : ∀ k, I k → k < X1.heap.size := fun k hk => by have := hs k hk; omega
  have HC : Hid (Calls Tryz.prog 13 #[.pointer (some ⟨rb, 0, none⟩), .int .i64 rd] X1 fun e Y => e = .returned (.int .i64 (a.length : Int)) ∧ X1 = Y) := rat_is h1 hn hno
  have hc1 := h1.cells.2.1
  rw [hav] at hc1
  have hlt : a.length < (a ++ (rd, r, lv) :: b).length := by simp
  have hg2 := h1.get hav 2 (by decide)
  replace hg2 : X1.cell? ⟨g, a.length * 104 + 2, none⟩ = some (.int .i64 r.st) := hg2
  have hbr := HBR.out X1 (Below.refl _ _)
  have HBX : Hid _ := hbr
  have HMC : Hid (∀ W, Calls Tryz.prog 74 #[.agg (PC.rcL pc rs run).toArray] W fun e w' => e = .returned (.bool false) ∧ Below W.heap.size W w') := fun W => by rw [← hmay]; exact PC.rmayC_any pc rs run W
  rw [hst] at hg2
  rw [hX1] at HC HBX hc1 hg2
  clear h hs h1 hs2 hbr hX1 hbx hs1 hb1 HBR hcl hrs hno hst HBK hmay
  obtain ⟨Kk, hKk⟩ : ∃ Kk, Kk = a.length := ⟨_, rfl⟩
  obtain ⟨Nn, hNn⟩ : ∃ Nn, Nn = (a ++ (rd, r, lv) :: b).length := ⟨_, rfl⟩
  rw [← hNn] at hc1 hlt hn
  rw [← hKk] at hlt HC hg2
  have hneg : (0 : Int) ≤ (Kk : Int) := by omega
  have hltI : (Kk : Int) < (Nn : Int) := by omega
  clear hav hKk hNn
  generalize PC.rcL pc rs run = PL at *
  go_enter Tryz.func35, Tryz.ntmps35
  go_wp2_with fail
  refine Calls.mono HC.out ?_
  rintro e w1 ⟨rfl, rfl⟩
  go_wp2_with (refine load_mid_g (by rfl) 41 _ rfl X.heap.size 0 rfl PL _ HBX.out Tryz.underlying41 rfl HPI.out ?_)
  refine Calls.mono (HMC.out _) ?_
  rintro e w2 ⟨rfl, hb2⟩
  have HBE : Hid (Below X.heap.size X w2) := HB1.out.trans (by have := HX1.out; rw [← this] at hb2; exact hb2.mono HB1.out.size)
  clear hb2
  go_wp2
  go_ret
  exact ⟨rfl, HBE.out⟩
def addR (c : Cx) (L : Lg) (r : Rm) (pc : Nat) (rs : List Nat) (run : Bool) : Rm := { r with meas := (R5.nx c.D L ⟨1, Z0, 3, r.meas ++ PC.cbL pc rs run⟩).1, log := r.log ++ [rec3 pc rs run], recs := r.recs + 1 }
def addL (c : Cx) (L : Lg) (r : Rm) (pc : Nat) (rs : List Nat) (run : Bool) : Lg := (R5.nx c.D L ⟨1, Z0, 3, r.meas ++ PC.cbL pc rs run⟩).2
theorem radd_ok (h : RX c rb I X (a ++ (rd, r, lv) :: b) last av) (hM : R5.MM c.w c.n tn c.og c.mo c.rg c.m c.D L R I X X) (hn : (a ++ (rd, r, lv) :: b).length < 1000000) (hno : NoRd a rd) (hst : r.st = 1) (pc : Nat) (rs : List Nat) (run : Bool) (hrs : rs.length = 8) (hpc : pc < 18446744073709551616) (hrx : ∀ x ∈ rs, x < 18446744073709551616) (hmay : PC.mayC pc = true) (hL : R.length < 1000000) (hlog : r.log.length < 100000) (hlne : r.log ≠ []) (hrec : r.recs < 1000000) (hAl : ∀ q, (R5.nx c.D R q).1.length = 32) :
    Calls Tryz.prog 35 #[.pointer (some ⟨rb, 0, none⟩), .int .i64 rd, .agg (PC.rcL pc rs run).toArray] X fun e Y => e = .returned (.int .i64 0) ∧ ∃ v, RE c rb L (addL c R r pc rs run) I X Y (a ++ (rd, r, lv) :: b) (a ++ (rd, addR c R r pc rs run, v) :: b) last av av := by
  have hs : ∀ k, I k → k < X.heap.size := fun k hk => hM.ilt hk
  have hcl := PC.rcL_len pc rs run hrs
  have HPI : Hid _ := PC.info10 (PC.rcL pc rs run) hcl
  have HBK : Hid (∀ W, (Instr.build 69 #[(0, .int .i64 3), (4, .agg (PC.rcL pc rs run).toArray)]).run Tryz.prog W = .ok (.agg (rdL (rec3 pc rs run)).toArray) W) := fun W => build_rd3 W (PC.rcL pc rs run) hcl
  obtain ⟨X1, hX1⟩ : ∃ X1, X1 = X.alloc (.cells (PC.rcL pc rs run).toArray 41 (0, 0)) := ⟨_, rfl⟩
  have hb1 : Below X.heap.size X X1 := by rw [hX1]; exact (Below.refl _ _).alloc (Nat.le_refl _) _
  have hs1 : X1.heap.size = X.heap.size + 1 := by rw [hX1]; simp
  have hbx : X1.heap[X.heap.size]? = some (.cells (PC.rcL pc rs run).toArray 41 (0, 0)) := by rw [hX1]; exact heap_alloc_new _ _
  have HBR : Hid (∀ W, Below X1.heap.size X1 W → W.rangeAt X.heap.size 0 (PC.rcL pc rs run)) := fun W hW => PC.rangeAt_row ((hW.block _ (by omega)).trans hbx)
  have HB1 : Hid _ := hb1
  have HX1 : Hid _ := hX1
  obtain ⟨g, cap, hav⟩ := h.slice
  have h1 := h.below hs hb1
  have hs2 : ∀ k, I k → k < X1.heap.size := fun k hk => by have := hs k hk; omega
  have HC : Hid (Calls Tryz.prog 13 #[.pointer (some ⟨rb, 0, none⟩), .int .i64 rd] X1 fun e Y => e = .returned (.int .i64 (a.length : Int)) ∧ X1 = Y) := rat_is h1 hn hno
  have hc1 := h1.cells.2.1
  rw [hav] at hc1
  have hlt : a.length < (a ++ (rd, r, lv) :: b).length := by simp
  have hg2 := h1.get hav 2 (by decide)
  replace hg2 : X1.cell? ⟨g, a.length * 104 + 2, none⟩ = some (.int .i64 r.st) := hg2
  have hbr := HBR.out X1 (Below.refl _ _)
  have HBX : Hid _ := hbr
  have HMC : Hid (∀ W, Calls Tryz.prog 74 #[.agg (PC.rcL pc rs run).toArray] W fun e w' => e = .returned (.bool true) ∧ Below W.heap.size W w') := fun W => by rw [← hmay]; exact PC.rmayC_any pc rs run W
  rw [hst] at hg2
  have hok := h.ok _ (show (rd, r, lv) ∈ a ++ (rd, r, lv) :: b by simp)
  obtain ⟨NX, hNX⟩ : ∃ NX, NX = R5.nx c.D R ⟨1, Z0, 3, r.meas ++ PC.cbL pc rs run⟩ := ⟨_, rfl⟩
  have hN32 : NX.1.length = 32 := by rw [hNX]; exact hAl _
  have HG : Hid (∀ W, Below X1.heap.size X1 W → Calls Tryz.prog 73 #[.pointer (some ⟨rb, 0, none⟩), .int .i64 rd, .agg (rdL (rec3 pc rs run)).toArray] W fun e Y => e = .returned (.int .i64 0) ∧ GE c rb L NX.2 I W Y a b rd { r with meas := NX.1, log := r.log ++ [rec3 pc rs run] } last av) := fun W hW => by
    have hXW : Below X.heap.size X W := hb1.trans (hW.mono (by omega))
    refine rgrow_ok (h.below hs hXW) ((hM.step hXW).fix) hn hno hst (rec3 pc rs run) (rec3_ok pc run hrs) hlog hlne NX hN32 (fun V J hMV hcV hJ => ?_)
    have := rms3 hMV hcV hJ hL r.meas hok.m (rec3 pc rs run) (rec3_ok pc run hrs) rfl hpc hrx (hAl _)
    rw [hNX]
    exact this
  have HFR : Hid (∀ W, Below X1.heap.size X1 W → ∀ k, I k → W.heap[k]? = X.heap[k]?) := fun W hW k hk => (hW.block k (hs2 k hk)).trans (hb1.block k (hs k hk))
  have HSZ : Hid (∀ W, Below X1.heap.size X1 W → X.heap.size ≤ W.heap.size) := fun W hW => by have := hW.size; omega
  have HAD : Hid (({ ({ r with meas := NX.1, log := r.log ++ [rec3 pc rs run] } : Rm) with recs := r.recs + 1 } : Rm) = addR c R r pc rs run ∧ NX.2 = addL c R r pc rs run) := ⟨by rw [hNX]; rfl, by rw [hNX]; rfl⟩
  have hNOK : (({ r with meas := NX.1, log := r.log ++ [rec3 pc rs run] } : Rm)).ok := ⟨hN32, hok.k, hok.t, fun x hx => by
    rcases List.mem_append.1 hx with hx | hx
    · exact hok.l x hx
    · rw [List.mem_singleton.1 hx]; exact rec3_ok pc run hrs⟩
  obtain ⟨r1, hr1⟩ : ∃ r1 : Rm, r1 = { r with meas := NX.1, log := r.log ++ [rec3 pc rs run] } := ⟨_, rfl⟩
  rw [← hr1] at HG HAD hNOK
  have hrc : r1.recs = r.recs := by rw [hr1]
  have HNO : Hid _ := hno
  have HN : Hid _ := hn
  have HB0 : Hid (Below X1.heap.size X1 X1) := Below.refl _ _
  rw [hX1] at HC HBX hc1 hg2
  clear h hs h1 hs2 hbr hbx hs1 hb1 HBR hcl hrs hno hst hmay hM hNX hr1 hok
  obtain ⟨Kk, hKk⟩ : ∃ Kk, Kk = a.length := ⟨_, rfl⟩
  obtain ⟨Nn, hNn⟩ : ∃ Nn, Nn = (a ++ (rd, r, lv) :: b).length := ⟨_, rfl⟩
  rw [← hNn] at hc1 hlt hn
  rw [← hKk] at hlt HC hg2
  have hneg : (0 : Int) ≤ (Kk : Int) := by omega
  have hltI : (Kk : Int) < (Nn : Int) := by omega
  clear hav hKk hNn
  generalize rdL (rec3 pc rs run) = AL at *
  generalize PC.rcL pc rs run = PL at *
  go_enter Tryz.func35, Tryz.ntmps35
  go_wp2_with fail
  refine Calls.mono HC.out ?_
  rintro e w1 ⟨rfl, rfl⟩
  go_wp2_with (refine load_mid_g (by rfl) 41 _ rfl X.heap.size 0 rfl PL _ HBX.out Tryz.underlying41 rfl HPI.out ?_)
  refine Calls.mono (HMC.out _) ?_
  rintro e w2 ⟨rfl, hb2⟩
  have HBX2 : Hid (w2.rangeAt X.heap.size 0 PL) := R5.rangeAt_below HBX.out hb2
  rw [← hX1] at hb2
  have HB2 : Hid (Below X1.heap.size X1 w2) := hb2
  clear hb2 HC hc1 hg2 HMC hX1 HBX
  go_wp2_with (first
    | (refine wpList_load_mid rfl 41 _ rfl X.heap.size 0 rfl PL _ HBX2.out Tryz.underlying41 rfl HPI.out ?_)
    | (refine R5.wpList_build rfl 69 _ rfl _ _ (by simp; exact ⟨rfl, rfl⟩) (HBK.out _) ?_))
  refine Calls.mono (HG.out w2 HB2.out) ?_
  rintro e T ⟨rfl, v, g1, g2, g3, g4, g5⟩
  go_upto_region 7 with fail
  have hbD : Below T.heap.size T T.drew := (Below.refl _ _).drew
  have hTI : ∀ k, (I k ∨ v.ownBlock = some k) → k < T.heap.size := fun k hk => g2.ilt hk
  have gD := g1.below hTI hbD
  obtain ⟨gg, cp, hav2⟩ := gD.slice
  have hcA := gD.cells.2.1
  rw [hav2] at hcA
  have HCA : Hid (T.drew.cell? ⟨rb, 1, none⟩ = some (.slice (some ⟨gg, 0, none⟩) (a ++ (rd, r1, v) :: b).length cp)) := hcA
  have HAT : Hid (Calls Tryz.prog 13 #[.pointer (some ⟨rb, 0, none⟩), .int .i64 rd] T.drew fun e Y => e = .returned (.int .i64 (a.length : Int)) ∧ T.drew = Y) := rat_is gD (by simpa using HN.out) HNO.out
  have hc103 := gD.get hav2 103 (by decide)
  have e103 : (itL (rd, r1, v))[103]? = some (.int .i64 (r.recs : Int)) := by show (rmL r1 v)[102]? = _; rw [rmL_102 hNOK v, hrc]
  rw [e103] at hc103
  have HC103 : Hid _ := hc103
  have HF103 : Hid _ := gD.frz hav2 (a.length * 104 + 103)
  have hput := gD.put hav2 103 (by decide) (.int .i64 ((r.recs + 1 : Nat) : Int)) { r1 with recs := r.recs + 1 } ⟨hNOK.m, hNOK.k, hNOK.t, hNOK.l⟩ rfl (itL_set103 hNOK (r.recs + 1))
  have hE := RE.of_put (X := X) (lv := lv) (r := r) gD (g2.step hbD).fix (fun k hI ha => by
    rw [hbD.block k (hTI k (.inl hI)), g3 k hI ha]; exact HFR.out w2 HB2.out k hI) (by have := hbD.size; have := HSZ.out w2 HB2.out; omega) (fun k e => by have := g5 k e; have := HSZ.out w2 HB2.out; omega) hput
  rw [HAD.out.1, HAD.out.2] at hE
  have HE : Hid _ := hE
  have HNG : Hid (gg ≠ rb) := (gD.aI gg (by rw [hav2]; rfl)).2.2
  obtain ⟨M, hMM⟩ : ∃ M, M = r.recs := ⟨_, rfl⟩
  rw [← hMM] at HC103 HE hrec
  have hwM : IntKind.i64.wrap ((M : Int) + 1) = ((M + 1 : Nat) : Int) := by rw [IntKind.wrap_i64]; omega
  have hL1 : a.length < (a ++ (rd, r1, v) :: b).length := by simp
  obtain ⟨Kk, hKk⟩ : ∃ Kk, Kk = a.length := ⟨_, rfl⟩
  obtain ⟨Nn, hNn⟩ : ∃ Nn, Nn = (a ++ (rd, r1, v) :: b).length := ⟨_, rfl⟩
  rw [← hNn] at HCA hL1
  rw [← hKk] at HAT HC103 HF103 HE hL1
  have hneg2 : ¬ (Kk : Int) < 0 := by omega
  have hlt2 : (Kk : Int) < (Nn : Int) := by omega
  clear gD g1 g2 g3 g4 g5 hput hE hc103 hcA hav2 hTI hbD e103 hMM hKk hNn HFR HSZ HG HAD
  refine wp_region_held_drew (S := fun W => W.cell? ⟨rb, 1, none⟩ = some (.slice (some ⟨gg, 0, none⟩) Nn cp)) (by kernel_rfl) HCA.out (fun hHeld => ?_)
  generalize T.drew = U at *
  refine qzI 0 ⟨some 38, .move (.tmp 0), 27, _, #[], none⟩ (.pointer (some ⟨rb, 0, none⟩)) rfl (by kernel_rfl) (fun _ _ _ h => h) (by rfl) (fun w' hw' => ?_) hHeld ?_
  · go_simp <;> rfl
  try simp only [Act.put, qT, q0, qS]
  refine qzI 1 ⟨some 39, .nilCheck (.tmp 38), 0, _, #[⟨0, .data⟩], none⟩ (.pointer (some ⟨rb, 0, none⟩)) rfl (by kernel_rfl) (fun _ _ _ h => h) (by rfl) (fun w' hw' => ?_) hHeld ?_
  · go_simp <;> rfl
  try simp only [Act.put, qT, q0, qS]
  refine qzI 2 ⟨some 40, .fieldAddr 58 (.tmp 39) 1, 0, _, #[⟨1, .data⟩], none⟩ (.pointer (some ⟨rb, 1, none⟩)) rfl (by kernel_rfl) (fun _ _ _ h => h) (by rfl) (fun w' hw' => ?_) hHeld ?_
  · go_simp <;> rfl
  try simp only [Act.put, qT, q0, qS]
  refine qzI 3 ⟨some 41, .load 56 (.tmp 40), 56, _, #[⟨2, .data⟩], none⟩ (.slice (some ⟨gg, 0, none⟩) Nn cp) rfl (by kernel_rfl) (fun _ _ _ h => h) (by rfl) (fun w' hw' => ?_) hHeld ?_
  · have hq := hw'; go_simp <;> rfl
  try simp only [Act.put, qT, q0, qS]
  refine qzI 4 ⟨some 42, .move (.tmp 0), 27, _, #[], none⟩ (.pointer (some ⟨rb, 0, none⟩)) rfl (by kernel_rfl) (fun _ _ _ h => h) (by rfl) (fun w' hw' => ?_) hHeld ?_
  · go_simp <;> rfl
  try simp only [Act.put, qT, q0, qS]
  refine qzI 5 ⟨some 43, .move (.tmp 1), 3, _, #[], none⟩ (.int .i64 rd) rfl (by kernel_rfl) (fun _ _ _ h => h) (by rfl) (fun w' hw' => ?_) hHeld ?_
  · go_simp <;> rfl
  try simp only [Act.put, qT, q0, qS]
  refine qzR 6 ⟨some 44, .call ⟨.value (.func 13), #[.tmp 42, .tmp 43], #[27, 3]⟩, 3, _, #[⟨4, .data⟩, ⟨5, .data⟩], none⟩ (by kernel_rfl) rfl (by rfl) (fun K hK => ?_)
  go_wp2_with fail
  refine Calls.mono HAT.out ?_
  rintro e w3 ⟨rfl, rfl⟩
  refine hK.out _ _ hHeld (fun _ => ?_)
  clear hK K
  try simp only [Act.put, qT, q0, qS]
  refine qzI 7 ⟨some 45, .indexAddr 56 (.tmp 41) (.tmp 44), 0, _, #[⟨3, .data⟩, ⟨6, .data⟩], none⟩ (.pointer (some ⟨gg, Kk * 104, none⟩)) rfl (by kernel_rfl) (fun _ _ _ h => h) (by rfl) (fun w' hw' => ?_) hHeld ?_
  · go_simp <;> rfl
  try simp only [Act.put, qT, q0, qS]
  refine qzI 8 ⟨some 46, .fieldAddr 54 (.tmp 45) 1, 0, _, #[⟨7, .data⟩], none⟩ (.pointer (some ⟨gg, Kk * 104 + 1, none⟩)) rfl (by kernel_rfl) (fun _ _ _ h => h) (by rfl) (fun w' hw' => ?_) hHeld ?_
  · go_simp <;> rfl
  try simp only [Act.put, qT, q0, qS]
  refine qzI 9 ⟨some 47, .fieldAddr 47 (.tmp 46) 9, 0, _, #[⟨8, .data⟩], none⟩ (.pointer (some ⟨gg, Kk * 104 + 103, none⟩)) rfl (by kernel_rfl) (fun _ _ _ h => h) (by rfl) (fun w' hw' => ?_) hHeld ?_
  · go_simp <;> rfl
  try simp only [Act.put, qT, q0, qS]
  refine qzR 10 ⟨some 48, .load 3 (.tmp 47), 3, _, #[⟨9, .data⟩], none⟩ (by kernel_rfl) rfl (by rfl) (fun K hK => ?_)
  have hcc := HC103.out
  go_wp2_with fail
  refine hK.out _ _ hHeld (fun _ => ?_)
  clear hK K
  try simp only [Act.put, qT, q0, qS]
  refine qzI 11 ⟨some 49, .binOp .add 3 (.tmp 48) (.const (Go.Value.int Go.IntKind.i64 1)) 3, 3, _, #[⟨10, .data⟩], none⟩ (.int .i64 ((M + 1 : Nat) : Int)) rfl (by kernel_rfl) (fun _ _ _ h => h) (by rfl) (fun w' hw' => ?_) hHeld ?_
  · go_simp <;> rfl
  try simp only [Act.put, qT, q0, qS]
  refine qzI 12 ⟨some 50, .indexAddr 56 (.tmp 41) (.tmp 44), 0, _, #[⟨3, .data⟩, ⟨6, .data⟩, ⟨0, .phase⟩, ⟨1, .phase⟩, ⟨2, .phase⟩, ⟨3, .phase⟩, ⟨4, .phase⟩, ⟨5, .phase⟩, ⟨6, .phase⟩, ⟨7, .phase⟩, ⟨8, .phase⟩, ⟨9, .phase⟩, ⟨10, .phase⟩, ⟨11, .phase⟩], none⟩ (.pointer (some ⟨gg, Kk * 104, none⟩)) rfl (by kernel_rfl) (fun _ _ _ h => h) (by rfl) (fun w' hw' => ?_) hHeld ?_
  · go_simp <;> rfl
  try simp only [Act.put, qT, q0, qS]
  refine qzI 13 ⟨some 51, .fieldAddr 54 (.tmp 50) 1, 0, _, #[⟨12, .data⟩, ⟨0, .phase⟩, ⟨1, .phase⟩, ⟨2, .phase⟩, ⟨3, .phase⟩, ⟨4, .phase⟩, ⟨5, .phase⟩, ⟨6, .phase⟩, ⟨7, .phase⟩, ⟨8, .phase⟩, ⟨9, .phase⟩, ⟨10, .phase⟩, ⟨11, .phase⟩], none⟩ (.pointer (some ⟨gg, Kk * 104 + 1, none⟩)) rfl (by kernel_rfl) (fun _ _ _ h => h) (by rfl) (fun w' hw' => ?_) hHeld ?_
  · go_simp <;> rfl
  try simp only [Act.put, qT, q0, qS]
  refine qzI 14 ⟨some 52, .fieldAddr 47 (.tmp 51) 9, 0, _, #[⟨13, .data⟩, ⟨0, .phase⟩, ⟨1, .phase⟩, ⟨2, .phase⟩, ⟨3, .phase⟩, ⟨4, .phase⟩, ⟨5, .phase⟩, ⟨6, .phase⟩, ⟨7, .phase⟩, ⟨8, .phase⟩, ⟨9, .phase⟩, ⟨10, .phase⟩, ⟨11, .phase⟩], none⟩ (.pointer (some ⟨gg, Kk * 104 + 103, none⟩)) rfl (by kernel_rfl) (fun _ _ _ h => h) (by rfl) (fun w' hw' => ?_) hHeld ?_
  · go_simp <;> rfl
  try simp only [Act.put, qT, q0, qS]
  refine qzR 15 ⟨none, .store 3 (.tmp 52) (.tmp 49), 0, _, #[⟨14, .data⟩, ⟨11, .data⟩, ⟨6, .chain⟩, ⟨0, .phase⟩, ⟨1, .phase⟩, ⟨2, .phase⟩, ⟨3, .phase⟩, ⟨4, .phase⟩, ⟨5, .phase⟩, ⟨6, .phase⟩, ⟨7, .phase⟩, ⟨8, .phase⟩, ⟨9, .phase⟩, ⟨10, .phase⟩, ⟨11, .phase⟩], none⟩ (by kernel_rfl) rfl (by rfl) (fun K hK => ?_)
  have hff := HF103.out
  go_wp2_with fail
  have hHeld2 : (U.setCell ⟨gg, Kk * 104 + 103, none⟩ (.int .i64 ((M + 1 : Nat) : Int))).cell? ⟨rb, 1, none⟩ = some (.slice (some ⟨gg, 0, none⟩) Nn cp) := by
    rw [World.cell?_of_block (w := U) (a := ⟨rb, 1, none⟩) (heap_setCell_other _ _ _ _ (by show rb ≠ gg; exact HNG.out.symm))]; exact hHeld
  refine hK.out _ _ hHeld2 (fun _ => ?_)
  clear hK K
  try simp only [Act.put, qT, q0, qS]
  refine wpAnyH_done (by kernel_rfl) ?_ _
  clear hHeld hHeld2 hcc hff
  go_wp2
  go_ret
  exact ⟨rfl, v, HE.out⟩
end
end Go.Proofs.YtekbppfocnbhbaaGreat.XC
