/- realm: the reference's Create, where it refuses; its acts, as one form. -/
import Derived.Test.YtekbppfocnbhbaaGreatRb
set_option linter.unusedVariables false
set_option linter.unusedSimpArgs false
namespace Go.Proofs.YtekbppfocnbhbaaGreat.XC
open Go.RowKit

section
variable {c : Cx} {rb tn last : Nat} {L R R' : Lg} {I J : Nat → Prop} {X Y Z : World} {rl a b : List En} {av : Value} {rd root : Int} {r : Rm} {lv : Value}
set_option maxHeartbeats 1000000 in
set_option maxRecDepth 100000 in
theorem rcr_arg (p0 : Value) (ha : rd < 0 ∨ root < 0) (PA TA : Array Value) :
    Calls Tryz.prog 17 #[p0, .int .i64 rd, .int .i64 root, .agg PA, .agg TA] X fun e Y => e = .returned (.tuple #[.agg (rmL zR (.slice none 0 0)).toArray, .int .i64 2]) ∧ Below X.heap.size X Y := by
  have hz := fun W => zero_rm W
  have HBZ : Hid (∀ W, (Instr.build 47 #[]).run Tryz.prog W = .ok (.agg (rmL zR (.slice none 0 0)).toArray) W) := build_zrm
  obtain ⟨ZL, hZL⟩ : ∃ L, L = rmL zR (.slice none 0 0) := ⟨_, rfl⟩
  rw [← hZL] at hz HBZ ⊢
  have HZN : Hid (ZL.length = 103) := by show _ = _; rw [hZL]; exact rmL_len zR_ok _
  have HZS : Hid (ZL.toArray.size = 103) := by show _ = _; simpa using HZN.out
  have HZ1 : Hid (ZL.toArray.all (·.oneCell') = true) := by show _ = _; rw [hZL]; exact PC.onea (rmL_one _ _ rfl)
  have HZI : Hid ((Tryz.prog.info? 47).map (·.size) = some ZL.toArray.size) := info103a _ HZS.out
  obtain ⟨X3, hX3⟩ : ∃ X3, X3 = ((X.alloc (.cells PA 36 (0, 0))).alloc (.cells TA 33 (0, 0))).alloc (.cells ZL.toArray 47 (0, 0)) := ⟨_, rfl⟩
  obtain ⟨hb3, hs3, _, _, hr2⟩ := alloc_three X PA TA ZL.toArray _ _ _ X3 hX3
  have HB3 : Hid _ := hb3
  have HS2 : Hid (X3.heap[X.heap.size + 1 + 1]? = some (.cells ZL.toArray 47 (0, 0))) := hr2
  have HX3 : Hid _ := hX3
  rw [hX3] at HS2
  clear hZL hb3 hs3 hr2 hX3
  by_cases h0 : rd < 0
  · clear ha
    go_enter Tryz.func17, Tryz.ntmps17
    go_wp2_with (first
      | (refine PC.wpList_build rfl 47 _ rfl #[] (.agg ZL.toArray) (by simp) (HBZ.out _) ?_)
      | (refine wpList_store_row rfl 47 _ _ rfl (X.heap.size + 1 + 1) ZL.toArray rfl rfl 47 ZL.toArray HS2.out HZI.out rfl HZ1.out ?_))
    refine bodyPost_ret (v := .tuple #[.agg ZL.toArray, .int .i64 2]) ?_ rfl ⟨rfl, by rw [← HX3.out]; exact below_setRow HB3.out (by omega) _⟩
    exact PC.results2 Tryz.results17 _ _ (X.heap.size + 1 + 1) 47 _ (0, 0) _ rfl rfl (setRow_heap _ _ _ _ _ _ HS2.out) Tryz.underlying47 rfl (info103 _ HZN.out)
  · have h1 : root < 0 := ha.resolve_left h0
    clear ha
    go_enter Tryz.func17, Tryz.ntmps17
    go_wp2_with (first
      | (refine PC.wpList_build rfl 47 _ rfl #[] (.agg ZL.toArray) (by simp) (HBZ.out _) ?_)
      | (refine wpList_store_row rfl 47 _ _ rfl (X.heap.size + 1 + 1) ZL.toArray rfl rfl 47 ZL.toArray HS2.out HZI.out rfl HZ1.out ?_))
    refine bodyPost_ret (v := .tuple #[.agg ZL.toArray, .int .i64 2]) ?_ rfl ⟨rfl, by rw [← HX3.out]; exact below_setRow HB3.out (by omega) _⟩
    exact PC.results2 Tryz.results17 _ _ (X.heap.size + 1 + 1) 47 _ (0, 0) _ rfl rfl (setRow_heap _ _ _ _ _ _ HS2.out) Tryz.underlying47 rfl (info103 _ HZN.out)
set_option maxHeartbeats 1000000 in
set_option maxRecDepth 100000 in
theorem rcr_st (h : RX c rb I X (a ++ (rd, r, lv) :: b) last av) (hs : ∀ k, I k → k < X.heap.size) (hn : (a ++ (rd, r, lv) :: b).length < 1000000) (hno : NoRd a rd) (h0 : ¬ rd < 0) (h1 : ¬ root < 0) (PA TA : Array Value) :
    Calls Tryz.prog 17 #[.pointer (some ⟨rb, 0, none⟩), .int .i64 rd, .int .i64 root, .agg PA, .agg TA] X fun e Y => e = .returned (.tuple #[.agg (rmL zR (.slice none 0 0)).toArray, .int .i64 7]) ∧ Below X.heap.size X Y := by
  have hz := fun W => zero_rm W
  have HBZ : Hid (∀ W, (Instr.build 47 #[]).run Tryz.prog W = .ok (.agg (rmL zR (.slice none 0 0)).toArray) W) := build_zrm
  obtain ⟨ZL, hZL⟩ : ∃ L, L = rmL zR (.slice none 0 0) := ⟨_, rfl⟩
  rw [← hZL] at hz HBZ ⊢
  have HZN : Hid (ZL.length = 103) := by show _ = _; rw [hZL]; exact rmL_len zR_ok _
  have HZS : Hid (ZL.toArray.size = 103) := by show _ = _; simpa using HZN.out
  have HZ1 : Hid (ZL.toArray.all (·.oneCell') = true) := by show _ = _; rw [hZL]; exact PC.onea (rmL_one _ _ rfl)
  have HZI : Hid ((Tryz.prog.info? 47).map (·.size) = some ZL.toArray.size) := info103a _ HZS.out
  obtain ⟨X3, hX3⟩ : ∃ X3, X3 = ((X.alloc (.cells PA 36 (0, 0))).alloc (.cells TA 33 (0, 0))).alloc (.cells ZL.toArray 47 (0, 0)) := ⟨_, rfl⟩
  obtain ⟨hb3, hs3, _, _, hr2⟩ := alloc_three X PA TA ZL.toArray _ _ _ X3 hX3
  have HB3 : Hid _ := hb3
  have HS2 : Hid (X3.heap[X.heap.size + 1 + 1]? = some (.cells ZL.toArray 47 (0, 0))) := hr2
  have HX3 : Hid _ := hX3
  have HC : Hid (Calls Tryz.prog 13 #[.pointer (some ⟨rb, 0, none⟩), .int .i64 rd] X3 fun e Y => e = .returned (.int .i64 (a.length : Int)) ∧ X3 = Y) := rat_is (h.below hs hb3) hn hno
  rw [hX3] at HS2 HC
  have hge : (0 : Int) ≤ (a.length : Int) := by omega
  clear hZL hb3 hs3 hr2 hX3 h hs hn hno
  generalize (a.length : Int) = K at *
  go_enter Tryz.func17, Tryz.ntmps17
  go_wp2_with fail
  refine Calls.mono HC.out ?_
  rintro e w1 ⟨rfl, rfl⟩
  clear HC
  go_wp2_with (first
    | (refine PC.wpList_build rfl 47 _ rfl #[] (.agg ZL.toArray) (by simp) (HBZ.out _) ?_)
    | (refine wpList_store_row rfl 47 _ _ rfl (X.heap.size + 1 + 1) ZL.toArray rfl rfl 47 ZL.toArray HS2.out HZI.out rfl HZ1.out ?_))
  refine bodyPost_ret (v := .tuple #[.agg ZL.toArray, .int .i64 7]) ?_ rfl ⟨rfl, by rw [← HX3.out]; exact below_setRow HB3.out (by omega) _⟩
  exact PC.results2 Tryz.results17 _ _ (X.heap.size + 1 + 1) 47 _ (0, 0) _ rfl rfl (setRow_heap _ _ _ _ _ _ HS2.out) Tryz.underlying47 rfl (info103 _ HZN.out)
theorem RE.of_rv {rl' : List En} (hM : R5.MM c.w c.n tn c.og c.mo c.rg c.m c.D L R I X X) (h0 : RX c rb I X rl last av) (h : RV c rb I X Y rl' last av) (hlg : ∀ x ∈ rl', ∀ k, x.2.2.ownBlock = some k → ∃ y ∈ rl, y.2.2.ownBlock = some k) : RE c rb L R I X Y rl rl' last av av := by
  refine ⟨⟨I, h.1, ?_, fun _ h => h⟩, fun k hI h1 h2 => h.2.block k (hM.ilt hI) h2, h.2.size, fun k e => .inl e, fun x hx k e => .inl (hlg x hx k e)⟩
  have hF : R5.Fr (fun k => c.n ≤ k ∧ I k) X Y := ⟨h.2.os, h.2.tape, h.2.output, h.2.size, fun k hk hn => h.2.block k hk (fun e => hn ⟨(h0.aI k e).2.1, (h0.aI k e).1⟩)⟩
  exact (hM.go hF (fun k hk => .inl hk)).retn
theorem RE.refl (hM : R5.MM c.w c.n tn c.og c.mo c.rg c.m c.D L R I X X) (h0 : RX c rb I X rl last av) (hb : Below X.heap.size X Y) : RE c rb L R I X Y rl rl last av av :=
  RE.of_rv hM h0 ⟨h0.below (fun k hk => hM.ilt hk) hb, R5.Fr.ofBelow hb⟩ (fun x hx k e => ⟨x, hx, e⟩)
theorem lg_upd {r' : Rm} : ∀ x ∈ a ++ (rd, r', lv) :: b, ∀ k, x.2.2.ownBlock = some k → ∃ y ∈ a ++ (rd, r, lv) :: b, y.2.2.ownBlock = some k := fun x hx k e => by
  rcases List.mem_append.1 hx with hx | hx
  · exact ⟨x, by simp [hx], e⟩
  · rcases List.mem_cons.1 hx with rfl | hx
    · exact ⟨(rd, r, lv), by simp, e⟩
    · exact ⟨x, by simp [hx], e⟩
theorem RE.of_rm {rl' : List En} (hM : R5.MM c.w c.n tn c.og c.mo c.rg c.m c.D L R I X X) (h0 : RX c rb I X rl last av) {av' : Value} (hx : RX c rb (fun k => I k ∨ (X.heap.size ≤ k ∧ k < Y.heap.size)) Y rl' last av') (hF : R5.Fr (fun k => k = rb) X Y) (hnw : ∀ k, av'.ownBlock = some k → av.ownBlock = some k ∨ X.heap.size ≤ k) (hlg : ∀ x ∈ rl', ∀ k, x.2.2.ownBlock = some k → ∃ y ∈ rl, y.2.2.ownBlock = some k) : RE c rb L R I X Y rl rl' last av av' := by
  refine ⟨⟨_, hx, ?_, fun _ h => .inl h⟩, fun k hI h1 h2 => hF.block k (hM.ilt hI) h1, hF.size, hnw, fun x hx k e => .inl (hlg x hx k e)⟩
  have hF2 : R5.Fr (fun k => c.n ≤ k ∧ I k) X Y := ⟨hF.os, hF.tape, hF.output, hF.size, fun k hk hn => hF.block k hk (fun e => hn (by rw [e]; exact ⟨h0.fI.2, h0.fI.1⟩))⟩
  exact (hM.go hF2 (fun k hk => hk)).retn
theorem RE.of_ge {av : Value} (hM : R5.MM c.w c.n tn c.og c.mo c.rg c.m c.D L R I X X) {r' : Rm} (h : GE c rb L R' I X Y a b rd r' last av) : ∃ v, RE c rb L R' I X Y (a ++ (rd, r, lv) :: b) (a ++ (rd, r', v) :: b) last av av := by
  obtain ⟨v, h1, h2, h3, h4, h5⟩ := h
  refine ⟨v, ⟨_, h1, h2, fun _ h => .inl h⟩, fun k hI hr ha => h3 k hI ha, h4, fun k e => .inl e, fun x hx k e => ?_⟩
  rcases List.mem_append.1 hx with hx | hx
  · exact .inl ⟨x, by simp [hx], e⟩
  · rcases List.mem_cons.1 hx with rfl | hx
    · exact .inr (h5 k e)
    · exact .inl ⟨x, by simp [hx], e⟩
end
end Go.Proofs.YtekbppfocnbhbaaGreat.XC
