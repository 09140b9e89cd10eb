/- cpu: the document's Program. -/
import Derived.Test.YtkpjfhphohanlaaGreatDoorNP
import Derived.Test.YtkpjfhphohanlaaGreatDoorLW
import Derived.Test.YtkpjfhphohanlaaGreatDoorLZ
set_option linter.unusedVariables false
set_option linter.unusedSimpArgs false
namespace Go.Proofs.YtkpjfhphohanlaaGreatDoor.JC
open Go.RowKit
open Go.Proofs.YtkpjfhphohanlaaGreatDoor.EC (row_lt heap_at rangeAt_below rangeAt_row ret_bool ret_i64 beq_int)

theorem runtext_any (s : List UInt8) (w : World) (hG : GV w) : Calls Tryz.prog 19 #[sV s] w fun e w' => e = .returned (rdRes (unt s)) ∧ Below w.heap.size w w' := by
  by_cases h : s.length ≤ 60
  · exact runtext_short s h w hG
  · exact runtext_long s (by omega) w
theorem gd_snoc : ∀ {l : List (List UInt8)} (x : List UInt8) {i : Ins}, okL l = true → unt x = some i → gd (l ++ [x]) = gd l ++ [wrd i] ∧ okL (l ++ [x]) = true
  | [], x, i, _, hu => ⟨by show (match unt x with | some i => wrd i :: gd [] | none => []) = _; rw [hu]; rfl, by unfold okL; simp [hu]⟩
  | y :: l, x, i, h, hu => by
    have h2 := h
    unfold okL at h2
    simp only [List.all_cons, Bool.and_eq_true] at h2
    obtain ⟨j, hj⟩ := Option.isSome_iff_exists.1 h2.1
    obtain ⟨e1, e2⟩ := gd_snoc (l := l) x h2.2 hu
    constructor
    · show (match unt y with | some i => wrd i :: gd (l ++ [x]) | none => []) = (match unt y with | some i => wrd i :: gd l | none => []) ++ [wrd i]
      rw [hj, e1]; rfl
    · unfold okL at e2 ⊢
      rw [List.cons_append, List.all_cons, e2, h2.1]; rfl
theorem gd_stop : ∀ {l : List (List UInt8)} (x : List UInt8) (r : List (List UInt8)), okL l = true → unt x = none → gd (l ++ x :: r) = gd l ∧ okL (l ++ x :: r) = false
  | [], x, r, _, hu => ⟨by show (match unt x with | some i => wrd i :: gd r | none => []) = _; rw [hu]; rfl, by unfold okL; simp [hu]⟩
  | y :: l, x, r, h, hu => by
    have h2 := h
    unfold okL at h2
    simp only [List.all_cons, Bool.and_eq_true] at h2
    obtain ⟨j, hj⟩ := Option.isSome_iff_exists.1 h2.1
    obtain ⟨e1, e2⟩ := gd_stop (l := l) x r h2.2 hu
    constructor
    · show (match unt y with | some i => wrd i :: gd (l ++ x :: r) | none => []) = (match unt y with | some i => wrd i :: gd l | none => [])
      rw [hj, e1]
    · unfold okL at e2 ⊢
      rw [List.cons_append, List.all_cons, e2, h2.1]; rfl
theorem gd_le : ∀ l : List (List UInt8), (gd l).length ≤ l.length
  | [] => Nat.le_refl _
  | x :: l => by
    show (match unt x with | some i => wrd i :: gd l | none => []).length ≤ _
    cases unt x with
    | none => simp
    | some i => have := gd_le l; simp; exact this
theorem gd_u64 : ∀ l : List (List UInt8), ∀ x ∈ gd l, u64 x
  | [], x, h => absurd h (by simp [gd])
  | y :: l, x, h => by
    have h1 : x ∈ (match unt y with | some i => wrd i :: gd l | none => []) := h
    cases hy : unt y with
    | none => rw [hy] at h1; exact absurd h1 (by simp)
    | some i =>
      rw [hy] at h1
      rcases List.mem_cons.1 h1 with rfl | h1
      · have hm := (unt_some hy).1
        have e := wrd_eq hm
        obtain ⟨m1, m2, m3, m4, m5, m6, m7, m8, m9, m10⟩ := may_bd hm
        constructor <;> omega
      · exact gd_u64 l x h1
/-- What both answer of a text. -/
def pgR (s : List UInt8) : List Int × Int × Int := if 512 < (lns s).length then ([], 0, 3) else if okL (lns s) then (gd (lns s), 0, 0) else ([], ((gd (lns s)).length : Int), 4)
theorem pgR_len (s : List UInt8) : (pgR s).1.length ≤ 512 := by
  unfold pgR
  split
  · simp
  · next h =>
    split
    · have := gd_le (lns s); simp; omega
    · simp
theorem pgR_u (s : List UInt8) : ∀ x ∈ (pgR s).1, u64 x := by
  unfold pgR
  split
  · simp
  · split
    · exact gd_u64 _
    · simp
theorem PgEnd.one {base : Nat} {s : List UInt8} {w : World} {e : Ending} (h : PgEnd base s w e) : ∃ v, e = .returned (.tuple #[v, .int .i64 (pgR s).2.1, .int .i64 (pgR s).2.2]) ∧ FU base w v (pgR s).1 := by
  unfold pgR
  by_cases hb : 512 < (lns s).length
  · rw [if_pos hb]
    exact ⟨_, h.big hb, rfl, .inl ⟨rfl, rfl⟩⟩
  · rw [if_neg hb]
    cases ho : okL (lns s) with
    | true => rw [if_pos rfl]; exact h.ok (by omega) ho
    | false => rw [if_neg (by simp)]; exact ⟨_, h.bad (by omega) ho, rfl, .inl ⟨rfl, rfl⟩⟩
/-- How far lines are read. -/
structure PR (L : List (List UInt8)) (k : Nat) (D : List Int) : Prop where
  o : okL (L.take k) = true
  g : D = gd (L.take k)
theorem pr_step {L : List (List UInt8)} {k : Nat} {D : List Int} {i : Ins} (h : PR L k D) (hk : k < L.length) (hu : unt (L.getD k []) = some i) : PR L (k + 1) (D ++ [wrd i]) := by
  rw [List.getD, List.getElem?_eq_getElem hk] at hu
  obtain ⟨e1, e2⟩ := gd_snoc L[k] h.o hu
  rw [← List.take_succ_eq_append_getElem hk] at e1 e2
  exact ⟨e2, by rw [e1, h.g]⟩
theorem pr_len {L : List (List UInt8)} {k : Nat} {D : List Int} (h : PR L k D) (hk : k ≤ L.length) : D.length = k := by rw [h.g, gd_len h.o]; simp; omega
theorem pr_bad {L : List (List UInt8)} {k : Nat} {D : List Int} (h : PR L k D) (hk : k < L.length) (hu : unt (L.getD k []) = none) : gd L = D ∧ okL L = false := by
  rw [List.getD, List.getElem?_eq_getElem hk] at hu
  have e : L = L.take k ++ L[k] :: L.drop (k + 1) := by rw [← List.drop_eq_getElem_cons hk, List.take_append_drop]
  obtain ⟨e1, e2⟩ := gd_stop L[k] (L.drop (k + 1)) h.o hu
  rw [← e] at e1 e2
  exact ⟨by rw [e1, h.g], e2⟩
theorem pr_end {L : List (List UInt8)} {D : List Int} (h : PR L L.length D) : gd L = D ∧ okL L = true := by
  have o := h.o
  have g := h.g
  rw [List.take_length] at o g
  exact ⟨g.symm, o⟩
theorem fs_get {base : Nat} {w : World} {v : Value} {ls : List (List UInt8)} (h : FSt base w v ls) : ∃ p cap, v = .slice p ls.length cap ∧ ls.length ≤ cap ∧ ∀ k, k < ls.length → ∃ g, p = some ⟨g, 0, none⟩ ∧ w.cell? ⟨g, k, none⟩ = some (sV (ls.getD k [])) := by
  have hh := h
  rcases h.2 with ⟨h2, h1⟩ | ⟨g, cap, cur, hv, hg, hh2, hc, _⟩
  · have hz : ls.length = 0 := h1
    exact ⟨none, 0, by rw [h2, hz], by omega, fun k hk => by omega⟩
  · subst hv
    exact ⟨_, cap, rfl, hc, fun k hk => ⟨g, rfl, fs_at hh rfl k hk⟩⟩
theorem FU.mono {b c : Nat} {w : World} {v : Value} {ls : List Int} (h : FU b w v ls) (hb : c ≤ b) : FU c w v ls := by
  obtain ⟨h1, h2⟩ := h
  refine ⟨h1, ?_⟩
  rcases h2 with h2 | ⟨g, cap, cur, hv, hg, hh, r⟩
  · exact .inl h2
  · exact .inr ⟨g, cap, cur, hv, Nat.le_trans hb hg, hh, r⟩
set_option maxHeartbeats 1000000 in
set_option maxRecDepth 100000 in
theorem rprog_any (s : List UInt8) (hs : s.length ≤ 1000000) (w : World) (hG : GV w) : Calls Tryz.prog 6 #[sV s] w fun e w' => PgEnd w.heap.size s w' e ∧ Below w.heap.size w w' := by
  have hLN := fun W => rlines_any s hs W
  have HGV : Hid (∀ W, Below w.heap.size w W → GV W) := fun W hW => hG.below hW
  unfold sV at hLN ⊢
  obtain ⟨L, hL⟩ : ∃ L, L = lns s := ⟨_, rfl⟩
  rw [← hL] at hLN
  have HLE : Hid (lns s = L) := hL.symm
  obtain ⟨ZI, hZI⟩ : ∃ ZI : List Value, ZI = iL iZ := ⟨_, rfl⟩
  have hzi : ∀ W, (zeroValue 41).run Tryz.prog W = .ok (.agg ZI.toArray) W := fun W => by rw [hZI]; exact ins_zero W
  have HII : Hid (∀ L : List Value, L.length = 5 → (Tryz.prog.info? 41).map (·.size) = some L.toArray.size) := fun L h => by rw [List.size_toArray, h]; exact ins_info iZ
  have HII2 : Hid (∀ L : List Value, L.length = 5 → (Tryz.prog.info? 41).map (·.size) = some L.length) := fun L h => by rw [h]; exact ins_info iZ
  have HZN : Hid (ZI.length = 5) := by rw [hZI]; rfl
  have HZ1 : Hid (ZI.toArray.all (·.oneCell') = true) := by show _ = _; rw [hZI]; exact iL_one _
  have HZA : Hid _ := hZI
  clear hL hG hZI
  go_enter Tryz.func6, Tryz.ntmps6
  go_wp2_with fail
  refine Calls.mono (hLN _) ?_
  rintro e X0 ⟨lv, rfl, hf, hb⟩
  clear hLN
  obtain ⟨p, cap, rfl, hcap, hrow⟩ := fs_get hf
  have HB0 : Hid (Below w.heap.size w X0) := hb
  have HC : Hid (∀ X, Below X0.heap.size X0 X → ∀ k, k < L.length → ∃ g, p = some ⟨g, 0, none⟩ ∧ X.cell? ⟨g, k, none⟩ = some (sV (L.getD k []))) := fun X hX k hk => by
    obtain ⟨g, hg, hc⟩ := hrow k hk
    exact ⟨g, hg, (hX.cell (block_lt hc)).trans hc⟩
  clear hf hb hrow
  by_cases hbig : 512 < L.length
  · have hbi : (512 : Int) < L.length := by omega
    go_wp2
    try rw [Exit.noGoto_ret]
    go_ret3
    exact ⟨⟨fun _ => rfl, fun h => absurd h (by rw [HLE.out]; omega), fun h => absurd h (by rw [HLE.out]; omega)⟩, HB0.out⟩
  · have hbi : ¬ (512 : Int) < L.length := by omega
    go_wp2
    go_loopw [6, 7] (fun v i wr => ∃ (k : Nat) (D : List Int), i = .int .i64 k ∧ k ≤ L.length ∧ PR L k D ∧ FU X0.heap.size wr v D ∧ Below X0.heap.size X0 wr) (fun _ i _ => L.length - (intOf i).toNat)
    case atStart => exact ⟨0, [], rfl, by omega, ⟨rfl, rfl⟩, ⟨rfl, .inl ⟨rfl, rfl⟩⟩, Below.refl _ _⟩
    case round =>
      obtain ⟨k, D, rfl, hk, hP, hF, hb⟩ := hrel
      have HF : Hid (FU X0.heap.size wr u6 D) := hF
      have HB : Hid (Below X0.heap.size X0 wr) := hb
      have hDL : D.length = k := pr_len hP hk
      have hsz0 := hb.size
      by_cases hlt : k < L.length
      · have HP : Hid _ := hP
        obtain ⟨g, rfl, hc⟩ := HC.out _ hb k hlt
        have hki : (k : Int) < L.length := by omega
        have hU := fun W (hW : GV W) => runtext_any (L.getD k []) W hW
        have HU : Hid (unt (L.getD k []) = unt (L.getD k [])) := rfl
        clear hP hF hb
        generalize sV (L.getD k []) = TX at *
        go_wp2_with fail
        refine Calls.mono (hU _ (HGV.out _ (HB0.out.trans (HB.out.mono HB0.out.size)))) ?_
        rintro e X1 ⟨rfl, hb1⟩
        clear hU
        have HB2 : Hid _ := HB.out.trans (hb1.mono HB.out.size)
        have HF2 : Hid (FU X0.heap.size X1 u6 D) := FU.below HF.out hb1
        clear hb1 HB HF hc
        have HQ : Hid ((X1.alloc (.cells ZI.toArray 41 (0, 0))).heap[X1.heap.size]? = some (.cells ZI.toArray 41 (0, 0))) := heap_alloc_new _ _
        cases hu : unt (L.getD k []) with
        | none =>
          obtain ⟨hg, ho⟩ := pr_bad HP.out hlt hu
          have HE : Hid (∀ W, PgEnd w.heap.size s W (.returned (.tuple #[.slice none 0 0, .int .i64 (k : Int), .int .i64 4]))) := fun W => by
            have := pg_no (base := w.heap.size) (s := s) (W := W) (D := D) (by rw [HLE.out]; omega) (by rw [HLE.out]; exact hg) (by rw [HLE.out]; exact ho)
            rw [hDL] at this
            exact this
          have hIR : rdRes none = .tuple #[.agg (iL iZ).toArray, .bool false] := rfl
          rw [hIR]
          have HZ5 : Hid ((iL iZ).toArray = ZI.toArray) := by show _ = _; rw [HZA.out]
          rw [HZ5.out]
          clear hg ho hu hIR HP HF2
          go_upto_region 9 with (refine wpList_strL rfl 41 _ _ rfl X1.heap.size ZI.toArray rfl rfl 41 ZI.toArray HQ.out (HII.out ZI HZN.out) rfl HZ1.out ?_; intro Y eZ; have eY : Hid _ := eZ; clear eZ)
          obtain ⟨pY, rY⟩ := put_row X1 ZI ZI 41
          rw [← eY.out] at pY rY
          have HBY : Hid (Below X0.heap.size X0 Y) := HB2.out.trans (pY.mono HB2.out.size)
          clear eY pY rY HQ HB2
          go_wp2
          try rw [Exit.noGoto_ret]
          go_ret3
          exact ⟨HE.out _, HB0.out.trans (HBY.out.mono HB0.out.size)⟩
        | some i =>
          have hm := (unt_some hu).1
          have HPS : Hid _ := pr_step HP.out hlt hu
          have hE := fun W => renc_ok i hm W
          have hIR : rdRes (some i) = .tuple #[.agg (iL i).toArray, .bool true] := rfl
          rw [hIR]
          rw [show iV i = .agg (iL i).toArray from rfl] at hE
          have HLN : Hid ((iL i).length = 5) := rfl
          have HL1 : Hid ((iL i).toArray.all (·.oneCell') = true) := iL_one i
          clear hu hIR hm HP
          generalize iL i = IL at *
          generalize wrd i = WD at *
          go_upto_region 9 with (refine wpList_strL rfl 41 _ _ rfl X1.heap.size IL.toArray rfl rfl 41 ZI.toArray HQ.out (HII.out IL HLN.out) (by simp [HZN.out, HLN.out]) HL1.out ?_; intro Y eZ; have eY : Hid _ := eZ; clear eZ)
          obtain ⟨pY, rY⟩ := put_row X1 ZI IL 41
          rw [← eY.out] at pY rY
          have HBY : Hid (Below X0.heap.size X0 Y) := HB2.out.trans (pY.mono HB2.out.size)
          have HFY : Hid (FU X0.heap.size Y u6 D) := FU.below HF2.out pY
          have HRY : Hid _ := rY
          clear eY pY rY HQ HB2 HF2
          go_wp2_with (refine wpList_load_mid rfl 41 _ rfl X1.heap.size 0 rfl IL _ (rangeAt_row HRY.out) Tryz.underlying41 rfl (HII2.out IL HLN.out) ?_)
          refine Calls.mono (hE _) ?_
          rintro e X3 ⟨rfl, hb3⟩
          have HB3 : Hid _ := HBY.out.trans (hb3.mono HBY.out.size)
          have HF3 : Hid (FU X0.heap.size X3 u6 D) := FU.below HFY.out hb3
          have hsz := HB3.out.size
          clear hb3 HBY HFY HRY hE
          go_wp2_with (at_builtin; refine wpList_appU rfl (.tmp 32) (.tmp 35) rfl X0.heap.size _ D WD rfl rfl HF3.out (by omega) hsz ?_; intro g3 cap3 w3 hf3 hgr3)
          exact ⟨⟨k + 1, D ++ [WD], by go_num, by omega, HPS.out, by rw [hDL] at hf3; exact hf3, (HB3.out.alloc hsz _).grown hgr3 (by simp; omega) (fun j hj => (World.ownsRow.lt HF3.out j hj).1)⟩, by first | (simp [intOf]; done) | (simp [intOf]; omega)⟩
      · have hke : k = L.length := by omega
        subst hke
        obtain ⟨hg, ho⟩ := pr_end hP
        have hki : ¬ (L.length : Int) < L.length := by omega
        have HE : Hid (PgEnd w.heap.size s wr (.returned (.tuple #[u6, .int .i64 0, .int .i64 0]))) := ⟨fun h => absurd h (by rw [HLE.out]; omega), fun _ _ => ⟨_, rfl, by rw [HLE.out, hg]; exact FU.mono HF.out HB0.out.size⟩, fun _ h => by rw [HLE.out, ho] at h; cases h⟩
        clear hP hF hb hg ho
        go_wp2
        try rw [Exit.noGoto_ret]
        go_ret3
        exact ⟨HE.out, HB0.out.trans (HB.out.mono HB0.out.size)⟩
end Go.Proofs.YtkpjfhphohanlaaGreatDoor.JC
