import Derived.Test.YtekbppfocnbhbaaGreatPM
set_option linter.unusedVariables false
set_option linter.unusedSimpArgs false
set_option maxHeartbeats 16000000
set_option maxRecDepth 100000
namespace Go.Proofs.YtekbppfocnbhbaaGreat.PC
open Go.RowKit
theorem wpList_app1 {ops : Array Oper} {rest : List Oper} {o : Oper} {a : Act} {Q : Exit → Act → World → Prop} {W : World} {cv : Value} (hgd : o.guard = none) (s x : Operand) (ho : o.op = .call { callee := .builtin .append, args := #[s, x], argTypes := #[106, 106] })
    (base : Nat) (v : Value) (l : List UInt8) (c : UInt8) (hcv : cv = B8 c) (hs : a.eval s = v) (hx : a.eval x = .slice (some ⟨W.heap.size, 0, none⟩) 1 1) (hown : FB base W v l) (hl : l.length ≤ 2199023255552) (hbase : base ≤ W.heap.size)
    (h : ∀ g cap w', FB base w' (.slice (some ⟨g, 0, none⟩) (l.length + 1) cap) (l ++ [c]) → (W.alloc (.cells #[cv] 5)).grownBy w' v.ownBlock → (v.ownBlock = some g ∨ g = W.heap.size + 1) → g < w'.heap.size → wpList Tryz.prog ops Q rest (a.put o.dst (.slice (some ⟨g, 0, none⟩) (l.length + 1) cap)) w') :
    wpList Tryz.prog ops Q (o :: rest) a (W.alloc (.cells #[cv] 5)) := by
  obtain ⟨i0, hi, hz0, hz1, hz2⟩ := info_parts Tryz.infoU8
  refine wpList_append_lies _ hgd s x 106 ho base 5 i0 (.int .u8 0) 1 1 Tryz.underlying106 hi hz0 hz1 hz2 rfl (by decide) v _ _ hs (World.ownsRow.alloc hown _) ⟨W.heap.size, 0, none⟩ 1 1 [cv] hx rfl (by exact cell_one_new _ _ _) (by intro u hu; simp at hu; subst hu; rw [hcv]; rfl) (by decide) (by unfold maxLen; omega) (by omega) (by simp; omega) (W.heap.size + 1) (by simp) ?_
  intro g cap w' h1 h2 h3 h4
  refine h g cap w' ?_ h2 h3 h4
  unfold FB
  rw [List.length_append, List.map_append, List.map_cons, List.map_nil, ← hcv]
  exact h1
theorem fb_ge {base : Nat} {w : World} {v : Value} {l : List UInt8} (h : FB base w v l) : ∀ k, v.ownBlock = some k → base ≤ k ∧ k < w.heap.size := fun k hk => by
  rcases h.2 with ⟨h1, _⟩ | ⟨g, cap, cur, h1, h2, h3, _⟩
  · rw [h1] at hk; cases hk
  · rw [h1] at hk
    simp only [Value.ownBlock, Option.some.injEq] at hk
    subst hk
    exact ⟨h2, (Array.getElem?_eq_some_iff.1 h3).1⟩
theorem le_snoc (k n : Nat) : W1.le (k + 1) n = W1.le k n ++ [UInt8.ofNat (n / 256 ^ k % 256)] := by
  apply List.ext_getElem?
  intro i
  rcases Nat.lt_trichotomy i k with h | h | h
  · rw [List.getElem?_append_left (by rw [W1.le_length]; exact h), W1.le_get _ _ _ (by omega), W1.le_get _ _ _ h]
  · subst h
    rw [List.getElem?_append_right (by rw [W1.le_length]; exact Nat.le_refl _), W1.le_get _ _ _ (by omega), W1.le_length]
    simp
  · rw [List.getElem?_eq_none (by rw [W1.le_length]; omega), List.getElem?_eq_none (by simp [W1.le_length]; omega)]
theorem refPut_any (n size : Nat) (w : World) (hn : n < 18446744073709551616) (hs : size ≤ 8) :
    Calls Tryz.prog 103 #[.int .u64 (n : Int), .int .i64 (size : Int)] w fun e w' => ∃ v, e = .returned v ∧ FB w.heap.size w' v (W1.le size n) ∧ Below w.heap.size w w' := by
  go_enter Tryz.func103, Tryz.ntmps103
  go_wp2
  go_loopw [0, 5, 6] (fun m v i wr => ∃ k : Nat, k ≤ size ∧ m = .int .u64 ((n / 256 ^ k : Nat) : Int) ∧ i = .int .i64 k ∧ FB w.heap.size wr v (W1.le k n) ∧ Below w.heap.size w wr) (fun _ _ i _ => size - (intOf i).toNat)
  case atStart => exact ⟨0, Nat.zero_le _, by simp, rfl, World.ownsRow_nil _ _ _ _, Below.refl _ _⟩
  case round =>
    obtain ⟨k, hk, rfl, rfl, hown, hbel⟩ := hrel
    have hsz := hbel.size
    by_cases hlt : k < size
    · obtain ⟨q, hq⟩ : ∃ q, q = n / 256 ^ k := ⟨_, rfl⟩
      have hqn : q < 18446744073709551616 := by rw [hq]; exact Nat.lt_of_le_of_lt (Nat.div_le_self _ _) hn
      obtain ⟨c, hc⟩ : ∃ c, c = UInt8.ofNat (n / 256 ^ k % 256) := ⟨_, rfl⟩
      obtain ⟨r, hr⟩ : ∃ r, r = n / 256 ^ (k + 1) := ⟨_, rfl⟩
      have hdiv : (q : Int) / 256 = (r : Int) := by
        have : q / 256 = r := by rw [hq, hr, Nat.div_div_eq_div_mul, Nat.pow_succ]
        omega
      have hmod : (q : Int) % 256 = (c.toNat : Int) := by
        have : c.toNat = q % 256 := by rw [hc, ← hq]; show _ % 256 = _; omega
        omega
      have hcm : (c.toNat : Int) % 256 = (c.toNat : Int) := by have := c.toNat_lt; omega
      have HL : Hid _ := le_snoc k n
      have HC : Hid _ := hc
      have HR : Hid _ := hr
      have hll : (W1.le k n).length = k := W1.le_length _ _
      have HLL : Hid _ := hll
      have HO : Hid _ := hown
      rw [← hq]
      clear hq hc hr hown
      generalize W1.le k n = L at *
      go_wp2_with (at_builtin; refine wpList_app1 rfl (.tmp 12) (.tmp 16) rfl w.heap.size _ L c rfl rfl rfl HO.out (by omega) hsz ?_; intro g3 cap3 w3 hf3 hgr3 hg3 hlt3)
      go_roundw
      case rel =>
        refine ⟨k + 1, by omega, by rw [← HR.out], by go_num, ?_, (hbel.alloc hsz _).grown hgr3 (by simp; omega) (fun j hj => (fb_ge HO.out j hj).1)⟩
        rw [HL.out, ← HC.out]
        rw [HLL.out] at hf3
        exact hf3
      case measure => simp [intOf]; omega
    · have hks : k = size := by omega
      rw [hks] at hown
      clear hks
      go_wp2
      go_ret
      exact ⟨_, rfl, hown, hbel⟩
theorem refWord_any (n : Nat) (w : World) (hn : n < 18446744073709551616) :
    Calls Tryz.prog 83 #[.int .u64 (n : Int)] w fun e w' => ∃ v, e = .returned v ∧ FB w.heap.size w' v (W1.le 8 n) ∧ Below w.heap.size w w' := by
  have HP : Hid (Calls Tryz.prog 103 #[.int .u64 (n : Int), .int .i64 (8 : Int)] w fun e w' => ∃ v, e = .returned v ∧ FB w.heap.size w' v (W1.le 8 n) ∧ Below w.heap.size w w') := refPut_any n 8 w hn (by decide)
  go_enter Tryz.func83, Tryz.ntmps83
  go_wp2_with fail
  refine Calls.mono HP.out ?_
  rintro e w1 ⟨v, rfl, hf, hb⟩
  have HF : Hid _ := hf
  clear hf HP
  go_wp2
  go_ret
  exact ⟨_, rfl, HF.out, hb⟩
theorem wpList_appHB {ops : Array Oper} {rest : List Oper} {o : Oper} {a : Act} {Q : Exit → Act → World → Prop} {w : World} (hgd : o.guard = none) (s x : Operand) (ho : o.op = .call { callee := .builtin .append, args := #[s, x], argTypes := #[106, 106] })
    (base : Nat) (v u : Value) (l b : List UInt8) (hs : a.eval s = v) (hx : a.eval x = u) (hown : FB base w v l) (hb : HB w u b) (hl : l.length + b.length ≤ 2199023255552) (hbase : base ≤ w.heap.size)
    (h : ∀ v' w', FB base w' v' (l ++ b) → w.grownBy w' v.ownBlock → wpList Tryz.prog ops Q rest (a.put o.dst v') w') : wpList Tryz.prog ops Q (o :: rest) a w := by
  obtain ⟨i0, hi, hz0, hz1, hz2⟩ := info_parts Tryz.infoU8
  obtain ⟨p, cp, rfl, hpn, hpc⟩ := hb_cells hb
  cases p with
  | none =>
    obtain ⟨rfl, rfl⟩ := hpn rfl
    refine wpList_append_own_none hgd s x 106 ho base 5 i0 1 Tryz.underlying106 hi v _ _ hs hown hx ?_
    exact h v w (by rw [List.append_nil]; exact hown) ⟨rfl, rfl, rfl, Nat.le_refl _, fun _ _ _ => rfl⟩
  | some ad =>
    refine wpList_append_own w hgd s x 106 ho base 5 i0 (.int .u8 0) 1 1 Tryz.underlying106 hi hz0 hz1 hz2 rfl (by decide) v _ _ hs hown ad b.length cp (b.map B8) hx (by simp) (hpc ad rfl) (B8_one b) (by unfold maxLen; omega) (by omega) hbase ?_
    intro v' w' h1 h2 _
    refine h v' w' ?_ h2
    unfold FB
    rw [List.length_append, List.map_append]
    exact h1
theorem flat_take (ls : List (List UInt8)) (k : Nat) (h : k < ls.length) : (ls.take (k + 1)).flatten = (ls.take k).flatten ++ ls.getD k [] := by
  rw [List.take_succ_eq_append_getElem h, List.flatten_append]
  simp [List.getD, List.getElem?_eq_getElem h]
theorem flat_le (ls : List (List UInt8)) (k : Nat) : (ls.take k).flatten.length ≤ ls.flatten.length := by
  have h : (ls.take k ++ ls.drop k).flatten = ls.flatten := by rw [List.take_append_drop]
  rw [← h, List.flatten_append, List.length_append]; omega
def HL (w : World) (g : Nat) (ls : List (List UInt8)) : Prop := ∀ i, i < ls.length → ∃ u, w.cell? ⟨g, i, none⟩ = some u ∧ HB w u (ls.getD i [])
theorem HL.below {w w' : World} {g : Nat} {ls : List (List UInt8)} (h : HL w g ls) (hb : Below w.heap.size w w') : HL w' g ls := fun i hi => by
  obtain ⟨u, h1, h2⟩ := h i hi
  exact ⟨u, (hb.cell (block_lt h1)).trans h1, h2.below hb⟩
theorem fb_form {base : Nat} {w : World} {v : Value} {l : List UInt8} (h : FB base w v l) : ∃ p cap, v = .slice p l.length cap := by
  rcases h.2 with ⟨h1, h2⟩ | ⟨g, cap, cur, h1, _⟩
  · exact ⟨none, 0, by rw [h1, h2]⟩
  · exact ⟨_, cap, h1⟩
theorem refJoin_any (g cap : Nat) (ls : List (List UInt8)) (w : World) (hl : ls.length ≤ 1048576) (hr : ls.flatten.length ≤ 1099511627776) (hc : HL w g ls) :
    Calls Tryz.prog 104 #[.slice (some ⟨g, 0, none⟩) ls.length cap] w fun e w' => ∃ v, e = .returned v ∧ FB w.heap.size w' v ls.flatten ∧ Below w.heap.size w w' := by
  have HC : Hid (HL w g ls) := hc
  clear hc
  go_enter Tryz.func104, Tryz.ntmps104
  go_wp2
  go_loopw [3, 4] (fun v i wr => ∃ k : Nat, k ≤ ls.length ∧ i = .int .i64 k ∧ FB w.heap.size wr v (ls.take k).flatten ∧ Below w.heap.size w wr) (fun _ i _ => ls.length - (intOf i).toNat)
  case atStart => exact ⟨0, Nat.zero_le _, rfl, World.ownsRow_nil _ _ _ _, Below.refl _ _⟩
  case round =>
    obtain ⟨k, hk, rfl, hown, hbel⟩ := hrel
    have hsz := hbel.size
    by_cases hlt : k < ls.length
    · obtain ⟨u, hu, hbu⟩ := HC.out k hlt
      have hu' : wr.cell? ⟨g, k, none⟩ = some u := (hbel.cell (block_lt hu)).trans hu
      have HBU : Hid _ := hbu.below hbel
      have hft := flat_take ls k hlt
      have hle := flat_le ls (k + 1)
      rw [hft, List.length_append] at hle
      have HFT : Hid _ := hft
      have HO : Hid _ := hown
      clear hft hbu hu hown
      generalize ls.getD k [] = l at *
      generalize (ls.take k).flatten = pl at *
      obtain ⟨pu, cu, eu, _, _⟩ := hb_cells HBU.out
      subst eu
      obtain ⟨p3, c3, e3⟩ := fb_form HO.out
      subst e3
      go_wp2_with (at_builtin; refine wpList_appHB rfl (.tmp 11) (.tmp 15) rfl w.heap.size _ _ pl l rfl rfl HO.out HBU.out (by omega) hsz ?_; intro v1 w1 hown1 hgr1)
      have hb1 : Below w.heap.size w w1 := hbel.grown hgr1 hsz (fun j hj => (fb_ge HO.out j hj).1)
      go_roundw
      case rel => exact ⟨k + 1, by omega, by go_num, by rw [HFT.out]; exact hown1, hb1⟩
      case measure => simp [intOf]; omega
    · have ht : ls.take k = ls := List.take_of_length_le (by omega)
      rw [ht] at hown
      clear ht
      go_wp2
      go_ret
      exact ⟨_, rfl, hown, hbel⟩
theorem resultsG {fn : Func} {p : Tmp} (h : fn.results = #[.cell p 38]) (tmps : Array Value) (w : World) (g : Nat) (cs : Array Value)
    (hp : tmps.getD p undef = .pointer (some ⟨g, 0, none⟩)) (hg : w.heap[g]? = some (.cells cs 38 (0, 0))) (hi : (Tryz.prog.info? 38).map (·.size) = some cs.size) :
    (results fn tmps).run Tryz.prog w = .ok (.agg cs) w := results_cell_row h tmps w g 38 cs (0, 0) _ hp hg Tryz.underlying38 rfl hi
theorem pd_copy (l : List UInt8) (h : l.length ≤ 128) : splice Z128 0 l = pd l := by
  have := pd_lay [] l l.length (Nat.le_refl _) (by simpa using h)
  rw [pd_nil] at this
  simpa using this
structure GS (w : World) (ZL : List Value) (X : World) : Prop where
  bel : Below w.heap.size w X
  res : X.heap[w.heap.size]? = some (.cells ZL.toArray 38 (0, 0))
  gr : X.heap[w.heap.size + 1]? = some (.cells ZL.toArray 38 (0, 0))
theorem GS.start (w : World) (ZL : List Value) : GS w ZL ((w.alloc (.cells ZL.toArray 38 (0, 0))).alloc (.cells ZL.toArray 38 (0, 0))) :=
  ⟨((Below.refl _ _).alloc (Nat.le_refl _) _).alloc (by simp) _, (Below.heap_alloc _ _ _ (by simp)).trans (heap_alloc_new _ _), heap_at _ _ _ (by simp)⟩
theorem GS.below {w : World} {ZL : List Value} {X Y : World} (h : GS w ZL X) (hb : Below X.heap.size X Y) : GS w ZL Y := by
  obtain ⟨h1, h2, h3⟩ := h
  exact ⟨h1.trans (hb.mono h1.size), (hb.block _ (row_lt h2)).trans h2, (hb.block _ (row_lt h3)).trans h3⟩
theorem granule_any (g cap : Nat) (ls : List (List UInt8)) (w : World) (hl : ls.length ≤ 64) (hf : ls.flatten.length ≤ 128) (hc : HL w g ls) :
    Calls Tryz.prog 84 #[.slice (some ⟨g, 0, none⟩) ls.length cap] w fun e w' => e = .returned (.agg ((pd ls.flatten).map B8).toArray) ∧ Below w.heap.size w w' := by
  have hzg := fun W => zero_gr W
  obtain ⟨ZL, hZL⟩ : ∃ L, L = Z128.map B8 := ⟨_, rfl⟩
  rw [← hZL] at hzg
  have HGL : Hid (ZL.length = 128) := by show _ = _; rw [hZL, List.length_map, z128_len]
  have HZL : Hid _ := hZL
  clear hZL
  obtain ⟨GL, hGL⟩ : ∃ L, L = (pd ls.flatten).map B8 := ⟨_, rfl⟩
  have hgl : GL.length = 128 := by rw [hGL, List.length_map, pd_len _ hf]
  have HII : Hid _ := info128 GL hgl
  have HIA : Hid _ := info128a GL.toArray (by simpa using hgl)
  have HI1 : Hid (GL.toArray.all (·.oneCell') = true) := by show _ = _; rw [hGL]; exact B8_onea _
  have HIS : Hid (ZL.toArray.size = GL.toArray.size) := by show _ = _; simp [HGL.out, hgl]
  have HIN : Hid (GL.toArray.size = 128) := by show _ = _; simpa using hgl
  have HGLL : Hid _ := hGL
  rw [← hGL]
  have HSP : Hid (splice ZL 0 (ls.flatten.map B8) = GL) := by show _ = _; rw [HZL.out, hGL, splice_map, pd_copy _ hf]
  have HG0 : Hid (GS w ZL _) := GS.start w ZL
  have HC : Hid (HL _ g ls) := (hc.below HG0.out.bel).below (Below.refl _ _).drew
  have HGD : Hid (GS w ZL _) := HG0.out.below (Below.refl _ _).drew
  have HF : Hid _ := hf
  clear hGL hgl hc hf
  have hsl := fun W => slice_gr W (w.heap.size + 1)
  go_enter Tryz.func84, Tryz.ntmps84
  go_wp2
  refine wp_region_held_drew (S := fun X => True) (by kernel_rfl) trivial (fun hHeld => ?_)
  refine qzI 0 ⟨some 4, .slice 38 (.tmp 3) none none none, 106, _, #[], none⟩ (.slice (some ⟨w.heap.size + 1, 0, none⟩) 128 128) rfl (by kernel_rfl) (fun _ _ _ h => h) (by rfl) (fun w' hw' => ?_) hHeld ?_
  · go_simp <;> rfl
  try simp only [Act.put, qT, q0, qS]
  refine qzI 1 ⟨some 5, .move (.tmp 0), 144, _, #[], none⟩ (.slice (some ⟨g, 0, none⟩) ls.length cap) rfl (by kernel_rfl) (fun _ _ _ h => h) (by rfl) (fun w' hw' => ?_) hHeld ?_
  · go_simp <;> rfl
  try simp only [Act.put, qT, q0, qS]
  refine qzR 2 ⟨some 6, .call ⟨.value (.func 104), #[.tmp 5], #[144]⟩, 106, _, #[⟨1, .data⟩], none⟩ (by kernel_rfl) rfl (by rfl) (fun K hK => ?_)
  go_wp2_with fail
  refine Calls.mono (refJoin_any g cap ls _ (by omega) (by have := HF.out; omega) HC.out) ?_
  rintro e w3 ⟨v3, rfl, hf3, hb3⟩
  have HW3 : Hid _ := HGD.out.below hb3
  have hh3 := hf3.hb
  obtain ⟨p3, c3, rfl, hpn, hpc⟩ := hb_cells hh3
  refine hK.out _ _ trivial (fun _ => ?_)
  clear hK K
  try simp only [Act.put, qT, q0, qS]
  refine qzR 3 ⟨some 7, .call ⟨.builtin Go.Builtin.copy, #[.tmp 4, .tmp 6], #[106, 106]⟩, 3, _, #[⟨0, .data⟩, ⟨2, .data⟩, ⟨2, .chain⟩], none⟩ (by kernel_rfl) rfl (by rfl) (fun K hK => ?_)
  refine wp_copy_seg (.tmp 4) (.tmp 6) rfl (w.heap.size + 1) 0 128 128 p3 ls.flatten.length c3 rfl rfl ZL 38 HW3.out.gr (ls.flatten.map B8) ?_ ?_ ?_ (B8_one _) ?_
  · rw [List.length_map]; exact (Nat.min_eq_left HF.out).symm
  · intro h0
    cases p3 with
    | none => rw [(hpn rfl).1] at h0; simp at h0
    | some a => exact ⟨a, rfl, hpc a rfl⟩
  · rw [List.length_map, HGL.out]; have := HF.out; omega
  rw [HSP.out]
  have HR4 : Hid _ := setRow_heap _ _ _ GL.toArray _ _ HW3.out.gr
  have HR0 : Hid ((w3.setRow (w.heap.size + 1) GL.toArray).heap[w.heap.size]? = some (.cells ZL.toArray 38 (0, 0))) := by show _ = _; rw [setRow_other _ _ _ _ (by omega)]; exact HW3.out.res
  have HB4 : Hid (Below w.heap.size w (w3.setRow (w.heap.size + 1) GL.toArray)) := below_setRow HW3.out.bel (by omega) _
  generalize w3.setRow (w.heap.size + 1) GL.toArray = w4 at *
  refine hK.out _ _ trivial (fun _ => ?_)
  clear hK K
  try simp only [Act.put, qT, q0, qS]
  refine wpAnyH_done (by kernel_rfl) ?_ _
  clear hHeld HC HGD HW3 hf3 hb3 hh3 hpn hpc HSP hsl HF
  go_wp2_with (first
    | (refine wpList_load_row rfl 38 _ rfl (w.heap.size + 1) rfl 38 GL.toArray (0, 0) _ HR4.out Tryz.underlying38 rfl HIA.out ?_)
    | (refine wpList_store_row rfl 38 _ _ rfl w.heap.size GL.toArray rfl rfl 38 ZL.toArray HR0.out HIA.out HIS.out HI1.out ?_))
  refine bodyPost_ret (v := .agg GL.toArray) (resultsG Tryz.results84 _ _ w.heap.size GL.toArray rfl (setRow_heap _ _ _ _ _ _ HR0.out) HIA.out) rfl ⟨rfl, below_setRow HB4.out (Nat.le_refl _) _⟩
structure RB (w : World) (tp : TypeId) (PL : List Value) (X : World) : Prop where
  bel : Below w.heap.size w X
  par : X.heap[w.heap.size]? = some (.cells PL.toArray tp (0, 0))
  res : ∃ Z : Array Value, Z.size = 128 ∧ X.heap[w.heap.size + 1]? = some (.cells Z 38 (0, 0))
theorem RB.start (w : World) (tp : TypeId) (PL ZL : List Value) (h : ZL.length = 128) : RB w tp PL ((w.alloc (.cells PL.toArray tp (0, 0))).alloc (.cells ZL.toArray 38 (0, 0))) :=
  ⟨((Below.refl _ _).alloc (Nat.le_refl _) _).alloc (by simp) _, (Below.heap_alloc _ _ _ (by simp)).trans (heap_alloc_new _ _), ⟨_, by simpa using h, heap_at _ _ _ (by simp)⟩⟩
theorem RB.below {w : World} {tp : TypeId} {PL : List Value} {X Y : World} (h : RB w tp PL X) (hb : Below X.heap.size X Y) : RB w tp PL Y := by
  obtain ⟨h1, h2, Z, z1, z2⟩ := h
  exact ⟨h1.trans (hb.mono h1.size), (hb.block _ (row_lt h2)).trans h2, ⟨Z, z1, (hb.block _ (row_lt z2)).trans z2⟩⟩
theorem RB.put {w : World} {tp : TypeId} {PL : List Value} {X : World} (h : RB w tp PL X) (G : Array Value) (hG : G.size = 128) : RB w tp PL (X.setRow (w.heap.size + 1) G) := by
  obtain ⟨h1, h2, Z, z1, z2⟩ := h
  exact ⟨below_setRow h1 (by omega) _, (setRow_other _ _ _ _ (by omega)).trans h2, ⟨G, hG, setRow_heap _ _ _ _ _ _ z2⟩⟩
theorem hl3 (X : World) (a b c : Value) (la lb lc : List UInt8) (ha : HB X a la) (hb : HB X b lb) (hc : HB X c lc) : HL (X.alloc (.cells #[a, b, c] 106 (0, 0))) X.heap.size [la, lb, lc] := fun i hi => by
  have hr := heap_alloc_new X (.cells #[a, b, c] 106 (0, 0))
  match i, hi with
  | 0, _ => exact ⟨a, by rw [cell_of_row _ _ 0 _ _ _ hr]; rfl, hb_alloc ha _⟩
  | 1, _ => exact ⟨b, by rw [cell_of_row _ _ 1 _ _ _ hr]; rfl, hb_alloc hb _⟩
  | 2, _ => exact ⟨c, by rw [cell_of_row _ _ 2 _ _ _ hr]; rfl, hb_alloc hc _⟩
theorem hl4 (X : World) (a b c d : Value) (la lb lc ld : List UInt8) (ha : HB X a la) (hb : HB X b lb) (hc : HB X c lc) (hd : HB X d ld) : HL (X.alloc (.cells #[a, b, c, d] 106 (0, 0))) X.heap.size [la, lb, lc, ld] := fun i hi => by
  have hr := heap_alloc_new X (.cells #[a, b, c, d] 106 (0, 0))
  match i, hi with
  | 0, _ => exact ⟨a, by rw [cell_of_row _ _ 0 _ _ _ hr]; rfl, hb_alloc ha _⟩
  | 1, _ => exact ⟨b, by rw [cell_of_row _ _ 1 _ _ _ hr]; rfl, hb_alloc hb _⟩
  | 2, _ => exact ⟨c, by rw [cell_of_row _ _ 2 _ _ _ hr]; rfl, hb_alloc hc _⟩
  | 3, _ => exact ⟨d, by rw [cell_of_row _ _ 3 _ _ _ hr]; rfl, hb_alloc hd _⟩
theorem mark_at (s : ByteArray) (k : Nat) (l : List UInt8) (w : World) (hk : s.size + k = 8) (h1 : 1 ≤ k) (hl : sb s ++ List.replicate k 0 = l) :
    Calls Tryz.prog 85 #[.string s] w fun e w' => ∃ p c, e = .returned (.slice p 8 c) ∧ HB w' (.slice p 8 c) l ∧ Below w.heap.size w w' := by
  refine (mark_any s k w hk h1).mono ?_
  rintro e w' ⟨v, rfl, hh, hb⟩
  rw [hl] at hh
  obtain ⟨p, c, e, _, _⟩ := hb_cells hh
  have h8 : l.length = 8 := by rw [← hl, List.length_append, sb_len, List.length_replicate]; exact hk
  rw [h8] at e
  subst e
  exact ⟨p, c, rfl, hh, hb⟩
theorem word_at (n : Nat) (w : World) (hn : n < 18446744073709551616) :
    Calls Tryz.prog 83 #[.int .u64 (n : Int)] w fun e w' => ∃ p c, e = .returned (.slice p 8 c) ∧ HB w' (.slice p 8 c) (W1.le 8 n) ∧ Below w.heap.size w w' := by
  refine (refWord_any n w hn).mono ?_
  rintro e w' ⟨v, rfl, hf, hb⟩
  have hh := hf.hb
  obtain ⟨p, c, e, _, _⟩ := hb_cells hh
  rw [W1.le_length] at e
  subst e
  exact ⟨p, c, rfl, hh, hb⟩
end Go.Proofs.YtekbppfocnbhbaaGreat.PC
