/- params: Realm. -/
import Derived.Test.YtabnmhmlcoakkaaPF
set_option linter.unusedVariables false
set_option linter.unusedSimpArgs false
namespace Go.Proofs.Ytabnmhmlcoakkaa.PC
open Go.RowKit

theorem eq_gr (w : World) (xs ys : List UInt8) (hx : xs.length = 128) (hy : ys.length = 128) (b : Bool) (h : (xs == ys) = b) : (Op.equalIn 10000 28 (.agg (xs.map B8).toArray) (.agg (ys.map B8).toArray)).run Try.prog w = .ok b w := by
  rw [← h]; exact run_equalIn_bytes (P := Try.prog) w 9998 28 5 128 Try.underlying28 Try.underlying5 size_u8 xs ys hx hy
/-- What a granule is read as. -/
def gV (G : List UInt8) : List UInt8 := (G.drop 8).take 32
def gN (G : List UInt8) : Nat := W1.num ((G.drop 40).take 8)
def isR (G : List UInt8) : Bool := mayR (gN G) && (rbL (gV G) (gN G) == G)
def rRes (G : List UInt8) : List Value := if isR G = true then rpL (gV G) (gN G) else rpL Z32 0
def rErr (G : List UInt8) : Int := if isR G = true then 0 else 4
theorem gV_len (G : List UInt8) (h : G.length = 128) : (gV G).length = 32 := by unfold gV; rw [List.length_take, List.length_drop]; omega
theorem num8_lt (l : List UInt8) (h : l.length ≤ 8) : W1.num l < 18446744073709551616 := by
  have h1 := W1.num_lt l
  have h2 : 256 ^ l.length ≤ 256 ^ 8 := Nat.pow_le_pow_right (by decide) h
  have h3 : 256 ^ 8 = 18446744073709551616 := by decide
  omega
theorem gN_lt (G : List UInt8) : gN G < 18446744073709551616 := num8_lt _ (by rw [List.length_take]; omega)
theorem rRes_len (G : List UInt8) (h : G.length = 128) : (rRes G).length = 33 := by
  unfold rRes
  split
  · exact rpL_len _ _ (gV_len G h)
  · exact rpL_len _ _ z32_len
theorem rRes_one (G : List UInt8) : ∀ u ∈ rRes G, u.oneCell' = true := by
  unfold rRes
  split <;> exact rpL_one _ _
/-- What RealmBytes answers. -/
def rbA (V : List UInt8) (n : Nat) : List UInt8 := if mayR n = true then rbL V n else Z128
def rbE (n : Nat) : Int := if mayR n = true then 0 else 2
theorem rbA_len (V : List UInt8) (n : Nat) (h : V.length = 32) : (rbA V n).length = 128 := by
  unfold rbA
  split
  · exact rbL_len V n h
  · exact z128_len
theorem rb_any (V : List UInt8) (n : Nat) (w : World) (hV : V.length = 32) (hn : n < 18446744073709551616) :
    Calls Try.prog 8 #[.agg (rpL V n).toArray] w fun e w' => e = .returned (.tuple #[.agg ((rbA V n).map B8).toArray, .int .i64 (rbE n)]) ∧ Below w.heap.size w w' := by
  unfold rbA rbE
  cases hm : mayR n
  · exact rb_bad V n w hV hn hm
  · exact rb_ok V n w hV hn hm
theorem rp_copy (V : List UInt8) (h : V.length = 32) : splice (rpL Z32 0) 0 (V.map B8) = rpL V 0 := by
  unfold splice rpL
  rw [List.take_zero, List.nil_append, List.drop_append, List.drop_of_length_le (by simp [h, Z32])]
  simp [h, Z32]
theorem rp_set (V : List UInt8) (n : Nat) (h : V.length = 32) : (rpL V 0).set 32 (.int .u64 (n : Int)) = rpL V n := by
  unfold rpL
  rw [List.set_append_right _ _ (by simp [h])]
  simp [h]
theorem TK.start (w : World) (tq : TypeId) (G : List UInt8) (ZL : List Value) (W : World)
    (hW : W = ((((w.alloc (.cells (G.map B8).toArray 28 (0, 0))).alloc (.cells ZL.toArray tq (0, 0))).alloc (.cells ZL.toArray tq (0, 0))).alloc (.cells #[.pointer (some ⟨w.heap.size, 0, none⟩)] 55 (0, 0))).alloc (.cells #[.int .i64 0] 3 (0, 0))) :
    TK w w.heap.size (w.heap.size + 1) (w.heap.size + 1 + 1) (w.heap.size + 1 + 1 + 1) (w.heap.size + 1 + 1 + 1 + 1) tq G ZL ZL 0 W := by
  subst hW
  refine ⟨((((((Below.refl _ _).alloc (Nat.le_refl _) _).alloc (by simp) _).alloc (by simp; omega) _).alloc (by simp; omega) _).alloc (by simp; omega) _), ?_, ?_, ?_, ?_, ?_, Nat.le_refl _, by omega, by omega, by omega, by omega⟩
  · rw [Below.heap_alloc _ _ _ (by simp; omega), Below.heap_alloc _ _ _ (by simp; omega), Below.heap_alloc _ _ _ (by simp; omega), Below.heap_alloc _ _ _ (by simp)]; exact heap_alloc_new _ _
  · rw [Below.heap_alloc _ _ _ (by simp <;> omega), Below.heap_alloc _ _ _ (by simp <;> omega), Below.heap_alloc _ _ _ (by simp)]; exact heap_at _ _ _ (by simp)
  · rw [Below.heap_alloc _ _ _ (by simp <;> omega), Below.heap_alloc _ _ _ (by simp)]; exact heap_at _ _ _ (by simp)
  · rw [Below.heap_alloc _ _ _ (by simp)]; exact heap_at _ _ _ (by simp)
  · exact heap_at _ _ _ (by simp)
set_option maxHeartbeats 2000000 in
set_option maxRecDepth 100000 in
theorem realm_any (G : List UInt8) (w : World) (hG : G.length = 128) :
    Calls Try.prog 18 #[.agg (G.map B8).toArray] w fun e w' => e = .returned (.tuple #[.agg (rRes G).toArray, .int .i64 (rErr G)]) ∧ Below w.heap.size w w' := by
  have hzr := fun W => zero_rp W
  obtain ⟨RZ, hRZ⟩ : ∃ L, L = rpL Z32 0 := ⟨_, rfl⟩
  rw [← hRZ] at hzr
  have HBR : Hid (∀ W, (Instr.build 26 #[]).run Try.prog W = .ok (.agg RZ.toArray) W) := fun W => by rw [hRZ]; exact build_rp W
  have hrzl : RZ.length = 33 := by rw [hRZ]; exact rpL_len _ _ z32_len
  have HRI : Hid ((Try.prog.info? 26).map (·.size) = some RZ.length) := info33 RZ hrzl
  have HRA : Hid ((Try.prog.info? 26).map (·.size) = some RZ.toArray.size) := info33a _ (by simpa using hrzl)
  have HR1 : Hid (RZ.toArray.all (·.oneCell') = true) := by show _ = _; rw [hRZ]; exact onea (rpL_one _ _)
  have HRL : Hid _ := hrzl
  have HRZ : Hid _ := hRZ
  clear hRZ hrzl
  have hzg := fun W => zero_gr W
  obtain ⟨ZL, hZL⟩ : ∃ L, L = Z128.map B8 := ⟨_, rfl⟩
  rw [← hZL] at hzg
  have hzl : ZL.length = 128 := by rw [hZL, List.length_map, z128_len]
  have HGL : Hid _ := hzl
  clear hZL hzl
  have hvl := gV_len G hG
  have hRB := fun W => rb_any (gV G) (gN G) W hvl (gN_lt G)
  have HC : Hid ((rbE (gN G) = 2 ∧ rRes G = RZ ∧ rErr G = 4) ∨ (rbE (gN G) = 0 ∧ (∀ W, (Op.equalIn 10000 28 (.agg ((rbA (gV G) (gN G)).map B8).toArray) (.agg (G.map B8).toArray)).run Try.prog W = .ok false W) ∧ rRes G = RZ ∧ rErr G = 4) ∨ (rbE (gN G) = 0 ∧ (∀ W, (Op.equalIn 10000 28 (.agg ((rbA (gV G) (gN G)).map B8).toArray) (.agg (G.map B8).toArray)).run Try.prog W = .ok true W) ∧ rRes G = rpL (gV G) (gN G) ∧ rErr G = 0)) := by
    have hq := fun W b hb => eq_gr W (rbA (gV G) (gN G)) G (rbA_len _ _ hvl) hG b hb
    show _ ∨ _
    unfold rRes rErr isR
    rw [HRZ.out]
    cases hm : mayR (gN G)
    · exact .inl ⟨by unfold rbE; rw [hm]; rfl, by simp, by simp⟩
    · have e0 : rbA (gV G) (gN G) = rbL (gV G) (gN G) := by unfold rbA; rw [if_pos hm]
      rw [e0] at hq ⊢
      cases he : (rbL (gV G) (gN G) == G)
      · exact .inr (.inl ⟨by unfold rbE; rw [hm]; rfl, fun W => hq W false he, by simp, by simp⟩)
      · exact .inr (.inr ⟨by unfold rbE; rw [hm]; rfl, fun W => hq W true he, by simp, by simp⟩)
  have HTL : Hid (((rbA (gV G) (gN G)).map B8).length = 128) := by show _ = _; rw [List.length_map]; exact rbA_len _ _ hvl
  have HT1 : Hid _ := B8_onea (rbA (gV G) (gN G))
  have hrl := rRes_len G hG
  have HO1 : Hid ((rRes G).toArray.all (·.oneCell') = true) := onea (rRes_one G)
  generalize rRes G = RL at *
  generalize rErr G = re at *
  generalize rbE (gN G) = ee at *
  generalize (rbA (gV G) (gN G)).map B8 = TL at *
  have HTI : Hid _ := info128 TL HTL.out
  have HTA : Hid _ := info128a TL.toArray (by simpa using HTL.out)
  have HTS : Hid (ZL.toArray.size = TL.toArray.size) := by show _ = _; simp [HGL.out, HTL.out]
  have HLI : Hid _ := info33 RL hrl
  have HLA : Hid _ := info33a RL.toArray (by simpa using hrl)
  have HLS : Hid (RZ.toArray.size = RL.toArray.size) := by show _ = _; simp [HRL.out, hrl]
  have HGI : Hid ((Try.prog.info? 28).map (·.size) = some (G.map B8).length) := info128 _ (by simpa using hG)
  have HW : Hid _ := TK.start w 26 G RZ _ rfl
  obtain ⟨GA, hGA⟩ : ∃ L, L = G.map B8 := ⟨_, rfl⟩
  rw [← hGA] at HW HGI HC ⊢
  have HGA : Hid _ := hGA
  have HG : Hid _ := hG
  have HVL : Hid _ := hvl
  clear hGA hG hvl hrl
  go_enter Try.func18, Try.ntmps18
  go_wp2_with fail
  refine Calls.mono (taker_any w.heap.size _) ?_
  rintro e w1 ⟨rfl, hw1⟩
  rw [← hw1] at HW
  clear hw1
  go_wp2_with fail
  refine Calls.mono (take_at HW.out 8 8 128 rfl rfl (by decide) (by decide)) ?_
  rintro e w2 ⟨rfl, hw2⟩
  have HW2 : Hid _ := hw2.drew
  clear hw2 HW
  have hsd := fun W => slice_dg W (w.heap.size + 1 + 1) 0
  go_wp2
  refine wp_region_held_drew (S := fun X => True) (by kernel_rfl) trivial (fun hHeld => ?_)
  refine wpAnyH_take (i := 0) (oi := { dst := some 11, op := Go.Op.fieldAddr 26 (Go.Operand.tmp 4) 0, type := 0, pos := _, after := #[], guard := none }) (v := .pointer (some ⟨w.heap.size + 1 + 1, 0, none⟩)) rfl (by kernel_rfl) (by kernel_rfl) (by kernel_rfl) (fun _ _ _ h => h) (Or.inl ⟨by rfl, fun w' hw' => ?_⟩) hHeld ?_
  · first | (go_simp; done) | (go_simp; rfl)
  try simp only [Act.put, List.setIfInBounds_toArray, List.set_cons_zero, List.set_cons_succ]
  refine wpAnyH_take (i := 1) (oi := { dst := some 12, op := Go.Op.slice 23 (Go.Operand.tmp 11) none none none, type := 56, pos := _, after := #[{ on := 0, ground := Go.Ground.data }], guard := none }) (v := .slice (some ⟨w.heap.size + 1 + 1, 0, none⟩) 32 32) rfl (by kernel_rfl) (by kernel_rfl) (by kernel_rfl) (fun _ _ _ h => h) (Or.inl ⟨by rfl, fun w' hw' => ?_⟩) hHeld ?_
  · first | (go_simp; done) | (go_simp; rfl)
  try simp only [Act.put, List.setIfInBounds_toArray, List.set_cons_zero, List.set_cons_succ]
  refine wpAnyH_take (i := 2) (oi := { dst := some 13, op := Go.Op.move (Go.Operand.tmp 5), type := 60, pos := _, after := #[], guard := none }) (v := .func (.func 36) #[] #[.pointer (some ⟨w.heap.size + 1 + 1 + 1, 0, none⟩), .pointer (some ⟨w.heap.size + 1 + 1 + 1 + 1, 0, none⟩)]) rfl (by kernel_rfl) (by kernel_rfl) (by kernel_rfl) (fun _ _ _ h => h) (Or.inl ⟨by rfl, fun w' hw' => ?_⟩) hHeld ?_
  · first | (go_simp; done) | (go_simp; rfl)
  try simp only [Act.put, List.setIfInBounds_toArray, List.set_cons_zero, List.set_cons_succ]
  refine wpAnyH_ready (rs := [3]) (by kernel_rfl) (by simp) ?_
  refine AllReadyH.cons (o := { dst := some 14, op := Go.Op.call { callee := Go.Callee.value (Go.Operand.tmp 13), args := #[Go.Operand.const (Go.Value.int Go.IntKind.i64 32)], argTypes := #[3] }, type := 56, pos := _, after := #[{ on := 2, ground := Go.Ground.data }], guard := none }) rfl (fun K hK => ?_) AllReadyH.nil
  rw [if_pos (by rfl)]
  go_wp2_with fail
  refine Calls.mono (take_at HW2.out 32 40 120 rfl rfl (by decide) (by decide)) ?_
  rintro e w3 ⟨rfl, hw3⟩
  have HW3 : Hid _ := hw3
  clear hw3 HW2
  refine hK.out _ _ trivial (fun _ => ?_)
  clear hK K
  try simp only [Act.put, List.setIfInBounds_toArray, List.set_cons_zero, List.set_cons_succ]
  refine wpAnyH_ready (rs := [4]) (by kernel_rfl) (by simp) ?_
  refine AllReadyH.cons (o := { dst := some 15, op := Go.Op.call { callee := Go.Callee.builtin Go.Builtin.copy, args := #[Go.Operand.tmp 12, Go.Operand.tmp 14], argTypes := #[56, 56] }, type := 3, pos := _, after := #[{ on := 1, ground := Go.Ground.data }, { on := 3, ground := Go.Ground.data }, { on := 3, ground := Go.Ground.chain }], guard := none }) rfl (fun K hK => ?_) AllReadyH.nil
  rw [if_pos (by rfl)]
  have hv3 := HW3.out.hb HG.out 8 32 (by decide)
  have HSRC : Hid (∀ (j : Nat) u, ((gV G).map B8)[j]? = some u → w3.cell? ((⟨w.heap.size, 8, none⟩ : Addr).add j) = some u) := by
    obtain ⟨p, c, e, h1, h2⟩ := hb_cells hv3
    have e1 : (some (⟨w.heap.size, 8, none⟩ : Addr)) = p := by injection e
    exact h2 _ e1.symm
  refine wp_copy_seg (.tmp 12) (.tmp 14) rfl (w.heap.size + 1 + 1) 0 32 32 (some ⟨w.heap.size, 8, none⟩) 32 120 rfl rfl RZ 26 HW3.out.q ((gV G).map B8) ?_ (fun _ => ⟨_, rfl, HSRC.out⟩) ?_ (B8_one _) ?_
  · rw [List.length_map, HVL.out]; rfl
  · rw [List.length_map, HVL.out, HRL.out]; decide
  have HW4 : Hid _ := HW3.out.row (splice RZ 0 ((gV G).map B8))
  have HCP : Hid (splice RZ 0 ((gV G).map B8) = rpL (gV G) 0) := by show _ = _; rw [HRZ.out]; exact rp_copy _ HVL.out
  generalize w3.setRow (w.heap.size + 1 + 1) (splice RZ 0 ((gV G).map B8)).toArray = w4 at *
  rw [HCP.out] at HW4
  clear HSRC hv3 HW3 HCP
  refine hK.out _ _ trivial (fun _ => ?_)
  clear hK K
  try simp only [Act.put, List.setIfInBounds_toArray, List.set_cons_zero, List.set_cons_succ]
  refine wpAnyH_done (by kernel_rfl) ?_ _
  clear hHeld
  go_wp2_with fail
  refine Calls.mono (take_at HW4.out 8 48 88 rfl rfl (by decide) (by decide)) ?_
  rintro e w5 ⟨rfl, hw5⟩
  have HW5 : Hid _ := hw5
  have hN := word8 w.heap.size 40 88 ((G.drop 40).take 8) w5 (by rw [List.length_take, List.length_drop, HG.out]; decide) (by decide) (hw5.hb HG.out 40 8 (by decide))
  have hN' : Calls Try.prog 30 #[.slice (some ⟨w.heap.size, 40, none⟩) 8 88, .int .i64 0] w5 fun e w' => e = .returned (.int .u64 (gN G : Int)) ∧ w5 = w' := hN
  have hq0 := cell_of_row _ _ 32 _ _ _ hw5.q
  rw [List.getElem?_toArray, rpL_n _ _ HVL.out] at hq0
  have hq1 := frozen_of_row _ _ 32 _ _ hw5.q
  have HPS : Hid _ := rp_set (gV G) (gN G) HVL.out
  have HPL : Hid ((rpL (gV G) (gN G)).length = 33) := rpL_len _ _ HVL.out
  clear hw5 hN HW4
  generalize rpL (gV G) (gN G) = QL at *
  have HW6 : Hid _ := HW5.out.set 32 _ QL HPS.out
  have HQR : Hid _ := rangeAt_row HW6.out.q
  have HQI : Hid _ := info33 QL HPL.out
  generalize gN G = n at *
  go_wp2_with fail
  refine Calls.mono hN' ?_
  rintro e w6 ⟨rfl, rfl⟩
  clear hN' HPS HW5
  go_wp2_with (refine wpList_load_mid rfl 26 _ rfl (w.heap.size + 1 + 1) 0 rfl QL _ HQR.out Try.underlying26 rfl HQI.out ?_)
  refine Calls.mono (hRB _) ?_
  rintro e w7 ⟨rfl, hb7⟩
  have HW7 : Hid _ := HW6.out.below hb7
  clear hb7 HW6 HQR hRB hq0 hq1
  have HN7 : Hid ((w7.alloc (.cells ZL.toArray 28 (0, 0))).heap[w7.heap.size]? = some (.cells ZL.toArray 28 (0, 0))) := heap_alloc_new _ _
  have hb8 : Below w7.heap.size w7 ((w7.alloc (.cells ZL.toArray 28 (0, 0))).setRow w7.heap.size TL.toArray) := below_setRow ((Below.refl _ _).alloc (Nat.le_refl _) _) (Nat.le_refl _) _
  have HW8 : Hid _ := HW7.out.below hb8
  have HT8 : Hid (((w7.alloc (.cells ZL.toArray 28 (0, 0))).setRow w7.heap.size TL.toArray).rangeAt w7.heap.size 0 TL) := rangeAt_row (setRow_heap _ _ _ _ _ _ HN7.out)
  have HG8 : Hid (((w7.alloc (.cells ZL.toArray 28 (0, 0))).setRow w7.heap.size TL.toArray).rangeAt w.heap.size 0 GA) := by rw [HGA.out]; exact rangeAt_row HW8.out.gr
  have HQ8 : Hid (((w7.alloc (.cells ZL.toArray 28 (0, 0))).setRow w7.heap.size TL.toArray).rangeAt (w.heap.size + 1 + 1) 0 QL) := rangeAt_row HW8.out.q
  have HR8 : Hid _ := HW8.out.res
  have HB8 : Hid _ := HW8.out.bel
  clear hb8 HW7 HW8 HGA
  rcases HC.out with ⟨he, hRL, hre⟩ | ⟨he, heq, hRL, hre⟩ | ⟨he, heq, hRL, hre⟩
  · subst he hre
    rw [← hRL] at HR8 HBR HRL HRI HRA HR1
    clear HC hRL
    go_wp2_with (first
      | (refine wpList_store_row rfl 28 _ _ rfl w7.heap.size TL.toArray rfl rfl 28 ZL.toArray HN7.out HTA.out HTS.out HT1.out ?_)
      | (refine wpList_build rfl 26 #[] rfl #[] (.agg RL.toArray) (by simp) (HBR.out _) ?_)
      | (refine wpList_store_row rfl 26 _ _ rfl (w.heap.size + 1) RL.toArray rfl rfl 26 RL.toArray HR8.out HLA.out rfl HO1.out ?_))
    refine bodyPost_ret (v := .tuple #[.agg RL.toArray, .int .i64 4]) (results2 Try.results18 _ _ (w.heap.size + 1) 26 RL (0, 0) _ rfl rfl (setRow_heap _ _ _ _ _ _ HR8.out) Try.underlying26 rfl HLI.out) rfl ⟨rfl, below_setRow HB8.out (by omega) _⟩
  · subst he hre
    rw [← hRL] at HR8 HBR HRL HRI HRA HR1
    clear HC hRL
    go_wp2_with (first
      | (refine wpList_store_row rfl 28 _ _ rfl w7.heap.size TL.toArray rfl rfl 28 ZL.toArray HN7.out HTA.out HTS.out HT1.out ?_)
      | (refine load_mid_g (by rfl) 28 _ rfl w7.heap.size 0 rfl TL _ HT8.out Try.underlying28 rfl HTI.out ?_)
      | (refine load_mid_g (by rfl) 28 _ rfl w.heap.size 0 rfl GA _ HG8.out Try.underlying28 rfl HGI.out ?_)
      | (refine wpList_build rfl 26 #[] rfl #[] (.agg RL.toArray) (by simp) (HBR.out _) ?_)
      | (refine wpList_store_row rfl 26 _ _ rfl (w.heap.size + 1) RL.toArray rfl rfl 26 RL.toArray HR8.out HLA.out rfl HO1.out ?_))
    refine bodyPost_ret (v := .tuple #[.agg RL.toArray, .int .i64 4]) (results2 Try.results18 _ _ (w.heap.size + 1) 26 RL (0, 0) _ rfl rfl (setRow_heap _ _ _ _ _ _ HR8.out) Try.underlying26 rfl HLI.out) rfl ⟨rfl, below_setRow HB8.out (by omega) _⟩
  · subst he hre
    rw [← hRL] at HQ8 HQI
    clear HC hRL
    go_wp2_with (first
      | (refine wpList_store_row rfl 28 _ _ rfl w7.heap.size TL.toArray rfl rfl 28 ZL.toArray HN7.out HTA.out HTS.out HT1.out ?_)
      | (refine load_mid_g (by rfl) 28 _ rfl w7.heap.size 0 rfl TL _ HT8.out Try.underlying28 rfl HTI.out ?_)
      | (refine load_mid_g (by rfl) 28 _ rfl w.heap.size 0 rfl GA _ HG8.out Try.underlying28 rfl HGI.out ?_)
      | (refine wpList_load_mid rfl 26 _ rfl (w.heap.size + 1 + 1) 0 rfl RL _ HQ8.out Try.underlying26 rfl HQI.out ?_)
      | (refine wpList_store_row rfl 26 _ _ rfl (w.heap.size + 1) RL.toArray rfl rfl 26 RZ.toArray HR8.out HLA.out HLS.out HO1.out ?_))
    refine bodyPost_ret (v := .tuple #[.agg RL.toArray, .int .i64 0]) (results2 Try.results18 _ _ (w.heap.size + 1) 26 RL (0, 0) _ rfl rfl (setRow_heap _ _ _ _ _ _ HR8.out) Try.underlying26 rfl HLI.out) rfl ⟨rfl, below_setRow HB8.out (by omega) _⟩
end Go.Proofs.Ytabnmhmlcoakkaa.PC
