/- realm: what realms answer that are not there, the rest. -/
import Derived.Test.YtekbppfocnbhbaaGreatXY
import Derived.Test.YtekbppfocnbhbaaGreatXX
import Derived.Shelf.SlMaps.Clone
set_option linter.unusedVariables false
set_option linter.unusedSimpArgs false
namespace Go.Proofs.YtekbppfocnbhbaaGreat.XC
open Go.RowKit Go.Maps Go.Sort Go.Shelf

section
variable {pv : Value} {X : World}
set_option maxHeartbeats 1000000 in
set_option maxRecDepth 100000 in
theorem n_create (h : NN pv X) (rd root : Int) (PA TA : Array Value) : Calls Tryz.prog 16 #[pv, .int .i64 rd, .int .i64 root, .agg PA, .agg TA] X fun e Y => e = .returned (.tuple #[.agg (rmL zR (.slice none 0 0)).toArray, .int .i64 1]) ∧ Below X.heap.size X Y := by
  have hz := fun W => zero_rm W
  have HBZ : Hid (∀ W, (Instr.build 47 #[]).run Tryz.prog W = .ok (.agg (rmL zR (.slice none 0 0)).toArray) W) := build_zrm
  obtain ⟨ZL, hZL⟩ : ∃ L, L = rmL zR (.slice none 0 0) := ⟨_, rfl⟩
  rw [← hZL] at hz HBZ ⊢
  have HZN : Hid (ZL.length = 103) := by show _ = _; rw [hZL]; exact rmL_len zR_ok _
  have HZS : Hid (ZL.toArray.size = 103) := by show _ = _; simpa using HZN.out
  have HZ1 : Hid (ZL.toArray.all (·.oneCell') = true) := by show _ = _; rw [hZL]; exact PC.onea (rmL_one _ _ rfl)
  have HZI : Hid ((Tryz.prog.info? 47).map (·.size) = some ZL.toArray.size) := info103a _ HZS.out
  obtain ⟨X3, hX3⟩ : ∃ X3, X3 = ((X.alloc (.cells PA 36 (0, 0))).alloc (.cells TA 33 (0, 0))).alloc (.cells ZL.toArray 47 (0, 0)) := ⟨_, rfl⟩
  have hb3 : Below X.heap.size X X3 := by rw [hX3]; exact (((Below.refl _ _).alloc (Nat.le_refl _) _).alloc (by simp) _).alloc (by simp; omega) _
  have hr2 : X3.heap[X.heap.size + 1 + 1]? = some (.cells ZL.toArray 47 (0, 0)) := by rw [hX3]; exact R5.heap_at _ _ _ (by simp)
  have HCF : Hid _ := n_cf (h.step hb3) rd root
  have HB3 : Hid (Below X.heap.size X X3) := hb3
  have HR : Hid _ := hr2
  rw [hX3] at HCF
  clear h hZL hb3 hr2
  go_enter Tryz.func16, Tryz.ntmps16
  go_wp2_with fail
  refine Calls.mono HCF.out ?_
  rintro e w1 ⟨rfl, hb1⟩
  rw [← hX3] at hb1
  have HR2 : Hid (w1.heap[X.heap.size + 1 + 1]? = some (.cells ZL.toArray 47 (0, 0))) := (hb1.block _ (PC.row_lt HR.out)).trans HR.out
  have HB1 : Hid (Below X.heap.size X w1) := HB3.out.trans (hb1.mono HB3.out.size)
  clear hb1 HCF hX3
  go_wp2_with (first
    | (refine PC.wpList_build rfl 47 _ rfl #[] (.agg ZL.toArray) (by simp) (HBZ.out _) ?_)
    | (refine wpList_store_row rfl 47 _ _ rfl (X.heap.size + 1 + 1) ZL.toArray rfl rfl 47 ZL.toArray HR2.out HZI.out rfl HZ1.out ?_))
  have hbE : Below X.heap.size X (w1.setRow (X.heap.size + 1 + 1) ZL.toArray) := below_setRow HB1.out (by omega) _
  refine bodyPost_ret (v := .tuple #[.agg ZL.toArray, .int .i64 1]) ?_ rfl ⟨rfl, hbE⟩
  exact PC.results2 Tryz.results16 _ _ (X.heap.size + 1 + 1) 47 _ (0, 0) _ rfl rfl (setRow_heap _ _ _ _ _ _ HR2.out) Tryz.underlying47 rfl (info103 _ HZN.out)
set_option maxHeartbeats 1000000 in
set_option maxRecDepth 100000 in
theorem n_get (h : NN pv X) (rd : Int) : Calls Tryz.prog 12 #[pv, .int .i64 rd] X fun e Y => GEnd X zR 1 e Y := by
  have hz := fun W => zero_rm W
  obtain ⟨ZL, hZL⟩ : ∃ L, L = rmL zR (.slice none 0 0) := ⟨_, rfl⟩
  rw [← hZL] at hz
  have HZN : Hid (ZL.length = 103) := by show _ = _; rw [hZL]; exact rmL_len zR_ok _
  have HZS : Hid (ZL.toArray.size = 103) := by show _ = _; simpa using HZN.out
  have HZ1 : Hid (ZL.toArray.all (·.oneCell') = true) := by show _ = _; rw [hZL]; exact PC.onea (rmL_one _ _ rfl)
  have HZI : Hid ((Tryz.prog.info? 47).map (·.size) = some ZL.toArray.size) := info103a _ HZS.out
  have HZJ : Hid _ := info103 ZL HZN.out
  obtain ⟨w0, hw0⟩ : ∃ w0, w0 = X.alloc (.cells ZL.toArray 47 (0, 0)) := ⟨_, rfl⟩
  have hb0 : Below X.heap.size X w0 := by rw [hw0]; exact (Below.refl _ _).alloc (Nat.le_refl _) _
  have hs0 : w0.heap.size = X.heap.size + 1 := by rw [hw0]; simp
  have hr0 : w0.heap[X.heap.size]? = some (.cells ZL.toArray 47 (0, 0)) := by rw [hw0]; exact heap_alloc_new _ _
  have HAT : Hid _ := n_at (h.step hb0) rd
  have HTO : Hid (∀ W, Calls Tryz.prog 44 #[.agg (rmL zR (.slice none 0 0)).toArray] W fun e w' => TEnd W zR e w') := fun W => told_any zR _ W zR_ok (.inl ⟨rfl, rfl⟩) (by decide)
  rw [← hZL] at HAT HTO
  have HB0 : Hid (Below X.heap.size X w0) := hb0
  have HR0 : Hid _ := hr0
  have HS0 : Hid _ := hs0
  rw [hw0] at HAT
  clear hZL h hb0 hr0 hs0
  go_enter Tryz.func12, Tryz.ntmps12
  go_wp2_with fail
  refine Calls.mono HAT.out ?_
  rintro e w1 ⟨rfl, hb1⟩
  rw [← hw0] at hb1
  have hs1 := hb1.size
  have hs0 := HS0.out
  have hbX : Below X.heap.size X w1 := HB0.out.trans (hb1.mono (by omega))
  have HR1 : Hid (w1.heap[X.heap.size]? = some (.cells ZL.toArray 47 (0, 0))) := (hb1.block _ (by omega)).trans HR0.out
  have HRA : Hid ((w1.alloc (.cells ZL.toArray 47 (0, 0))).heap[w1.heap.size]? = some (.cells ZL.toArray 47 (0, 0))) := heap_alloc_new _ _
  have HRN : Hid (((w1.alloc (.cells ZL.toArray 47 (0, 0))).setRow w1.heap.size ZL.toArray).rangeAt w1.heap.size 0 ZL) := PC.rangeAt_row (setRow_heap _ _ _ _ _ _ HRA.out)
  have HRZ : Hid (((w1.alloc (.cells ZL.toArray 47 (0, 0))).setRow w1.heap.size ZL.toArray).heap[X.heap.size]? = some (.cells ZL.toArray 47 (0, 0))) := by
    show _ = _
    rw [setRow_other _ _ _ _ (by omega), heap_alloc_old _ _ (by omega)]; exact HR1.out
  have HB2 : Hid (Below X.heap.size X ((w1.alloc (.cells ZL.toArray 47 (0, 0))).setRow w1.heap.size ZL.toArray)) := below_setRow (hbX.alloc (by omega) _) (by omega) _
  have HS2 : Hid (((w1.alloc (.cells ZL.toArray 47 (0, 0))).setRow w1.heap.size ZL.toArray).heap.size = w1.heap.size + 1) := by show _ = _; simp
  clear hb1 hbX
  go_wp2_with (first
    | (refine wpList_load_mid rfl 47 _ rfl w1.heap.size 0 rfl ZL _ HRN.out Tryz.underlying47 rfl HZJ.out ?_)
    | (refine wpList_store_row rfl 47 _ _ rfl w1.heap.size ZL.toArray rfl rfl 47 ZL.toArray HRA.out HZI.out rfl HZ1.out ?_)
    | (go_at_call 44; fail))
  generalize (w1.alloc (.cells ZL.toArray 47 (0, 0))).setRow w1.heap.size ZL.toArray = w2 at *
  refine Calls.mono (HTO.out w2) ?_
  rintro e w3 ⟨v', rfl, hown, hb3⟩
  have hs3 := hb3.size
  have hs2 := HS2.out
  have HR3 : Hid (w3.heap[X.heap.size]? = some (.cells ZL.toArray 47 (0, 0))) := (hb3.block _ (by omega)).trans HRZ.out
  have HMN : Hid ((rmL zR v').length = 103) := rmL_len zR_ok _
  have HM1 : Hid ((rmL zR v').toArray.all (·.oneCell') = true) := rmL_onea zR (HO.hr hown)
  have HOWN : Hid (w3.ownsRow w2.heap.size 69 172 v' zR.log.length (lgC zR.log)) := hown
  have HB3 : Hid (Below X.heap.size X w3) := HB2.out.trans (hb3.mono (by omega))
  clear hown hb3
  obtain ⟨ML, hML⟩ : ∃ ML, ML = rmL zR v' := ⟨_, rfl⟩
  rw [← hML] at HMN HM1 ⊢
  have HML : Hid (ML = rmL zR v') := hML
  clear hML
  have HMS : Hid (ML.toArray.size = 103) := by show _ = _; simpa using HMN.out
  have HMI : Hid ((Tryz.prog.info? 47).map (·.size) = some ML.toArray.size) := info103a _ HMS.out
  have HZM : Hid (ZL.toArray.size = ML.toArray.size) := HZS.out.trans HMS.out.symm
  go_wp2_with (refine wpList_store_row rfl 47 _ _ rfl X.heap.size ML.toArray rfl rfl 47 ZL.toArray HR3.out HMI.out HZM.out HM1.out ?_)
  have HEND : Hid (GEnd X zR 1 (.returned (.tuple #[.agg ML.toArray, .int .i64 1])) (w3.setRow X.heap.size ML.toArray)) := by
    refine ⟨v', by rw [HML.out], ?_, below_setRow HB3.out (Nat.le_refl _) _⟩
    have hl : ∀ k, v'.ownBlock = some k → w2.heap.size ≤ k := fun k e => (World.ownsRow.lt HOWN.out k e).1
    exact R5.own_keep (R5.own_lower HOWN.out (by omega)) (fun k e _ => setRow_other _ _ _ _ (by have := hl k e; omega))
  refine bodyPost_ret (v := .tuple #[.agg ML.toArray, .int .i64 1]) ?_ rfl HEND.out
  exact PC.results2 Tryz.results12 _ _ X.heap.size 47 _ (0, 0) _ rfl rfl (setRow_heap _ _ _ _ _ _ HR3.out) Tryz.underlying47 rfl (info103 _ HMN.out)
set_option maxHeartbeats 1000000 in
theorem n_list (h : NN pv X) : Calls Tryz.prog 45 #[pv] X fun e Y => e = .returned (.map none) ∧ Below X.heap.size X Y := by
  have HN : Hid _ := h X (Below.refl _ _)
  clear h
  go_enter Tryz.func45, Tryz.ntmps45
  go_wp2_with fail
  refine Calls.mono HN.out ?_
  rintro e w1 ⟨rfl, hb⟩
  have HB : Hid (Below X.heap.size X w1) := hb
  clear hb HN
  go_wp2
  go_ret
  exact ⟨rfl, HB.out⟩
set_option maxHeartbeats 1000000 in
theorem n_copy (h : NN pv X) (ov : Value) : Calls Tryz.prog 19 #[pv, ov] X fun e Y => e = .returned (.pointer none) ∧ Below X.heap.size X Y := by
  have HN : Hid _ := h X (Below.refl _ _)
  clear h
  go_enter Tryz.func19, Tryz.ntmps19
  go_wp2_with fail
  refine Calls.mono HN.out ?_
  rintro e w1 ⟨rfl, hb⟩
  have HB : Hid (Below X.heap.size X w1) := hb
  clear hb HN
  go_wp2
  go_ret
  exact ⟨rfl, HB.out⟩
set_option maxHeartbeats 1000000 in
set_option maxRecDepth 100000 in
theorem n_find (h : NN pv X) (i : Int) : Calls Tryz.prog 15 #[pv, .int .u64 i] X fun e Y => e = .returned (.tuple #[.int .i64 0, .bool false]) ∧ Below X.heap.size X Y := by
  have HN : Hid _ := n_list h
  clear h
  go_enter Tryz.func15, Tryz.ntmps15
  go_wp2_with fail
  refine Calls.mono HN.out ?_
  rintro e w1 ⟨rfl, hb⟩
  have HB : Hid (Below X.heap.size X w1) := hb
  clear hb HN
  have hrn : (Instr.range 78 (.map none)).run Tryz.prog w1 = _ := run_range_nilMap w1 78 _ _ Tryz.underlying78
  have hnx : ∀ ty, (Instr.next (.pointer (some ⟨w1.heap.size, 0, none⟩)) false ty).run Tryz.prog (w1.alloc (.mapIter none 0 #[] 0)) = _ := fun ty => run_next_nilMap w1 ty 0 0 #[]
  have HBE : Hid (Below X.heap.size X (w1.alloc (.mapIter none 0 #[] 0))) := HB.out.alloc HB.out.size _
  go_wp2
  refine wp_loop_rounds 1 ?_
  rw [rounds_succ]
  go_wp2
  go_ret2
  exact ⟨rfl, HBE.out⟩
/-- slices.Sort's two contracts at this dump. -/
theorem sortsA (m : Nat) : AnyZI.SortsIn Tryz.prog Tryz.sortedA_ren Fence.wide m :=
  ⟨fun blk off cap ss W hH hblk hsz => callsIn_wide.2 (AnyM.slices_Sort_int Tryz.sortA blk off cap ss W hH hblk hsz),
   fun p cap W => callsIn_wide.2 (AnyM.slices_Sort_int_none Tryz.sortA p cap W)⟩
theorem keys_any (mb : Option Nat) (W : World) : Calls Tryz.prog 61 #[.map mb] W fun e w' => e = .returned (.func (.func 89) #[] #[.pointer (some ⟨W.heap.size, 0, none⟩)]) ∧ w' = W.alloc (.cells #[.map mb] 78) :=
  callsIn_wide.1 (AnyZI.keys_in Tryz.keysA Fence.wide 5 trivial rfl mb W)
theorem sorted_none (w : World) : Calls Tryz.prog 60 #[.func (.func 89) #[] #[.pointer (some ⟨w.heap.size, 0, none⟩)]] (w.alloc (.cells #[.map none] 78)) fun e w' => e = .returned (.slice none 0 0) ∧ Below w.heap.size w w' := by
  have hseq : SeqGives Fence.wide 2 Tryz.prog 89 #[.pointer (some ⟨w.heap.size, 0, none⟩)] encZ (fun ss : List Int => ss = []) 0 (w.alloc (.cells #[.map none] 78)) :=
    AnyZI.keys_gives_nil (ρ := Tryz.keysA_ren) { Tryz.keysA with } Fence.wide _ trivial rfl w.heap.size _ (by simp) (by simp)
  have cS := AnyZI.sorted_in Tryz.sortedA Fence.wide 5 trivial trivial trivial trivial rfl (by omega) (sortsA _) (enters_of Tryz.func88 (by kernel_rfl) rfl) 89 #[.pointer (some ⟨w.heap.size, 0, none⟩)] trivial (enters_of Tryz.func89 (by kernel_rfl) rfl) _ 0 (Nat.zero_le _) (by omega) _ hseq
  change CallsIn _ _ Tryz.prog 60 _ _ _ at cS
  refine Calls.mono (callsIn_wide.1 cS) ?_
  rintro e w' ⟨v, ss, rfl, rfl, hrow, hnil, hb⟩
  obtain rfl : v = .slice none 0 0 := hnil.2 rfl
  exact ⟨rfl, ((Below.refl _ w).alloc (Nat.le_refl _) _).trans (hb.mono (by simp))⟩
end
end Go.Proofs.YtekbppfocnbhbaaGreat.XC
