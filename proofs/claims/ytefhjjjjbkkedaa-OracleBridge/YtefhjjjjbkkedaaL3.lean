/- Contracts of sha's constants and starts. -/
import Derived.Test.YtefhjjjjbkkedaaK3
import Derived.Laws.CopyOwn
set_option linter.unusedVariables false
set_option linter.unusedSimpArgs false
namespace Go.Proofs.Ytefhjjjjbkkedaa
open Go.RowKit

theorem below_blk {B i : Nat} {w w' : World} {o : Obj} (h : Below B w w') (hi : i < B) (ho : w.heap[i]? = some o) : w'.heap[i]? = some o := (h.block i hi).trans ho
theorem alloc2_first (w : World) (A C : Obj) : ((w.alloc A).alloc C).heap[w.heap.size]? = some A := by
  rw [Below.heap_alloc _ _ _ (by simp), heap_alloc_new]
theorem W32_one (l : List UInt32) : (l.map W32).toArray.all (·.oneCell') = true := by
  rw [Array.all_eq_true_iff_forall_mem]
  intro v hv
  simp only [List.mem_toArray, List.mem_map] at hv
  obtain ⟨x, _, rfl⟩ := hv
  rfl

theorem cell_far (w : World) (p a : Addr) (v : Value) (h : a.block ≠ p.block) : (w.setCell p v).cell? a = w.cell? a := by
  unfold World.cell?; rw [heap_setCell_other _ _ _ _ h]

set_option maxHeartbeats 4000000 in
theorem shaConstants_any (w : World) : Calls Try.prog 60 #[] w fun e w' => e = .returned (.agg (K64.map W32).toArray) ∧ Below w.heap.size w w' := by
  have hPl : (Pr 310).length = 64 := tabM64
  have hPg : ∀ i, i < 64 → (Pr 310).getD i 0 = P64.getD i 0 := fun i _ => by rw [tabP64]
  obtain ⟨PL, hPL⟩ : ∃ PL, PL = Pr 310 := ⟨_, rfl⟩
  have hprim := fun w0 => primes_any 64 310 w0 (by decide) (by decide) first64
  rw [← hPL] at hPl hPg
  simp only [← hPL] at hprim
  rw [hPl] at hprim
  have HPG : Hid _ := hPg
  have HPL : Hid _ := hPl
  clear hPL hPg hPl
  go_enter Try.func60, Try.ntmps60
  go_wp2_with fail
  refine (hprim _).mono ?_
  rintro e w1 ⟨g, cap, rfl, hfq, hb1⟩
  have hR := below_blk hb1 (i := w.heap.size) (by simp; omega) (alloc2_first _ _ _)
  have hT := below_blk hb1 (i := w.heap.size + 1) (by simp) (heap_alloc2_new _ _ _)
  have hT0 : w1.heap[w.heap.size + 1]? = some (.cells ((part 64 K64 0).map W32).toArray 112 (0, 0)) := hT
  have hR0 : w1.heap[w.heap.size]? = some (.cells ((part 64 K64 0).map W32).toArray 112 (0, 0)) := hR
  have hb : Below w.heap.size w w1 := (((Below.refl _ _).alloc (Nat.le_refl _) _).alloc (by simp) _).trans (hb1.mono (by simp; omega))
  have hs1 : w.heap.size + 2 ≤ w1.heap.size := by have := hb1.size; simp at this; omega
  have hgc : ∀ i, i < 64 → w1.cell? ⟨g, i, none⟩ = some (.int .u64 ((P64.getD i 0 : Nat) : Int)) := fun i hi => by
    rw [hfq.cell i (by rw [HPL.out]; exact hi), HPG.out i hi]
  have hg2 : w.heap.size + 2 ≤ g ∧ g < w1.heap.size := by
    have h0 := block_lt (hgc 0 (by decide))
    rcases hfq.2 with ⟨h1, h2⟩ | ⟨g', cap', cur, h1, h2, _⟩
    · simp at h1
    · simp only [Value.slice.injEq, Option.some.injEq, Addr.mk.injEq] at h1
      have h3 := h1.1.1
      simp at h2 h0
      omega
  have HGC : Hid _ := hgc
  have HR0 : Hid _ := hR0
  have HT0 : Hid _ := hT0
  clear hR hT hR0 hT0 hgc hfq hprim hb1
  go_wp2
  go_loopw [6] (fun i wr => ∃ k : Nat, k ≤ 64 ∧ i = .int .i64 k ∧ wr.heap[w.heap.size + 1]? = some (.cells ((part 64 K64 k).map W32).toArray 112 (0, 0)) ∧ wr.heap[w.heap.size]? = some (.cells ((part 64 K64 0).map W32).toArray 112 (0, 0)) ∧ (∀ i, i < 64 → wr.cell? ⟨g, i, none⟩ = some (.int .u64 ((P64.getD i 0 : Nat) : Int))) ∧ w1.heap.size ≤ wr.heap.size ∧ Below w.heap.size w wr) (fun i _ => 64 - (intOf i).toNat)
  case atStart => exact ⟨0, by omega, rfl, HT0.out, HR0.out, HGC.out, Nat.le_refl _, hb⟩
  case round =>
    obtain ⟨k, hk, rfl, hT, hR, hg, hs, hbel⟩ := hrel
    have HT : Hid _ := hT
    have HR : Hid _ := hR
    have HG : Hid _ := hg
    have hsz := hbel.size
    clear HGC HR0 HT0 hb hR
    by_cases hlt : k < 64
    · have hcx := hg k hlt
      have hset := part_set 64 K64 k rfl hlt
      obtain ⟨u, hu⟩ := part_cell 64 K64 k rfl hlt
      have hcu := cell_of_row _ _ k _ _ _ hT
      rw [hu] at hcu
      have hfu := frozen_of_row _ _ k _ _ hT
      have hpl := P64_lt k (by omega)
      have hgr := grtK k hlt
      have HSET : Hid _ := hset
      clear hset hg hT hu
      generalize P64.getD k 0 = p at *
      generalize K64.getD k 0 = x at *
      obtain ⟨G, hG⟩ : ∃ G, G = grt (cbB p) 35 := ⟨_, rfl⟩
      have hcl := fun w0 hc => greatestConstants_any (cbB p) wr.heap.size w0 (fun y hy => cubeOf_any y p wr.heap.size (by omega) (by omega) w0 hc)
      rw [← hG] at hgr
      simp only [← hG] at hcl
      have HGR : Hid _ := hgr
      clear hG hgr
      have hlw : w.heap.size + 1 < wr.heap.size := by omega
      go_wp2_with fail
      refine (hcl _ (World.cell?_alloc_at _ _ _ _ rfl)).mono ?_
      rintro e wx ⟨rfl, rfl⟩
      go_wp2
      go_roundw
      case rel =>
        have hx : W32 x = .int .u32 ((G : Int) % 4294967296) := by unfold W32; rw [← HGR.out, IntKind.wrap_u32]
        refine ⟨k + 1, by omega, by go_num, ?_, ?_, ?_, by simp; omega, (hbel.setCell (p := ⟨w.heap.size + 1, k, none⟩) (by simp) _).alloc (by simp; omega) _⟩
        · rw [← HSET.out, hx]
          exact (Below.heap_alloc _ _ _ (by simpa using hlw)).trans (heap_setCell_same _ (w.heap.size + 1) k _ 112 _ HT.out)
        · rw [Below.heap_alloc _ _ _ (by simp; omega), heap_setCell_other _ _ _ _ (by simp)]; exact HR.out
        · intro i hi
          rw [World.cell?_alloc_past _ _ _ (by simp; omega), cell_far _ _ _ _ (by simp; omega)]; exact HG.out i hi
      case measure => simp [intOf]; omega
    · have hk' : k = 64 := by omega
      subst hk'
      have hT' := hT
      rw [part_all 64 K64 rfl] at hT'
      have HT' : Hid _ := hT'
      clear hT HT hT'
      go_wp2_with (first
        | (refine wpList_load_row rfl 112 _ rfl (w.heap.size + 1) rfl 112 _ (0, 0) _ HT'.out Try.underlying112 rfl (by kernel_rfl) ?_)
        | (refine wpList_store_row rfl 112 _ _ rfl w.heap.size _ rfl rfl 112 _ HR.out (by kernel_rfl) rfl (W32_one _) ?_))
      refine bodyPost_ret (v := .agg (K64.map W32).toArray) ?_ rfl ⟨rfl, below_setRow hbel (Nat.le_refl _) _⟩
      exact results_cell_row Try.results60 _ _ w.heap.size 112 _ (0, 0) _ rfl (setRow_heap _ _ _ _ _ _ HR.out) Try.underlying112 rfl (by kernel_rfl)

set_option maxHeartbeats 4000000 in
theorem shaStarts_any (w : World) : Calls Try.prog 50 #[] w fun e w' => e = .returned (.agg (H8.map W32).toArray) ∧ Below w.heap.size w w' := by
  have hPl : (Pr 18).length = 8 := tabM8
  have hPg : ∀ i, i < 8 → (Pr 18).getD i 0 = P64.getD i 0 := fun i hi => by rw [tabP8, tkp_get i hi]
  obtain ⟨PL, hPL⟩ : ∃ PL, PL = Pr 18 := ⟨_, rfl⟩
  have hprim := fun w0 => primes_any 8 18 w0 (by decide) (by decide) first8
  rw [← hPL] at hPl hPg
  simp only [← hPL] at hprim
  rw [hPl] at hprim
  have HPG : Hid _ := hPg
  have HPL : Hid _ := hPl
  clear hPL hPg hPl
  go_enter Try.func50, Try.ntmps50
  go_wp2_with fail
  refine (hprim _).mono ?_
  rintro e w1 ⟨g, cap, rfl, hfq, hb1⟩
  have hR := below_blk hb1 (i := w.heap.size) (by simp; omega) (alloc2_first _ _ _)
  have hT := below_blk hb1 (i := w.heap.size + 1) (by simp) (heap_alloc2_new _ _ _)
  have hT0 : w1.heap[w.heap.size + 1]? = some (.cells ((part 8 H8 0).map W32).toArray 97 (0, 0)) := hT
  have hR0 : w1.heap[w.heap.size]? = some (.cells ((part 8 H8 0).map W32).toArray 97 (0, 0)) := hR
  have hb : Below w.heap.size w w1 := (((Below.refl _ _).alloc (Nat.le_refl _) _).alloc (by simp) _).trans (hb1.mono (by simp; omega))
  have hs1 : w.heap.size + 2 ≤ w1.heap.size := by have := hb1.size; simp at this; omega
  have hgc : ∀ i, i < 8 → w1.cell? ⟨g, i, none⟩ = some (.int .u64 ((P64.getD i 0 : Nat) : Int)) := fun i hi => by
    rw [hfq.cell i (by rw [HPL.out]; exact hi), HPG.out i hi]
  have hg2 : w.heap.size + 2 ≤ g ∧ g < w1.heap.size := by
    have h0 := block_lt (hgc 0 (by decide))
    rcases hfq.2 with ⟨h1, h2⟩ | ⟨g', cap', cur, h1, h2, _⟩
    · simp at h1
    · simp only [Value.slice.injEq, Option.some.injEq, Addr.mk.injEq] at h1
      have h3 := h1.1.1
      simp at h2 h0
      omega
  have HGC : Hid _ := hgc
  have HR0 : Hid _ := hR0
  have HT0 : Hid _ := hT0
  clear hR hT hR0 hT0 hgc hfq hprim hb1
  go_wp2
  go_loopw [6] (fun i wr => ∃ k : Nat, k ≤ 8 ∧ i = .int .i64 k ∧ wr.heap[w.heap.size + 1]? = some (.cells ((part 8 H8 k).map W32).toArray 97 (0, 0)) ∧ wr.heap[w.heap.size]? = some (.cells ((part 8 H8 0).map W32).toArray 97 (0, 0)) ∧ (∀ i, i < 8 → wr.cell? ⟨g, i, none⟩ = some (.int .u64 ((P64.getD i 0 : Nat) : Int))) ∧ w1.heap.size ≤ wr.heap.size ∧ Below w.heap.size w wr) (fun i _ => 8 - (intOf i).toNat)
  case atStart => exact ⟨0, by omega, rfl, HT0.out, HR0.out, HGC.out, Nat.le_refl _, hb⟩
  case round =>
    obtain ⟨k, hk, rfl, hT, hR, hg, hs, hbel⟩ := hrel
    have HT : Hid _ := hT
    have HR : Hid _ := hR
    have HG : Hid _ := hg
    have hsz := hbel.size
    clear HGC HR0 HT0 hb hR
    by_cases hlt : k < 8
    · have hcx := hg k hlt
      have hset := part_set 8 H8 k rfl hlt
      obtain ⟨u, hu⟩ := part_cell 8 H8 k rfl hlt
      have hcu := cell_of_row _ _ k _ _ _ hT
      rw [hu] at hcu
      have hfu := frozen_of_row _ _ k _ _ hT
      have hpl := P64_lt k (by omega)
      have hgr := grtH k hlt
      have HSET : Hid _ := hset
      clear hset hg hT hu
      generalize P64.getD k 0 = p at *
      generalize H8.getD k 0 = x at *
      obtain ⟨G, hG⟩ : ∃ G, G = grt (sqB p) 35 := ⟨_, rfl⟩
      have hcl := fun w0 hc => greatestStarts_any (sqB p) wr.heap.size w0 (fun y hy => squareOf_any y p wr.heap.size (by omega) (by omega) w0 hc)
      rw [← hG] at hgr
      simp only [← hG] at hcl
      have HGR : Hid _ := hgr
      clear hG hgr
      have hlw : w.heap.size + 1 < wr.heap.size := by omega
      go_wp2_with fail
      refine (hcl _ (World.cell?_alloc_at _ _ _ _ rfl)).mono ?_
      rintro e wx ⟨rfl, rfl⟩
      go_wp2
      go_roundw
      case rel =>
        have hx : W32 x = .int .u32 ((G : Int) % 4294967296) := by unfold W32; rw [← HGR.out, IntKind.wrap_u32]
        refine ⟨k + 1, by omega, by go_num, ?_, ?_, ?_, by simp; omega, (hbel.setCell (p := ⟨w.heap.size + 1, k, none⟩) (by simp) _).alloc (by simp; omega) _⟩
        · rw [← HSET.out, hx]
          exact (Below.heap_alloc _ _ _ (by simpa using hlw)).trans (heap_setCell_same _ (w.heap.size + 1) k _ 97 _ HT.out)
        · rw [Below.heap_alloc _ _ _ (by simp; omega), heap_setCell_other _ _ _ _ (by simp)]; exact HR.out
        · intro i hi
          rw [World.cell?_alloc_past _ _ _ (by simp; omega), cell_far _ _ _ _ (by simp; omega)]; exact HG.out i hi
      case measure => simp [intOf]; omega
    · have hk' : k = 8 := by omega
      subst hk'
      have hT' := hT
      rw [part_all 8 H8 rfl] at hT'
      have HT' : Hid _ := hT'
      clear hT HT hT'
      go_wp2_with (first
        | (refine wpList_load_row rfl 97 _ rfl (w.heap.size + 1) rfl 97 _ (0, 0) _ HT'.out Try.underlying97 rfl (by kernel_rfl) ?_)
        | (refine wpList_store_row rfl 97 _ _ rfl w.heap.size _ rfl rfl 97 _ HR.out (by kernel_rfl) rfl (W32_one _) ?_))
      refine bodyPost_ret (v := .agg (H8.map W32).toArray) ?_ rfl ⟨rfl, below_setRow hbel (Nat.le_refl _) _⟩
      exact results_cell_row Try.results50 _ _ w.heap.size 97 _ (0, 0) _ rfl (setRow_heap _ _ _ _ _ _ HR.out) Try.underlying97 rfl (by kernel_rfl)

end Go.Proofs.Ytefhjjjjbkkedaa
