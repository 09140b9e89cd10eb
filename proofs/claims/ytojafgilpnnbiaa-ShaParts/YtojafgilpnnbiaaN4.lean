/- Contracts: the methods of what is not there; nothing; the law's num. -/
import Derived.Test.YtojafgilpnnbiaaW4
import Derived.Deep.MidRow
set_option linter.unusedVariables false
set_option linter.unusedSimpArgs false
namespace Go.Proofs.Ytojafgilpnnbiaa
open Go.RowKit

/-- Noughts. -/
abbrev Z32 : Array Value := #[.int .u8 0, .int .u8 0, .int .u8 0, .int .u8 0, .int .u8 0, .int .u8 0, .int .u8 0, .int .u8 0, .int .u8 0, .int .u8 0, .int .u8 0, .int .u8 0, .int .u8 0, .int .u8 0, .int .u8 0, .int .u8 0, .int .u8 0, .int .u8 0, .int .u8 0, .int .u8 0, .int .u8 0, .int .u8 0, .int .u8 0, .int .u8 0, .int .u8 0, .int .u8 0, .int .u8 0, .int .u8 0, .int .u8 0, .int .u8 0, .int .u8 0, .int .u8 0]
theorem eqz (w : World) : (Op.equalIn 10000 25 (.agg Z32) (.agg Z32)).run Try.prog w = .ok true w := by
  have := run_equalIn_bytes (P := Try.prog) w 9998 25 5 32 Try.underlying25 Try.underlying5 size_u8 (List.replicate 32 0) (List.replicate 32 0) (by simp) (by simp)
  rw [show (List.replicate 32 (0 : UInt8) == List.replicate 32 0) = true by simp] at this
  exact this

theorem buildz (w : World) : (Instr.build 25 #[]).run Try.prog w = .ok (.agg Z32) w := run_build w _ _ _ (by kernel_rfl)
theorem z32_one : Z32.all (·.oneCell') = true := by
  have := B8_onea (List.replicate 32 0)
  exact this
theorem results_dig2 {fn : Func} {p u : Tmp} (h : fn.results = #[.cell p 25, .tmp u]) (tmps : Array Value) (w : World) (g : Nat) (t : TypeId) (cs : Array Value) (fr : Nat × Nat) (x : Value)
    (hp : tmps.getD p undef = .pointer (some ⟨g, 0, none⟩)) (hx : tmps.getD u undef = x) (hg : w.heap[g]? = some (.cells cs t fr)) (hi : (Try.prog.info? 25).map (·.size) = some cs.size) :
    (results fn tmps).run Try.prog w = .ok (.tuple #[.agg cs, x]) w := by
  rw [results_cell_tmp h, hp, hx]
  simp [asAddr, run_loadVar_row w g t 25 cs fr _ hg Try.underlying25 rfl hi]

theorem num_any (n : Int) (w : World) : Calls Try.prog 24 #[.int .i64 n] w fun e w' => e = .returned (.int .i64 n) ∧ w = w' := by
  go_enter Try.func24, Try.ntmps24
  go_wp2
  go_ret
  exact ⟨rfl, rfl⟩

theorem none_nil (w : World) : Calls Try.prog 41 #[.pointer none] w fun e w' => e = .returned (.bool true) ∧ w = w' := by
  go_enter Try.func41, Try.ntmps41
  go_wp2
  go_ret
  exact ⟨rfl, rfl⟩

theorem none_at (b : Nat) (m : Bool) (w : World) (hc : w.cell? ⟨b, 0, none⟩ = some (.bool m)) : Calls Try.prog 41 #[.pointer (some ⟨b, 0, none⟩)] w fun e w' => e = .returned (.bool (!m)) ∧ w = w' := by
  cases m
  all_goals
    go_enter Try.func41, Try.ntmps41
    go_wp2
    go_ret
    exact ⟨rfl, rfl⟩

/-- It is not there, here and later. -/
def Nn (hv : Value) (w : World) : Prop := ∀ W, Below w.heap.size w W → Calls Try.prog 41 #[hv] W fun e w' => e = .returned (.bool true) ∧ W = w'
theorem Nn.below {hv : Value} {w a : World} (h : Nn hv w) (hb : Below w.heap.size w a) : Nn hv a := fun W hW => h W (hb.trans (hW.mono hb.size))
theorem Nn.nil (w : World) : Nn (.pointer none) w := fun W _ => none_nil W
theorem Nn.zero (b : Nat) (w : World) (hc : w.cell? ⟨b, 0, none⟩ = some (.bool false)) : Nn (.pointer (some ⟨b, 0, none⟩)) w := fun W hW => none_at b false W ((hW.cell (block_lt hc)).trans hc)

set_option maxHeartbeats 1000000 in
theorem sumM_none (hv : Value) (w : World) (h : Nn hv w) : Calls Try.prog 26 #[hv] w fun e w' => e = .returned (.tuple #[.agg Z32, .int .i64 1]) ∧ Below w.heap.size w w' := by
  have hh := fun o => h (w.alloc o) ((Below.refl _ _).alloc (Nat.le_refl _) _)
  clear h
  go_enter Try.func26, Try.ntmps26
  go_wp2_with fail
  refine (hh _).mono ?_
  rintro e w1 ⟨rfl, hw⟩
  have G : Hid (w1.heap[w.heap.size]? = some (.cells Z32 25 (0, 0))) := by rw [← hw]; exact heap_alloc_new _ _
  have hb : Below w.heap.size w w1 := by rw [← hw]; exact (Below.refl _ _).alloc (Nat.le_refl _) _
  clear hw hh
  go_wp2_with (refine wpList_store_row rfl 25 _ _ rfl w.heap.size Z32 rfl rfl 25 _ G.out (by kernel_rfl) rfl z32_one ?_)
  refine bodyPost_ret (v := .tuple #[.agg Z32, .int .i64 1]) ?_ rfl ⟨rfl, below_setRow hb (Nat.le_refl _) _⟩
  exact results_dig2 Try.results26 _ _ w.heap.size 25 _ (0, 0) _ rfl rfl (setRow_heap _ _ _ _ _ _ G.out) (by kernel_rfl)

theorem writeM_none (hv v : Value) (w : World) (h : Nn hv w) : Calls Try.prog 25 #[hv, v] w fun e w' => e = .returned (.int .i64 1) ∧ w = w' := by
  have hh := h w (Below.refl _ _)
  clear h
  go_enter Try.func25, Try.ntmps25
  go_wp2_with fail
  refine hh.mono ?_
  rintro e w1 ⟨rfl, rfl⟩
  go_wp2
  go_ret
  exact ⟨rfl, rfl⟩

theorem lenM_none (hv : Value) (w : World) (h : Nn hv w) : Calls Try.prog 27 #[hv] w fun e w' => e = .returned (.int .i64 0) ∧ w = w' := by
  have hh := h w (Below.refl _ _)
  clear h
  go_enter Try.func27, Try.ntmps27
  go_wp2_with fail
  refine hh.mono ?_
  rintro e w1 ⟨rfl, rfl⟩
  go_wp2
  go_ret
  exact ⟨rfl, rfl⟩

theorem copyM_none (hv : Value) (w : World) (h : Nn hv w) : Calls Try.prog 28 #[hv] w fun e w' => e = .returned (.pointer none) ∧ w = w' := by
  have hh := h w (Below.refl _ _)
  clear h
  go_enter Try.func28, Try.ntmps28
  go_wp2_with fail
  refine hh.mono ?_
  rintro e w1 ⟨rfl, rfl⟩
  go_wp2
  go_ret
  exact ⟨rfl, rfl⟩

set_option maxHeartbeats 2000000 in
theorem nothing_any (hv : Value) (w : World) (h : Nn hv w) : Calls Try.prog 29 #[hv] w fun e w' => e = .returned (.bool true) ∧ Below w.heap.size w w' := by
  have hsum := sumM_none hv w h
  have hwr := fun W hW => writeM_none hv (.slice none 0 0) W (h.below hW)
  have hln := fun W hW => lenM_none hv W (h.below hW)
  have hcp := fun W hW => copyM_none hv W (h.below hW)
  have hnum := fun n W => num_any n W
  obtain ⟨ZZ, hZZ⟩ : ∃ ZZ, ZZ = Z32 := ⟨_, rfl⟩
  rw [← hZZ] at hsum
  have heq : ∀ W, (Op.equalIn 10000 25 (.agg ZZ) (.agg Z32)).run Try.prog W = .ok true W := fun W => by rw [hZZ]; exact eqz W
  have hi : (Try.prog.info? 25).map (·.size) = some ZZ.size := by rw [hZZ]; kernel_rfl
  have ho : (32 : Nat) = ZZ.size := by rw [hZZ]; rfl
  have h1 : ZZ.all (·.oneCell') = true := by rw [hZZ]; exact z32_one
  have HI : Hid _ := hi
  have HO : Hid _ := ho
  have H1 : Hid _ := h1
  clear hi ho h1 hZZ h
  go_enter Try.func29, Try.ntmps29
  go_wp2_with fail
  refine hsum.mono ?_
  rintro e w1 ⟨rfl, hb1⟩
  have hs1 := hb1.size
  go_wp2_with (first
    | (refine wpList_store_row rfl 25 _ _ rfl w1.heap.size ZZ rfl rfl 25 _ (heap_alloc_new _ _) HI.out HO.out H1.out ?_)
    | (refine wpList_load_row rfl 25 _ rfl w1.heap.size rfl 25 ZZ (0, 0) _ (setRow_heap _ _ _ _ _ _ (heap_alloc_new _ _)) Try.underlying25 rfl HI.out ?_))
  have hb2 : Below w.heap.size w ((w1.alloc (.cells Z32 25)).setRow w1.heap.size ZZ) := below_setRow (hb1.alloc hs1 _) hs1 _
  refine (hnum _ _).mono ?_
  rintro e wx ⟨rfl, rfl⟩
  go_wp2_with fail
  refine (hwr _ hb2).mono ?_
  rintro e wx ⟨rfl, rfl⟩
  go_wp2_with fail
  refine (hnum _ _).mono ?_
  rintro e wx ⟨rfl, rfl⟩
  go_wp2_with fail
  refine (hln _ hb2).mono ?_
  rintro e wx ⟨rfl, rfl⟩
  go_wp2_with fail
  refine (hcp _ hb2).mono ?_
  rintro e wx ⟨rfl, rfl⟩
  go_wp2
  go_ret
  exact ⟨rfl, hb2⟩

end Go.Proofs.Ytojafgilpnnbiaa
