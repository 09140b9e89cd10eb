import Derived.Test.YtekbppfocnbhbaaGreatQM
import Derived.RangeFuncLeaves
import Derived.RangeFuncMany
import Derived.Test.YtekbppfocnbhbaaGreatXW
import Derived.Shelf.SlIterI.Nil
import Derived.Shelf.SortM.Plain
import Derived.Shelf.SortM.SortNone
import Derived.Ground.GgzProg
import Derived.Ground.SlgmProg
import Derived.Test.YtekbppfocnbhbaaGreatProg
import Derived.Shelf.SlMaps.Clone
import Derived.Test.YtekbppfocnbhbaaGreatQd
import Derived.RangeFuncFrom
import Derived.OwnWalkIn
import Derived.TacticsInMore
import Derived.RegionIn
import Derived.LoopNIn
import Derived.LoopIn
import Derived.RangeFuncWrites
import Derived.RangeFuncCalls
import Derived.Deep.RegionHeld3
import Derived.Test.YtekbppfocnbhbaaGreatXX
set_option linter.unusedVariables false
set_option linter.unusedSimpArgs false
set_option maxHeartbeats 16000000
set_option maxRecDepth 100000
namespace Go.Proofs.YtekbppfocnbhbaaGreat.R5
open scoped Classical
open Go.RowKit
theorem calls_marks {f : FuncId} {fn : Func} {c : Code} {args : Array Value} {w : World} {R : Ending → World → Prop} (hf : Tryz.prog.funcs[f]? = some fn) (hb : fn.body = some c)
    (h : c.wp Tryz.prog (bodyPostM Fence.wide 9 Tryz.prog fn R) { tmps := args ++ Array.replicate (fn.ntmps - args.size) undef, defers := [] } w) : Calls Tryz.prog f args w R :=
  callsIn_wide.1 (callsIn_of_wp_marks (F := Fence.wide) (n := 9) hf hb trivial (wpIn_wide.2 h))
theorem marks_ret {fn : Func} {R : Ending → World → Prop} {tmps : Array Value} {v : Value} : ∀ (Ds : List Nat) (w : World), (∀ D ∈ Ds, w.heap[D]? = some (.deferred (some []))) → Ds.Nodup →
    (∀ w', w'.heap.size = w.heap.size → w'.os = w.os → w'.tape = w.tape → w'.output = w.output → (∀ k, k ∉ Ds → w'.heap[k]? = w.heap[k]?) → (results fn tmps).run Tryz.prog w' = .ok v w' ∧ R (.returned v) w') →
    LeavesInM Fence.wide 9 Tryz.prog fn tmps R (Ds.map fun D => { target := .collected D, args := #[] }) .returning w
  | [], w, _, _, h => by
    obtain ⟨h1, h2⟩ := h w rfl rfl rfl rfl (fun _ _ => rfl)
    exact ⟨v, h1, h2⟩
  | D :: Ds, w, hD, hn, h => by
    have h0 := hD D (by simp)
    obtain ⟨hn1, hn2⟩ := List.nodup_cons.1 hn
    refine ⟨by simp, .inl ⟨D, _, rfl, run_takeDeferred h0, ?_⟩⟩
    refine marks_ret Ds _ (fun E hE => ?_) hn2 (fun w' h1 h2 h3 h4 h5 => h w' (by rw [h1]; simp) h2 h3 h4 (fun k hk => ?_))
    · have hne : E ≠ D := fun e => hn1 (e ▸ hE)
      rw [World.putObj_heap_other hne]; exact hD E (by simp [hE])
    · simp only [List.mem_cons, not_or] at hk
      rw [h5 k hk.2, World.putObj_heap_other hk.1]
theorem results_bool {fn : Func} {p : Tmp} (h : fn.results = #[.cell p 4]) (tmps : Array Value) (w : World) (g : Nat) (b : Bool) (hp : tmps.getD p undef = .pointer (some ⟨g, 0, none⟩)) (hc : w.cell? ⟨g, 0, none⟩ = some (.bool b)) :
    (results fn tmps).run Tryz.prog w = .ok (.bool b) w := by
  have hp' : tmps[p]?.getD undef = .pointer (some ⟨g, 0, none⟩) := by simpa using hp
  have ha : (isAgg 4).run Tryz.prog w = .ok false w := by kernel_rfl
  have hl : (load ⟨g, 0, none⟩).run Tryz.prog w = .ok (.bool b) w := by go_simp
  simp [results, h, hp', asAddr, loadVar, ha, hl, hc]
end Go.Proofs.YtekbppfocnbhbaaGreat.R5
namespace Go.Proofs.YtekbppfocnbhbaaGreat.XC
open Go.RowKit Go.Maps Go.Sort Go.Shelf
section
variable {pv : Value} {X : World}
theorem sortsA (m : Nat) : AnyZI.SortsIn Tryz.prog Tryz.sortedA_ren Fence.wide m :=
  ⟨fun blk off cap ss W hH hblk hsz => callsIn_wide.2 (AnyM.slices_Sort_int Tryz.sortA blk off cap ss W hH hblk hsz),
   fun p cap W => callsIn_wide.2 (AnyM.slices_Sort_int_none Tryz.sortA p cap W)⟩
theorem keys_any (mb : Option Nat) (W : World) : Calls Tryz.prog 61 #[.map mb] W fun e w' => e = .returned (.func (.func 89) #[] #[.pointer (some ⟨W.heap.size, 0, none⟩)]) ∧ w' = W.alloc (.cells #[.map mb] 78) :=
  callsIn_wide.1 (AnyZI.keys_in Tryz.keysA Fence.wide 5 trivial rfl mb W)
end
open Go.WideElems (Fit rd rg)
def trR : Value → Option (DataW Unit × List MemPlace) := fun _ => some (.nil, [])
theorem tr_rd {e : MapEntry} {i : Int} (hi : iOk i) (h : e.key = .int .i64 i) : rd Tryz.prog 3 trR e = some (.int .i64 i, .nil) := by
  unfold Go.WideElems.rd
  rw [h, key_i hi]
  rfl
theorem MR.owns {w : World} {mb : Nat} {l : List En} (h : MR w mb l) (hl : l.length ≤ maxLen) : ∃ D : DataW Unit, w.ownsMap Tryz.prog 3 trR mb l.length D ∧ (intKeys D).Perm (l.map (·.1)) ∧ Maps.size D = l.length := by
  obtain ⟨es, clock, hb, he, hs⟩ := h.ex
  have hlen := MR.lenes he
  have hlen' : es.size = l.length := by simpa using hlen
  refine ⟨.map ((es.toList.map (rg Tryz.prog 3 trR)).foldr DataW.insert []), ⟨es, clock, hb, ⟨by omega, hs, fun e hx => ?_⟩, by omega, rfl⟩, ?_, ?_⟩
  · obtain ⟨x, hx, e1, e2⟩ := MR.mem he hx
    exact ⟨_, tr_rd (h.iok x hx) e1⟩
  · unfold intKeys
    refine (List.Perm.map _ (Go.WideShapes.sorted_perm _)).trans ?_
    rw [List.map_map]
    refine List.Perm.of_eq (List.ext_getElem? fun j => ?_)
    rw [List.getElem?_map, List.getElem?_map]
    cases hj : es.toList[j]? with
    | none =>
      have : l[j]? = none := by rw [List.getElem?_eq_none_iff] at hj ⊢; omega
      rw [this]; rfl
    | some e =>
      obtain ⟨x, hx, e1, e2⟩ := MR.at he hj
      rw [hx]
      simp only [Option.map_some, Function.comp]
      rw [Go.WideElems.rg_of (tr_rd (h.iok x (List.mem_of_getElem? hx)) e1)]
      rfl
  · show ((es.toList.map (rg Tryz.prog 3 trR)).foldr DataW.insert []).length = _
    rw [(Go.WideShapes.sorted_perm _).length_eq]; simpa using hlen
theorem cloneI_any {mb : Nat} {es : Array MapEntry} {clock : Nat} (w : World) (hb : w.heap[mb]? = some (.map es clock)) :
    Calls Tryz.prog 59 #[.map (some mb)] w fun e w' => e = .returned (.map (some w.heap.size)) ∧ w' = w.alloc (.map es clock) := by
  have hq := fun w => run_eql_map_nil_sl (P := Tryz.prog) w 78 _ _ (some mb) Tryz.underlying78
  go_enter Tryz.func59, Tryz.ntmps59
  go_wp2
  rw [run_callFunc_extern Tryz.func86 (by kernel_rfl) (by kernel_rfl) (by kernel_rfl) (e := Extern.MapsClone.clone) (by kernel_rfl), run_maps_clone_sl w 78 hb]
  simp only [Result.andThen]
  rw [Oper.upon_value]
  go_wp2
  rw [run_typeAssert_map_sl _ 78 _ _ _ _ Tryz.underlying78]
  simp only [Result.andThen]
  rw [Oper.upon_value]
  go_wp2
  go_ret
  exact ⟨rfl, rfl⟩
def SortEnd (w : World) (l : List En) (e : Ending) (w' : World) : Prop := ∃ v ss, e = .returned v ∧ List.Perm ss (l.map (·.1)) ∧ w'.ownsRow w.heap.size 3 1 v ss.length ((ss.mergeSort (fun x y : Int => decide (x ≤ y))).map encZ) ∧ Below w.heap.size w w'
theorem sorted_any {w : World} {b : Nat} {l : List En} (h : MR w b l) (hl : l.length ≤ 1000000) (q : Nat) (hq : q = w.heap.size) :
    Calls Tryz.prog 60 #[.func (.func 89) #[] #[.pointer (some ⟨q, 0, none⟩)]] (w.alloc (.cells #[.map (some b)] 78)) fun e w' => SortEnd w l e w' := by
  subst hq
  have hlt := h.lt
  have h' : MR (w.alloc (.cells #[.map (some b)] 78)) b l := h.keep (heap_alloc_old _ _ hlt)
  obtain ⟨D, hown, hperm, hsz⟩ := h'.owns (by unfold maxLen; omega)
  have hseq : SeqGives Fence.wide 2 Tryz.prog 89 #[.pointer (some ⟨w.heap.size, 0, none⟩)] encZ (fun ss => ss.Perm (intKeys D)) (Maps.size D) (w.alloc (.cells #[.map (some b)] 78)) :=
    AnyZI.keys_gives (ρ := Tryz.keysA_ren) { Tryz.keysA with } Fence.wide _ trivial rfl (by omega) w.heap.size b l.length D _ (by simp) (by simp) hown
  have cS := AnyZI.sorted_in Tryz.sortedA Fence.wide 5 trivial trivial trivial trivial rfl (by omega) (sortsA _) (enters_of Tryz.func88 (by kernel_rfl) rfl) 89 #[.pointer (some ⟨w.heap.size, 0, none⟩)] trivial (enters_of Tryz.func89 (by kernel_rfl) rfl) _ (Maps.size D) (by rw [hsz]; unfold maxLen; omega) (by rw [hsz]; omega) _ hseq
  change CallsIn _ _ Tryz.prog 60 _ _ _ at cS
  refine Calls.mono (callsIn_wide.1 cS) ?_
  rintro e w' ⟨v, ss, rfl, hss, hrow, hnil, hb⟩
  have hb2 : Below w.heap.size w w' := ((Below.refl _ w).alloc (Nat.le_refl _) _).trans (hb.mono (by simp))
  exact ⟨v, ss, rfl, hss.trans hperm, R5.own_lower hrow (by simp), hb2⟩
structure AS (X W : World) (kb nb nw cap : Nat) (p : Option Addr) (l : List En) (ks : List Int) : Prop where
  bel : Below X.heap.size X W
  kc : W.heap[kb]? = some (.cells #[.slice p ks.length cap] 123 (0, 0))
  nc : W.heap[nb]? = some (.cells #[.map (some nw)] 78 (0, 0))
  kr : ∀ (j : Nat) (z : Int), ks[j]? = some z → ∃ g, p = some ⟨g, 0, none⟩ ∧ X.heap.size ≤ g ∧ W.cell? ⟨g, j, none⟩ = some (.int .i64 z)
  mr : MR W nw l
  lo : X.heap.size ≤ kb ∧ X.heap.size ≤ nb ∧ X.heap.size ≤ nw
def KF (kb nb nw : Nat) (p : Option Addr) (k : Nat) : Prop := k = kb ∨ k = nb ∨ k = nw ∨ p = some ⟨k, 0, none⟩
theorem AS.keep {X W V : World} {kb nb nw cap : Nat} {p : Option Addr} {l : List En} {ks : List Int} (h : AS X W kb nb nw cap p l ks) (hb : Below X.heap.size X V) (hk : ∀ k, KF kb nb nw p k → V.heap[k]? = W.heap[k]?) : AS X V kb nb nw cap p l ks :=
  ⟨hb, (hk kb (.inl rfl)).trans h.kc, (hk nb (.inr (.inl rfl))).trans h.nc, fun j z hz => by
    obtain ⟨g, h1, h2, h3⟩ := h.kr j z hz
    exact ⟨g, h1, h2, (World.cell?_of_block (a := ⟨g, j, none⟩) (hk g (.inr (.inr (.inr h1))))).trans h3⟩, h.mr.keep (hk nw (.inr (.inr (.inl rfl)))), h.lo⟩
theorem cell_lt {w : World} {b o : Nat} {v : Value} (h : w.cell? ⟨b, o, none⟩ = some v) : b < w.heap.size := by
  cases hb : w.heap[b]? with
  | none => simp [World.cell?, hb] at h
  | some o => exact PC.row_lt hb
theorem AS.below {X W V : World} {kb nb nw cap : Nat} {p : Option Addr} {l : List En} {ks : List Int} (h : AS X W kb nb nw cap p l ks) (hb : Below W.heap.size W V) : AS X V kb nb nw cap p l ks := by
  refine ⟨h.bel.trans (hb.mono h.bel.size), (hb.block _ (PC.row_lt h.kc)).trans h.kc, (hb.block _ (PC.row_lt h.nc)).trans h.nc, fun j z hz => ?_, h.mr.keep (hb.block _ h.mr.lt), h.lo⟩
  obtain ⟨g, h1, h2, h3⟩ := h.kr j z hz
  exact ⟨g, h1, h2, (hb.cell (cell_lt h3)).trans h3⟩
def AllEnd (X : World) (l : List En) (e : Ending) (Y : World) : Prop := ∃ kb nb nw cap p ks, e = .returned (.func (.func 62) #[] #[.pointer (some ⟨kb, 0, none⟩), .pointer (some ⟨nb, 0, none⟩)]) ∧ AS X Y kb nb nw cap p l ks ∧ List.Perm ks (l.map (·.1)) ∧ ks.Pairwise (· ≤ ·)
theorem as_mk {X w1 V1 V2 w5 Y : World} {es : Array MapEntry} {clock : Nat} {l : List En} {v : Value} {ss : List Int} (hb1 : Below X.heap.size X w1) (hV1 : V1 = w1.alloc (.map es clock)) (hV2 : V2 = V1.alloc (.cells #[.map (some w1.heap.size)] 78 (0, 0))) (hm : MR V2 w1.heap.size l)
    (hss : List.Perm ss (l.map (·.1))) (hrow : w5.ownsRow V2.heap.size 3 1 v ss.length ((ss.mergeSort (fun x y : Int => decide (x ≤ y))).map encZ)) (hb5 : Below V2.heap.size V2 w5) (hY : Y = w5.alloc (.cells #[v] 123 (0, 0))) :
    ∃ kb nb nw cap p ks, kb = w5.heap.size ∧ nb = w1.heap.size + 1 ∧ AS X Y kb nb nw cap p l ks ∧ List.Perm ks (l.map (·.1)) ∧ ks.Pairwise (· ≤ ·) := by
  have hbV1 : Below w1.heap.size w1 V1 := by rw [hV1]; exact (Below.refl _ _).alloc (Nat.le_refl _) _
  have hs1 : V1.heap.size = w1.heap.size + 1 := by rw [hV1]; simp
  have hbV2 : Below w1.heap.size w1 V2 := by rw [hV2]; exact hbV1.alloc (by omega) _
  have hs2 : V2.heap.size = w1.heap.size + 2 := by rw [hV2]; simp [hs1]
  have hb5' : Below w1.heap.size w1 w5 := hbV2.trans (hb5.mono (by omega))
  have hs5 := hb5.size
  have hbY5 : Below w5.heap.size w5 Y := by rw [hY]; exact (Below.refl _ _).alloc (Nat.le_refl _) _
  have hbY : Below w1.heap.size w1 Y := hb5'.trans (hbY5.mono (by omega))
  have hx1 := hb1.size
  have hks : (ss.mergeSort (fun x y : Int => decide (x ≤ y))).length = ss.length := List.length_mergeSort _
  have hnb : V2.heap[w1.heap.size + 1]? = some (.cells #[.map (some w1.heap.size)] 78 (0, 0)) := by rw [hV2, ← hs1]; exact heap_alloc_new _ _
  obtain ⟨p, cap, hv⟩ : ∃ p cap, v = .slice p ss.length cap := by
    rcases hrow.2 with ⟨h1, h2⟩ | ⟨g, cap, cur, hv, _⟩
    · exact ⟨none, 0, by rw [h1, h2]⟩
    · exact ⟨_, cap, hv⟩
  refine ⟨_, _, w1.heap.size, cap, p, ss.mergeSort (fun x y : Int => decide (x ≤ y)), rfl, rfl, ⟨hb1.trans (hbY.mono hx1), ?_, ?_, fun j z hz => ?_, hm.keep ((hbY5.block _ (by omega)).trans (hb5.block _ (by omega))), by omega, by omega, by omega⟩, (List.mergeSort_perm _ _).trans hss, ?_⟩
  · rw [hks, ← hv, hY]; exact heap_alloc_new _ _
  · exact (hbY5.block _ (by omega)).trans ((hb5.block _ (by omega)).trans hnb)
  · have hne : ss ≠ [] := fun e => by subst e; simp at hz
    rcases hrow.2 with ⟨h1, h2⟩ | ⟨g, cap', cur, hv', _⟩
    · exact absurd (List.eq_nil_of_length_eq_zero h2) hne
    · have hp : p = some ⟨g, 0, none⟩ := by rw [hv] at hv'; injection hv'
      have hob : v.ownBlock = some g := by rw [hv']; rfl
      have h3 : ((ss.mergeSort (fun x y : Int => decide (x ≤ y))).map encZ)[j]? = some (encZ z) := by rw [List.getElem?_map, hz]; rfl
      have h4 := World.ownsRow.cells hrow (g := g) hob j _ h3
      rw [PC.add_none, Nat.zero_add] at h4
      have h5 := World.ownsRow.lt hrow g hob
      exact ⟨g, hp, by omega, (hbY5.cell (p := ⟨g, j, none⟩) h5.2).trans h4⟩
  · have := List.pairwise_mergeSort (le := fun x y : Int => decide (x ≤ y)) (fun a b c h1 h2 => by simp only [decide_eq_true_eq] at h1 h2 ⊢; omega) (fun a b => by simp only [Bool.or_eq_true, decide_eq_true_eq]; omega) ss
    exact this.imp (fun h => by simpa using h)
section
variable {c : Cx} {tn last : Nat} {L R : Lg} {I : Nat → Prop} {X Y : World} {l : List En}
theorem all_any (h : JP c tn L R I X l last) (hl : l.length ≤ 1000000) : Calls Tryz.prog 21 #[.pointer (some ⟨c.xb, 0, none⟩)] X fun e Y => AllEnd X l e Y := by
  have HLO : Hid _ := h.listO
  have HMR : Hid (∀ Y, Below X.heap.size X Y → MR Y c.mb l) := fun Y hb => (h.step hb).px.map
  clear h
  go_enter Tryz.func21, Tryz.ntmps21
  go_wp2_with fail
  refine Calls.mono HLO.out ?_
  rintro e w1 ⟨rfl, hb1⟩
  have hmr := HMR.out w1 hb1
  obtain ⟨es, clock, hmb, hes, hst⟩ := hmr.ex
  obtain ⟨V1, hV1⟩ : ∃ V, V = w1.alloc (.map es clock) := ⟨_, rfl⟩
  obtain ⟨V2, hV2⟩ : ∃ V, V = V1.alloc (.cells #[.map (some w1.heap.size)] 78 (0, 0)) := ⟨_, rfl⟩
  have hs1 : V1.heap.size = w1.heap.size + 1 := by rw [hV1]; simp
  have hs2 : V2.heap.size = w1.heap.size + 2 := by rw [hV2]; simp [hs1]
  have hnw : V2.heap[w1.heap.size]? = some (.map es clock) := by rw [hV2, heap_alloc_old _ _ (by omega), hV1]; exact heap_alloc_new _ _
  have HM2 : Hid (MR V2 w1.heap.size l) := ⟨⟨es, clock, hnw, hes, hst⟩, hmr.iok, hmr.once⟩
  have HB1 : Hid (Below X.heap.size X w1) := hb1
  have HCL : Hid _ := cloneI_any w1 hmb
  have HSO : Hid (∀ q, q = V2.heap.size → ∀ P : Ending → World → Prop, (∀ e w', SortEnd V2 l e w' → P e w') → Calls Tryz.prog 60 #[.func (.func 89) #[] #[.pointer (some ⟨q, 0, none⟩)]] (V2.alloc (.cells #[.map (some w1.heap.size)] 78)) P) := fun q hq P hP => (sorted_any HM2.out hl q hq).mono hP
  have HV1 : Hid _ := hV1
  have HV2 : Hid _ := hV2
  have HS1 : Hid _ := hs1
  have HS2 : Hid _ := hs2
  clear hb1 hmr hmb hes hst hnw hV1 hV2 hs1 hs2 HLO HMR
  go_wp2_with fail
  refine Calls.mono HCL.out ?_
  rintro e w2 ⟨rfl, hw2⟩
  rw [← HV1.out] at hw2
  rw [hw2]
  clear hw2 w2 HCL
  have hs1 := HS1.out
  go_wp2_with fail
  rw [← HV2.out]
  refine Calls.mono (keys_any (some w1.heap.size) V2) ?_
  rintro e w3 ⟨rfl, hw3⟩
  rw [hw3]
  clear hw3 w3
  have hs2 := HS2.out
  go_wp2_with fail
  refine HSO.out _ (by first | rfl | omega) _ ?_
  rintro e w5 ⟨v, ss, rfl, hss, hrow, hb5⟩
  obtain ⟨p0, cap0, hv⟩ : ∃ p cap, v = .slice p ss.length cap := by
    rcases hrow.2 with ⟨h1, h2⟩ | ⟨g, cap, cur, hv, _⟩
    · exact ⟨none, 0, by rw [h1, h2]⟩
    · exact ⟨_, cap, hv⟩
  subst hv
  obtain ⟨kb, nb, nw, cap, p, ks, hkb, hnb, hA⟩ := as_mk HB1.out HV1.out HV2.out HM2.out hss hrow hb5 rfl
  subst hkb hnb
  have HA : Hid _ := hA
  clear hss hrow hb5 hA HSO
  go_wp2
  go_ret
  exact ⟨_, _, nw, cap, p, ks, rfl, HA.out⟩
end
theorem op_round {P : Program} {ops : Array Oper} {Q : Exit → Act → World → Prop} {l n i : Nat} {K : Act → World → Prop} {a : Act} {w : World} (hnd : ∀ o, ops[i]? = some o → ∀ c, o.op ≠ .defer c) (hL : ¬ LetsOut Q) (h : wpOp P ops Q i K a w) : wpOpIn (Fence.wide.inRound l) n P ops Q i K a w := by
  unfold wpOp at h
  unfold wpOpIn
  cases ho : ops[i]? with
  | none => rw [ho] at h; exact h
  | some o =>
    rw [ho] at h
    simp only at h ⊢
    by_cases hw : Region.wanted o (yielded ops a.tmps) = true
    · rw [if_pos hw] at h ⊢
      rcases h with h | h
      · refine ⟨fun f _ => trivial, ?_⟩
        rw [Fence.inRound_round, Oper.semAt_some l _ _ (hnd o ho)]
        unfold Oper.wp at h
        generalize (execOp a.eval o).run P w = r at h
        cases r with
        | ok x w' =>
          cases x with
          | value v => exact h
          | skip => exact h
          | defer d => exact h
          | enter f args => exact ⟨fun hd => by simp [Fence.inRound, Fence.wide] at hd, CallsIn.inRound l (callsIn_wide.2 h)⟩
          | row row args =>
            refine ⟨fun hd => by simp [Fence.inRound, Fence.wide] at hd, fun c cs _ => ?_⟩
            obtain ⟨v, w2, hr, hs⟩ := h c cs
            exact ⟨v, w2, hr, stepsIn_wide.2 hs⟩
          | _ => exact h.elim
        | halt x w' =>
          cases x with
          | panic v => exact h
          | _ => exact h.elim
      · exact absurd h.2 hL
    · rw [if_neg hw] at h ⊢
      exact ⟨fun f _ => trivial, h⟩
theorem ops_round {P : Program} {ops : Array Oper} {Q : Exit → Act → World → Prop} {l n : Nat} (hnd : ∀ (i : Nat) o, ops[i]? = some o → ∀ c, o.op ≠ .defer c) (hL : ¬ LetsOut Q) : ∀ (sch : List Nat) (a : Act) (w : World), wpOps P ops Q sch a w → wpOpsIn (Fence.wide.inRound l) n P ops Q sch a w
  | [], _, _, h => h
  | i :: rest, a, w, h => by
    rw [wpOps_cons] at h
    rw [wpOpsIn_cons]
    exact wpOpIn_mono (fun a w hh => ops_round hnd hL rest a w hh) (op_round (hnd i) hL h)
def noDefer (ops : Array Oper) : Bool := ops.all fun o => match o.op with
  | .defer _ => false
  | _ => true
theorem noDefer_spec {ops : Array Oper} (h : noDefer ops = true) : ∀ (i : Nat) o, ops[i]? = some o → ∀ c, o.op ≠ .defer c := fun i o ho c e => by
  unfold noDefer at h
  rw [Array.all_eq_true] at h
  obtain ⟨hi, rfl⟩ := Array.getElem?_eq_some_iff.1 ho
  have := h i hi
  rw [e] at this
  simp at this
theorem region_round {P : Program} {ops : Array Oper} {Q : Exit → Act → World → Prop} {S : World → Prop} {l n id : Nat} {a : Act} {w : World} (hm : P.follows .mixedOrders = true) (hnd : noDefer ops = true) (hL : ¬ LetsOut Q) (hS : S w.drew)
    (h : S w.drew → wpAnyH P .any ops Q S ops.size (Array.replicate ops.size false) a w.drew) : (Code.region id ops true).wpIn (Fence.wide.inRound l) n P Q a w :=
  wpIn_region_draw fun t => by
    simp only [Region.schedule, hm, Bool.true_or, if_true]
    exact ops_round (noDefer_spec hnd) hL _ _ _ (wpAny_sound ops.size t _ a _ (wpAny_of_held _ _ _ _ (h hS)))
theorem region_plain {P : Program} {ops : Array Oper} {Q : Exit → Act → World → Prop} {l n id : Nat} {a : Act} {w : World} (hnd : noDefer ops = true) (hL : ¬ LetsOut Q) (h : wpList P ops Q ops.toList a w) : (Code.region id ops false).wpIn (Fence.wide.inRound l) n P Q a w :=
  wpIn_region (ops_round (noDefer_spec hnd) hL _ _ _ (by rw [List.range_eq_range', ← Array.length_toList, wpOps_eq_wpList ops.toList 0 (by simp)]; exact h))
def KpA (X : World) (S : Nat → Prop) (W Y : World) : Prop := Below X.heap.size X Y ∧ W.heap.size ≤ Y.heap.size ∧ ∀ k, S k → k < W.heap.size → Y.heap[k]? = W.heap[k]?
theorem AS.lt {X W : World} {kb nb nw cap : Nat} {p : Option Addr} {l : List En} {ks : List Int} (h : AS X W kb nb nw cap p l ks) (hne : ks ≠ []) : ∀ k, KF kb nb nw p k → k < W.heap.size := fun k hk => by
  rcases hk with rfl | rfl | rfl | hk
  · exact PC.row_lt h.kc
  · exact PC.row_lt h.nc
  · exact h.mr.lt
  · obtain ⟨z, zs, rfl⟩ := List.exists_cons_of_ne_nil hne
    obtain ⟨g, h1, h2, h3⟩ := h.kr 0 z rfl
    rw [hk] at h1
    have h4 : k = g := by simpa using h1
    subst h4; exact cell_lt h3
theorem AS.lo' {X W : World} {kb nb nw cap : Nat} {p : Option Addr} {l : List En} {ks : List Int} (h : AS X W kb nb nw cap p l ks) (hne : ks ≠ []) : ∀ k, KF kb nb nw p k → X.heap.size ≤ k := fun k hk => by
  rcases hk with rfl | rfl | rfl | hk
  · exact h.lo.1
  · exact h.lo.2.1
  · exact h.lo.2.2
  · obtain ⟨z, zs, rfl⟩ := List.exists_cons_of_ne_nil hne
    obtain ⟨g, h1, h2, h3⟩ := h.kr 0 z rfl
    rw [hk] at h1
    have h4 : k = g := by simpa using h1
    subst h4; exact h2
theorem AS.kp {X W Y : World} {kb nb nw cap : Nat} {p : Option Addr} {l : List En} {ks : List Int} (h : AS X W kb nb nw cap p l ks) (hne : ks ≠ []) (hk : KpA X (KF kb nb nw p) W Y) : AS X Y kb nb nw cap p l ks :=
  h.keep hk.1 (fun k hf => hk.2.2 k hf (h.lt hne k hf))
theorem all1_in (m : Nat) (hm : 1 ≤ m) (y : Nat) (X : World) (kb nb nw cap : Nat) (p : Option Addr) (l : List En) (ks : List Int) (W0 : World) (J : Nat → World → Prop) (hw : AS X W0 kb nb nw cap p l ks) (hkl : ∀ z ∈ ks, ∃ a r lv b, l = a ++ (z, r, lv) :: b) (hok : ∀ x ∈ l, x.2.1.ok ∧ x.2.1.log.length < 1000000 ∧ HR X x.2.2 x.2.1.log) (hn : ks.length ≤ 1000000)
    (hJB : ∀ k U V, J k U → Below U.heap.size U V → J k V)
    (hY : ∀ k z r lv v' W, ks[k]? = some z → (z, r, lv) ∈ l → J k W → AS X W kb nb nw cap p l ks → HR W v' r.log → YieldAt Fence.wide (m - 1) Tryz.prog y #[.int .i64 z, .agg (rmL r v').toArray] W fun e Y => e = .returned (.bool true) ∧ J (k + 1) Y ∧ KpA X (KF kb nb nw p) W Y)
    (hj0 : J 0 W0) :
    CallsIn Fence.wide m Tryz.prog 62 #[.func (.yield y) #[] #[], .pointer (some ⟨kb, 0, none⟩), .pointer (some ⟨nb, 0, none⟩)] W0 fun e W' => (∃ v, e = .returned v) ∧ J ks.length W' := by
  refine callsIn_of_wp Tryz.func62 rfl trivial ?_ rfl
  simp only [Tryz.ntmps62, List.size_toArray, List.length_cons, List.length_nil, Nat.reduceAdd, Nat.reduceSub, Array.replicate_succ, Array.replicate_zero, List.push_toArray, List.append_toArray, List.nil_append, List.cons_append]
  have HY : Hid _ := hY
  have HJB : Hid _ := hJB
  have HW : Hid _ := hw
  have HKL : Hid _ := hkl
  have HOK : Hid _ := hok
  have HJ0 : Hid _ := hj0
  have hck : W0.cell? ⟨kb, 0, none⟩ = some (.slice p ks.length cap) := by rw [cell_of_row _ _ 0 _ _ _ hw.kc]; rfl
  clear hY hJB hkl hok hj0 hw
  gi_wp2
  clear hck
  gi_loopw [8] (fun i wr => ∃ k : Nat, k ≤ ks.length ∧ i = .int .i64 (k : Int) ∧ AS X wr kb nb nw cap p l ks ∧ J k wr) (fun i _ => ks.length - (intOf i).toNat)
  case atStart => exact ⟨0, Nat.zero_le _, rfl, HW.out, HJ0.out⟩
  case round =>
    clear HW HJ0
    obtain ⟨k, hk, rfl, hW, hJ⟩ := hrel
    generalize wr = W at *
    by_cases hlt : k < ks.length
    · have hkI : (k : Int) < (ks.length : Int) := by omega
      obtain ⟨z, hz⟩ : ∃ z, ks[k]? = some z := ⟨_, List.getElem?_eq_getElem hlt⟩
      have hne : ks ≠ [] := fun e => by rw [e] at hlt; simp at hlt
      obtain ⟨a, r, lv, b, hl⟩ := HKL.out z (List.mem_of_getElem? hz)
      have hmem : (z, r, lv) ∈ l := by rw [hl]; simp
      obtain ⟨hrok, hrl, hhr⟩ := HOK.out _ hmem
      obtain ⟨g, hp, hg, hcz⟩ := hW.kr k z hz
      subst hp
      have hcn : W.cell? ⟨nb, 0, none⟩ = some (.map (some nw)) := by rw [cell_of_row _ _ 0 _ _ _ hW.nc]; rfl
      have hlk : (Instr.lookup 78 (.map (some nw)) (.int .i64 z) false).run Tryz.prog W = .ok (.agg (rmL r lv).toArray) W := mr_some hW.mr (hW.mr.iok _ hmem) hl false
      have HTO : Hid (Calls Tryz.prog 44 #[.agg (rmL r lv).toArray] W fun e w' => TEnd W r e w') := told_any r lv W hrok (hhr.below hW.bel) hrl
      have HYK : Hid (∀ v' V, J k V → AS X V kb nb nw cap (some ⟨g, 0, none⟩) l ks → HR V v' r.log → YieldAt Fence.wide (m - 1) Tryz.prog y #[.int .i64 z, .agg (rmL r v').toArray] V fun e Y => e = .returned (.bool true) ∧ J (k + 1) Y ∧ KpA X (KF kb nb nw (some ⟨g, 0, none⟩)) V Y) := fun v' V h1 h2 h3 => HY.out k z r lv v' V hz hmem h1 h2 h3
      have HWW : Hid _ := hW
      have HJK : Hid _ := hJ
      have HNE : Hid (ks ≠ []) := hne
      obtain ⟨RL, hRL⟩ : ∃ RL, RL = (rmL r lv).toArray := ⟨_, rfl⟩
      rw [← hRL] at hlk HTO
      clear hW hJ hz hl hmem hrok hrl hhr hRL hne
      gi_wp2
      refine ⟨trivial, (callsIn_wide.2 HTO.out).mono ?_⟩
      rintro e V ⟨v', rfl, hown, hb⟩
      have HV : Hid _ := HWW.out.below hb
      have HJV : Hid _ := HJB.out k W V HJK.out hb
      have HRV : Hid (HR V v' r.log) := HO.hr hown
      obtain ⟨fn, tmps, assign, body, hy, hR⟩ := HYK.out v' V HJV.out HV.out HRV.out
      have HRR : Hid _ := hR
      clear hR hown hb
      gi_wp2
      refine RoundIn.mono HRR.out ?_
      rintro e W3 ⟨rfl, hJ3, hK3⟩
      have HJ3 : Hid _ := hJ3
      have HW3 : Hid _ := HV.out.kp HNE.out hK3
      clear hJ3 hK3 hy
      gi_wp2
      go_roundw
      case rel => exact ⟨k + 1, by omega, by go_num, HW3.out, HJ3.out⟩
      case measure => simp [intOf]; omega
    · have hke : k = ks.length := by omega
      subst hke
      have HJ : Hid _ := hJ
      clear hJ hW
      gi_wp2
      go_end0
      exact ⟨⟨_, rfl⟩, HJ.out⟩
end Go.Proofs.YtekbppfocnbhbaaGreat.XC
