/- report: a report's bytes, as the program lays them. -/
import Derived.Test.YtpklboicgjpmeaaDoorTe
import Derived.Test.YtpklboicgjpmeaaDoorTf
import Derived.Lib.SlBytesConst
set_option linter.unusedVariables false
set_option linter.unusedSimpArgs false
namespace Go.Proofs.YtpklboicgjpmeaaDoor.RB
open Go.RowKit

theorem size_u8 : Tryd.prog.cellsOf 5 = 1 := by kernel_rfl
theorem slice_dg (W : World) (b o : Nat) : (Instr.sliceAt 24 (.pointer (some ⟨b, o, none⟩)) none none none).run Tryd.prog W = .ok (.slice (some ⟨b, o, none⟩) 32 32) W := by
  have ha : Tryd.prog.arrayLen 24 = 32 := by kernel_rfl
  have hu : Tryd.prog.underlying 24 = some (.array (Tryd.prog.arrayLen 24) (Tryd.prog.elem 24)) := by kernel_rfl
  have he : Tryd.prog.elem 24 = 5 := by kernel_rfl
  have hs : ∀ w, (sizeOf 5).run Tryd.prog w = .ok 1 w := fun w => by kernel_rfl
  rw [run_sliceAt_array_all W 24 _ hu, he, hs, ha]
  simp only [Result.andThen, slicedAt]
  rw [if_neg (by decide), add_none]
  simp
theorem number8_any (n : Nat) (hn : n < 18446744073709551616) (w : World) : Calls Tryd.prog 23 #[.int .u64 (n : Int)] w fun e w' => e = .returned (.slice (some ⟨w.heap.size, 0, none⟩) 8 8) ∧ FB w.heap.size w' (.slice (some ⟨w.heap.size, 0, none⟩) 8 8) (W1.le 8 n) ∧ Below w.heap.size w w' := by
  have h8 : n < 256 ^ 8 := by rw [show (256 : Nat) ^ 8 = 18446744073709551616 by decide]; exact hn
  have HP : Hid (Calls Tryd.prog 40 #[.int .u64 (n : Int), .int .i64 8] w fun e w' => e = .returned (.tuple #[.slice (some ⟨w.heap.size, 0, none⟩) 8 8, .int .i64 0]) ∧ FB w.heap.size w' (.slice (some ⟨w.heap.size, 0, none⟩) 8 8) (W1.le 8 n) ∧ Below w.heap.size w w') := put_ok n 8 w (by decide) (by decide) hn h8
  go_enter Tryd.func23, Tryd.ntmps23
  go_wp2_with fail
  refine Calls.mono HP.out ?_
  rintro e w1 ⟨rfl, hf, hb⟩
  have HF : Hid _ := hf
  clear hf HP
  go_wp2
  go_ret
  exact ⟨rfl, HF.out, hb⟩
/-- The rows while a report is laid. -/
def layR (n k : Nat) (r : Rp) (L : List Value) : List (Nat × TypeId × List Value) := [(n + 3, 3, [.int .i64 (k : Int)]), (n + 2, 28, [.slice (some ⟨n + 1, 0, none⟩) 80 80]), (n + 1, 5, L), (n, 26, rL r)]
theorem lay_rs {w X : World} {n k : Nat} {r : Rp} {L M : List Value} (h : RS w (layR n k r L) X) (size k' : Nat) (v : Value) (p : List UInt8) (hL : L.length = 80) (hv : HB X v p) (hp : p.length ≤ size) (hfit : k + size ≤ 80) (h0 : 0 < size) (hk : k + size = k') (hM : splice L k (p.map B8) = M) :
    Calls Tryd.prog 39 #[v, .int .i64 (size : Int), pB (n + 2), pB (n + 3)] X fun e X' => e = .returned (.tuple #[]) ∧ RS w (layR n k' r M) X' := by
  refine Calls.mono (lay_any (n + 2) (n + 3) (n + 1) L p k size v _ X (h.at 1 rfl) (h.at 0 rfl) (h.at 2 rfl) hL hv hp hfit h0 (by omega)) ?_
  rintro e X' ⟨rfl, rfl⟩
  refine ⟨rfl, ?_⟩
  have h1 := (h.put 2 rfl (splice L k (p.map B8))).poke 0 rfl 0 (.int .i64 ((k : Int) + (size : Int))) rfl
  rw [hM] at h1
  subst hk
  have e : ((k : Int) + (size : Int)) = ((k + size : Nat) : Int) := by omega
  rw [hM]
  rw [e] at h1 ⊢
  exact h1
theorem rs_hb {w X : World} {rows : List (Nat × TypeId × List Value)} (h : RS w rows X) (i : Nat) {b : Nat} {t : TypeId} {l : List UInt8} {n cap : Nat} (hi : rows[i]? = some (b, t, l.map B8)) (hn : n = l.length) (h1 : l.length ≤ cap) (h2 : cap ≤ maxLen) : HB X (.slice (some ⟨b, 0, none⟩) n cap) l :=
  hb_range n hn h1 h2 (rangeAt_row (h.at i hi))
def Z80 : List UInt8 := List.replicate 80 0
def nm6 : List UInt8 := [114, 101, 112, 111, 114, 116]
theorem spl_z (A cs : List UInt8) (k : Nat) (h : cs.length ≤ k) : splice (A ++ List.replicate k 0) A.length cs = (A ++ cs) ++ List.replicate (k - cs.length) 0 := by
  have e1 : (A ++ List.replicate k 0).take A.length = A := List.take_left
  have e2 : (A ++ List.replicate k (0 : UInt8)).drop (A.length + cs.length) = List.replicate (k - cs.length) 0 := by
    rw [← List.drop_drop, List.drop_left, List.drop_replicate]
  unfold splice
  rw [e1, e2, List.append_assoc]
theorem byt_laid {r : Rp} (h : r.ok) : splice (splice (splice (splice Z80 0 nm6) 8 (W1.le 8 r.inst)) 16 r.ms) 48 r.ch = byt r := by
  have hl := W1.le_length 8 r.inst
  have hm := h.m
  have hc := h.c
  have e0 : splice Z80 0 nm6 = nameB ++ List.replicate 72 0 := by decide
  have e1 : splice (nameB ++ List.replicate 72 0) 8 (W1.le 8 r.inst) = (nameB ++ W1.le 8 r.inst) ++ List.replicate 64 0 := by
    have := spl_z nameB (W1.le 8 r.inst) 72 (by omega)
    rw [hl] at this; exact this
  have e2 : splice ((nameB ++ W1.le 8 r.inst) ++ List.replicate 64 0) 16 r.ms = ((nameB ++ W1.le 8 r.inst) ++ r.ms) ++ List.replicate 32 0 := by
    have := spl_z (nameB ++ W1.le 8 r.inst) r.ms 64 (by omega)
    rw [List.length_append, hl, hm] at this; exact this
  have e3 : splice (((nameB ++ W1.le 8 r.inst) ++ r.ms) ++ List.replicate 32 0) 48 r.ch = (((nameB ++ W1.le 8 r.inst) ++ r.ms) ++ r.ch) ++ List.replicate 0 0 := by
    have := spl_z ((nameB ++ W1.le 8 r.inst) ++ r.ms) r.ch 32 (by omega)
    rw [List.length_append, List.length_append, hl, hm, hc] at this; exact this
  rw [e0, e1, e2, e3]
  unfold byt
  simp
theorem made80 : madeCells #[Value.int .u8 0] 80 = (Z80.map B8).toArray := by first | rfl | kernel_rfl
theorem make80 (W : World) : (Instr.makeSlice 28 (.int .i64 80) (.int .i64 80)).run Tryd.prog W = .ok (.slice (some ⟨W.heap.size, 0, none⟩) 80 80) (W.alloc (.cells (Z80.map B8).toArray 5 (0, 0))) := by
  obtain ⟨i0, hi, hz0, hz1, hz2⟩ := info_parts Tryd.infoU8
  have h := run_make_row (P := Tryd.prog) 28 5 i0 (.int .u8 0) Tryd.underlying28 hi hz0 hz1 rfl .i64 .i64 80 (by rw [hz2]; decide) (by decide) W
  rw [made80] at h
  exact h
set_option maxHeartbeats 2000000 in
set_option maxRecDepth 100000 in
theorem pbytes_any (r : Rp) (h : r.ok) (w : World) : Calls Tryd.prog 9 #[rV r] w fun e w' => ∃ g, e = .returned (.slice (some ⟨g, 0, none⟩) 80 80) ∧ w.heap.size ≤ g ∧ Below w.heap.size w w' ∧ w'.heap[g]? = some (.cells ((byt r).map B8).toArray 5 (0, 0)) := by
  have hmk := make80
  have hcvb := fun (W : World) (C : Array Value) (n c : Nat) => Lib.run_convert_bytes_const (P := Tryd.prog) W 28 5 C n c Tryd.underlying28 Tryd.underlying5
  have HNM : Hid (∀ W, Calls Tryd.prog 23 #[.int .u64 (r.inst : Int)] W fun e w' => e = .returned (.slice (some ⟨W.heap.size, 0, none⟩) 8 8) ∧ FB W.heap.size w' (.slice (some ⟨W.heap.size, 0, none⟩) 8 8) (W1.le 8 r.inst) ∧ Below W.heap.size W w') := fun W => number8_any r.inst h.i W
  have HLN : Hid ((W1.le 8 r.inst).length = 8) := W1.le_length _ _
  have HM : Hid (r.ms.length = 32) := h.m
  have HC : Hid (r.ch.length = 32) := h.c
  have HEQ : Hid _ := byt_laid h
  have HR0 : (rL r)[0]? = some (.int .u64 (r.inst : Int)) := rfl
  have HIN : Hid _ := infRA h
  have HI2 : Hid _ := rL_one r
  have HRM : Hid (∀ W b, W.rangeAt b 0 (rL r) → HB W (.slice (some ⟨b, 1, none⟩) 32 32) r.ms) := fun W b hr => hb_range 32 h.m.symm (by rw [h.m]; decide) (by decide) (digs_m h hr)
  have HRC : Hid (∀ W b, W.rangeAt b 0 (rL r) → HB W (.slice (some ⟨b, 33, none⟩) 32 32) r.ch) := fun W b hr => hb_range 32 h.c.symm (by rw [h.c]; decide) (by decide) (digs_c h hr)
  have hsd1 := fun W => slice_dg W w.heap.size 1
  have hsd2 := fun W => slice_dg W w.heap.size 33
  clear h
  unfold rV
  go_enter Tryd.func9, Tryd.ntmps9
  have hR : RS w _ _ := ((RS.start w).alloc w.heap.size rfl 26 (rL r)).alloc (w.heap.size + 1) (by simp) 5 (Z80.map B8)
  have HR1 : Hid _ := hR
  clear hR
  go_wp2_with fail
  refine Calls.mono (lyr_any _ _ _ _) ?_
  rintro e w1 ⟨rfl, hw1⟩
  have hR : RS w (layR w.heap.size 0 r (Z80.map B8)) w1 := by
    subst hw1
    exact (HR1.out.alloc (w.heap.size + 2) (by simp) _ _).alloc (w.heap.size + 3) (by simp) _ _
  have hsz : w1.heap.size = w.heap.size + 4 := by subst hw1; simp
  clear hw1 HR1
  have HR2 : Hid _ := hR
  have HSZ : Hid _ := hsz
  clear hR hsz
  go_wp2_with fail
  have HX1 : Hid _ := HR2.out.step ((Below.refl w1.heap.size w1).alloc (Nat.le_refl _) (.cells (nm6.map B8).toArray 5 (6, 7)))
  have hv1 : HB (w1.alloc (.cells (nm6.map B8).toArray 5 (6, 7))) (.slice (some ⟨w1.heap.size, 0, none⟩) 6 6) nm6 := hb_range 6 rfl (by decide) (by decide) (rangeAt_row (heap_alloc_new _ _))
  refine Calls.mono (lay_rs HX1.out 8 8 _ nm6 (by simp [Z80]) hv1 (by decide) (by decide) (by decide) rfl (splice_map B8 Z80 0 nm6)) ?_
  rintro e w2 ⟨rfl, hR⟩
  have HL1 : Hid ((splice Z80 0 nm6).length = 80) := by show _ = _; decide
  clear hv1 HX1 HR2 HSZ
  have hc0 := hR.cell 3 rfl 0 HR0
  have HR3 : Hid _ := hR
  clear hR
  generalize splice Z80 0 nm6 = L1 at *
  go_wp2_with fail
  refine Calls.mono (HNM.out _) ?_
  rintro e w3 ⟨rfl, hf, hb⟩
  have HR4 : Hid _ := HR3.out.step hb
  have HV : Hid _ := hf.hb
  clear hf hb HR3 hc0 HNM
  go_wp2_with fail
  refine Calls.mono (lay_rs HR4.out 8 16 _ _ (by rw [List.length_map, HL1.out]) HV.out (by rw [HLN.out]; decide) (by decide) (by decide) rfl (splice_map B8 L1 8 _)) ?_
  rintro e w4 ⟨rfl, hR⟩
  have HL2 : Hid ((splice L1 8 (W1.le 8 r.inst)).length = 80) := by show _ = _; rw [splice_len _ _ _ (by rw [HL1.out, HLN.out]; decide), HL1.out]
  have HV2 : Hid _ := HRM.out _ _ (rangeAt_row (hR.at 3 rfl))
  have HR5 : Hid _ := hR
  clear hR HV HR4 HRM HLN HL1
  generalize splice L1 8 (W1.le 8 r.inst) = L2 at *
  go_wp2_with fail
  refine Calls.mono (lay_rs HR5.out 32 48 _ _ (by rw [List.length_map, HL2.out]) HV2.out (by rw [HM.out]; decide) (by decide) (by decide) rfl (splice_map B8 L2 16 _)) ?_
  rintro e w5 ⟨rfl, hR⟩
  have HL3 : Hid ((splice L2 16 r.ms).length = 80) := by show _ = _; rw [splice_len _ _ _ (by rw [HL2.out, HM.out]; decide), HL2.out]
  have HV3 : Hid _ := HRC.out _ _ (rangeAt_row (hR.at 3 rfl))
  have HR6 : Hid _ := hR
  clear hR HV2 HR5 HRC HL2 HM
  generalize splice L2 16 r.ms = L3 at *
  go_wp2_with fail
  refine Calls.mono (lay_rs HR6.out 32 80 _ _ (by rw [List.length_map, HL3.out]) HV3.out (by rw [HC.out]; decide) (by decide) (by decide) rfl (splice_map B8 L3 48 _)) ?_
  rintro e w6 ⟨rfl, hR⟩
  rw [HEQ.out] at hR
  have HR7 : Hid _ := hR
  clear hR HV3 HR6 HL3 HC HEQ
  go_wp2
  go_ret
  exact ⟨w.heap.size + 1, rfl, by omega, HR7.out.bel, HR7.out.at 2 rfl⟩
end Go.Proofs.YtpklboicgjpmeaaDoor.RB
