/- Both tables side by side; acts; contract of the statements' do. -/
import Derived.Test.YtpmbbnmpldeajaaKH
set_option linter.unusedVariables false
set_option linter.unusedSimpArgs false
namespace Go.Proofs.Ytpmbbnmpldeajaa.GC
open Go.RowKit

/-- All blocks stay but those of a set. -/
structure KS (S : Nat → Prop) (w w' : World) : Prop where
  os : w'.os = w.os
  tape : w'.tape = w.tape
  output : w'.output = w.output
  size : w.heap.size ≤ w'.heap.size
  blk : ∀ j, j < w.heap.size → ¬ S j → w'.heap[j]? = w.heap[j]?
theorem KS.refl (S : Nat → Prop) (w : World) : KS S w w := ⟨rfl, rfl, rfl, Nat.le_refl _, fun _ _ _ => rfl⟩
theorem KS.trans {S : Nat → Prop} {a b c : World} (h : KS S a b) (k : KS S b c) : KS S a c :=
  ⟨k.os.trans h.os, k.tape.trans h.tape, k.output.trans h.output, Nat.le_trans h.size k.size, fun j hj hS => (k.blk j (Nat.lt_of_lt_of_le hj h.size) hS).trans (h.blk j hj hS)⟩
theorem KS.kb {S : Nat → Prop} {b : Nat} {w w' : World} (h : KB b w w') (hb : S b) : KS S w w' :=
  ⟨h.1.os, h.1.tape, h.1.output, h.1.size, fun j hj hS => h.2 j hj (fun e => hS (e ▸ hb))⟩
theorem KS.of {S : Nat → Prop} {w w' : World} (h : Below w.heap.size w w') : KS S w w' := ⟨h.os, h.tape, h.output, h.size, fun j hj _ => h.block j hj⟩
theorem KS.bel {S : Nat → Prop} {B : Nat} {w w' : World} (h : KS S w w') (hB : B ≤ w.heap.size) (hS : ∀ j, S j → B ≤ j) : Below B w w' :=
  ⟨h.os, h.tape, h.output, h.size, fun j hj => h.blk j (by omega) (fun hs => by have := hS j hs; omega)⟩
/-- The program's table and the document's rows, alike. -/
structure JM (B : Nat) (w : World) (tb gb wb n : Nat) (l : List Rw) : Prop where
  pm : PM w tb gb n l
  rm : AR w wb l
  d1 : gb ≠ wb
  d2 : tb ≠ wb
  low : B ≤ w.heap.size
  bg : B ≤ gb
  bw : B ≤ wb
abbrev SJ (gb wb : Nat) : Nat → Prop := fun j => j = gb ∨ j = wb
theorem JM.below {B : Nat} {w w' : World} {tb gb wb n : Nat} {l : List Rw} (h : JM B w tb gb wb n l) (hb : Below w.heap.size w w') : JM B w' tb gb wb n l :=
  ⟨h.pm.below hb, h.rm.below hb, h.d1, h.d2, Nat.le_trans h.low hb.size, h.bg, h.bw⟩
theorem JM.bel {B : Nat} {w w' : World} {tb gb wb n : Nat} {l : List Rw} (h : JM B w tb gb wb n l) (hk : KS (SJ gb wb) w w') : Below B w w' :=
  hk.bel h.low (fun j hj => by rcases hj with rfl | rfl; exact h.bg; exact h.bw)
theorem JM.lts {B : Nat} {w : World} {tb gb wb n : Nat} {l : List Rw} (h : JM B w tb gb wb n l) : ∀ j, SJ gb wb j → j < w.heap.size := fun j hj => by
  rcases hj with rfl | rfl
  · exact h.pm.row.lt
  · exact h.rm.lt
theorem JM.ge {B : Nat} {w : World} {tb gb wb n : Nat} {l : List Rw} (h : JM B w tb gb wb n l) : ∀ j, SJ gb wb j → B ≤ j := fun j hj => by
  rcases hj with rfl | rfl
  · exact h.bg
  · exact h.bw
/-- An act. -/
structure Ac where
  kind : Int
  g : Int
  f : Int
  t : Int
  o : Nat
def acL (a : Ac) : List Value := [.int .i64 a.kind, .int .i64 a.g, .int .i64 a.f, .int .i64 a.t, .int .u64 (a.o : Int)]
structure Ac.ok (a : Ac) : Prop where
  f : (Lit.int .i64 a.f).wf = true
  t : (Lit.int .i64 a.t).wf = true
def AC (W : World) (ab : Nat) (a : Ac) : Prop := W.heap[ab]? = some (.cells (acL a).toArray 34 (0, 0))
theorem AC.facts {W : World} {ab : Nat} {a : Ac} (h : AC W ab a) : W.cell? ⟨ab, 0, none⟩ = some (.int .i64 a.kind) ∧ W.cell? ⟨ab, 1, none⟩ = some (.int .i64 a.g) ∧ W.cell? ⟨ab, 2, none⟩ = some (.int .i64 a.f) ∧ W.cell? ⟨ab, 3, none⟩ = some (.int .i64 a.t) ∧ W.cell? ⟨ab, 4, none⟩ = some (.int .u64 (a.o : Int)) :=
  ⟨(cell_of_row _ _ 0 _ _ _ h).trans rfl, (cell_of_row _ _ 1 _ _ _ h).trans rfl, (cell_of_row _ _ 2 _ _ _ h).trans rfl, (cell_of_row _ _ 3 _ _ _ h).trans rfl, (cell_of_row _ _ 4 _ _ _ h).trans rfl⟩
/-- What an act does to a row, and to all rows. -/
def doR (a : Ac) (r : Rw) : Rw := if a.kind = 1 then stR r a.f a.t a.o else if a.kind = 2 then ⟨r.st, r.ow, r.held + 1⟩ else if a.kind = 3 then (if r.held = 0 then r else ⟨r.st, r.ow, r.held - 1⟩) else r
def doL (l : List Rw) (a : Ac) : List Rw := if a.g < 0 then l else match l[a.g.toNat]? with
  | some r => l.set a.g.toNat (doR a r)
  | none => l
theorem doL_no {l : List Rw} {a : Ac} (h : a.g < 0 ∨ (l.length : Int) ≤ a.g) : doL l a = l := by
  unfold doL
  by_cases h0 : a.g < 0
  · rw [if_pos h0]
  · rw [if_neg h0, List.getElem?_eq_none (by omega)]
theorem doL_at {l : List Rw} {a : Ac} {k : Nat} {r : Rw} (hk : a.g = (k : Int)) (h : l[k]? = some r) : doL l a = l.set k (doR a r) := by
  unfold doL
  rw [if_neg (by omega), hk, Int.toNat_natCast, h]
theorem doL_len (l : List Rw) (a : Ac) : (doL l a).length = l.length := by
  unfold doL
  split
  · rfl
  · split <;> simp
theorem doL_else {l : List Rw} {a : Ac} (h1 : a.kind ≠ 1) (h2 : a.kind ≠ 2) (h3 : a.kind ≠ 3) : doL l a = l := by
  unfold doL
  split
  · rfl
  · split
    · rename_i r hr
      have : doR a r = r := by unfold doR; rw [if_neg h1, if_neg h2, if_neg h3]
      rw [this, set_self hr]
    · rfl
theorem g_cases (l : List Rw) (n : Nat) (g : Int) (hl : l.length = n) : (g < 0 ∨ (n : Int) ≤ g) ∨ ∃ (k : Nat) (r : Rw), g = (k : Int) ∧ l[k]? = some r := by
  by_cases h : g < 0 ∨ (n : Int) ≤ g
  · exact .inl h
  · have hk : g.toNat < l.length := by omega
    exact .inr ⟨g.toNat, l[g.toNat], by omega, List.getElem?_eq_getElem hk⟩
theorem gF_bad {n : Nat} {g : Int} (h : g < 0 ∨ (n : Int) ≤ g) : gF n g = 2 := by unfold gF; rw [if_pos h]
/-- Both calls of an act answer alike, and do alike. -/
theorem both1 (tb gb wb n : Nat) (l : List Rw) (a : Ac) (hl : l.length = n) (hn : n ≤ 4096) (hok : a.ok) (hk : a.kind = 1) :
    ∃ c : Int, (∀ W, PM W tb gb n l → Calls Try.prog 20 #[.pointer (some ⟨tb, 0, none⟩), .int .i64 a.g, .int .i64 a.f, .int .i64 a.t, .int .u64 (a.o : Int)] W fun e w' => StpEnd tb gb n (doL l a) c W e w') ∧
      (∀ W, AR W wb l → Calls Try.prog 25 #[.slice (some ⟨wb, 0, none⟩) n n, .int .i64 a.g, .int .i64 a.f, .int .i64 a.t, .int .u64 (a.o : Int)] W fun e w' => REnd wb (doL l a) c W e w') := by
  rcases g_cases l n a.g hl with hg | ⟨k, r, hg, hr⟩
  · refine ⟨2, fun W hW => ?_, fun W hW => ?_⟩
    · have hf := fault_any tb n n _ a.g W hW.cell hW.pos
      rw [gF_bad hg] at hf
      refine (step_bad _ a.g 2 a.f a.t (a.o : Int) W (by decide) hf).mono ?_
      rintro e w' ⟨rfl, rfl⟩
      rw [doL_no (by rw [hl]; exact hg)]
      exact ⟨rfl, hW, KB.refl _ _⟩
    · refine (rstep_no wb n n a.g a.f a.t (a.o : Int) W hg).mono ?_
      rintro e w' ⟨rfl, rfl⟩
      rw [doL_no (by rw [hl]; exact hg)]
      exact ⟨rfl, hW, KB.refl _ _⟩
  · rw [doL_at hg hr, hg, show doR a r = stR r a.f a.t a.o by unfold doR; rw [if_pos hk]]
    exact ⟨stC r a.f a.t a.o, fun W hW => step_any tb gb n k l r a.f a.t a.o W hW hr hok.f hok.t, fun W hW => rstep_any wb n n k l r a.f a.t a.o W hW hl hn hr⟩
theorem both2 (tb gb wb n : Nat) (l : List Rw) (a : Ac) (hl : l.length = n) (hn : n ≤ 4096) (hh : ∀ r ∈ l, r.held < 2147483647) (hk : a.kind = 2) :
    ∃ c : Int, (∀ W, PM W tb gb n l → Calls Try.prog 21 #[.pointer (some ⟨tb, 0, none⟩), .int .i64 a.g] W fun e w' => StpEnd tb gb n (doL l a) c W e w') ∧
      (∀ W, AR W wb l → Calls Try.prog 26 #[.slice (some ⟨wb, 0, none⟩) n n, .int .i64 a.g] W fun e w' => REnd wb (doL l a) c W e w') := by
  rcases g_cases l n a.g hl with hg | ⟨k, r, hg, hr⟩
  · refine ⟨2, fun W hW => ?_, fun W hW => ?_⟩
    · have hf := fault_any tb n n _ a.g W hW.cell hW.pos
      rw [gF_bad hg] at hf
      refine (hold_bad _ a.g 2 W (by decide) hf).mono ?_
      rintro e w' ⟨rfl, rfl⟩
      rw [doL_no (by rw [hl]; exact hg)]
      exact ⟨rfl, hW, KB.refl _ _⟩
    · refine (rhold_no wb n n a.g W hg).mono ?_
      rintro e w' ⟨rfl, rfl⟩
      rw [doL_no (by rw [hl]; exact hg)]
      exact ⟨rfl, hW, KB.refl _ _⟩
  · have hrh := hh r (List.mem_of_getElem? hr)
    rw [doL_at hg hr, hg, show doR a r = ⟨r.st, r.ow, r.held + 1⟩ by unfold doR; rw [if_neg (by omega), if_pos hk]]
    exact ⟨0, fun W hW => hold_ok tb gb n k l r W hW hr hrh, fun W hW => rhold_ok wb n n k l r W hW hl hn hr hrh⟩
theorem both3 (tb gb wb n : Nat) (l : List Rw) (a : Ac) (hl : l.length = n) (hn : n ≤ 4096) (hh : ∀ r ∈ l, r.held < 2147483647) (hk : a.kind = 3) :
    ∃ c : Int, (∀ W, PM W tb gb n l → Calls Try.prog 22 #[.pointer (some ⟨tb, 0, none⟩), .int .i64 a.g] W fun e w' => StpEnd tb gb n (doL l a) c W e w') ∧
      (∀ W, AR W wb l → Calls Try.prog 27 #[.slice (some ⟨wb, 0, none⟩) n n, .int .i64 a.g] W fun e w' => REnd wb (doL l a) c W e w') := by
  rcases g_cases l n a.g hl with hg | ⟨k, r, hg, hr⟩
  · refine ⟨2, fun W hW => ?_, fun W hW => ?_⟩
    · have hf := fault_any tb n n _ a.g W hW.cell hW.pos
      rw [gF_bad hg] at hf
      refine (let_bad _ a.g 2 W (by decide) hf).mono ?_
      rintro e w' ⟨rfl, rfl⟩
      rw [doL_no (by rw [hl]; exact hg)]
      exact ⟨rfl, hW, KB.refl _ _⟩
    · refine (rlet_no wb n n a.g W hg).mono ?_
      rintro e w' ⟨rfl, rfl⟩
      rw [doL_no (by rw [hl]; exact hg)]
      exact ⟨rfl, hW, KB.refl _ _⟩
  · have hrh := hh r (List.mem_of_getElem? hr)
    by_cases h0 : r.held = 0
    · refine ⟨6, fun W hW => ?_, fun W hW => ?_⟩
      · rw [doL_at hg hr, hg, show doR a r = r by unfold doR; rw [if_neg (by omega), if_neg (by omega), if_pos hk, if_pos h0], set_self hr]
        refine (let_none tb gb n k l r W hW hr h0).mono ?_
        rintro e w' ⟨rfl, rfl⟩
        exact ⟨rfl, hW, KB.refl _ _⟩
      · rw [doL_at hg hr, hg, show doR a r = r by unfold doR; rw [if_neg (by omega), if_neg (by omega), if_pos hk, if_pos h0], set_self hr]
        refine (rlet_none wb n n k l r W hW hl hn hr h0).mono ?_
        rintro e w' ⟨rfl, rfl⟩
        exact ⟨rfl, hW, KB.refl _ _⟩
    · rw [doL_at hg hr, hg, show doR a r = ⟨r.st, r.ow, r.held - 1⟩ by unfold doR; rw [if_neg (by omega), if_neg (by omega), if_pos hk, if_neg h0]]
      exact ⟨0, fun W hW => let_ok tb gb n k l r W hW hr (by omega) (by omega), fun W hW => rlet_ok wb n n k l r W hW hl hn hr (by omega) (by omega)⟩
/-- What do hands back. -/
def DoEnd (B tb gb wb n : Nat) (w : World) (l' : List Rw) (e : Ending) (w' : World) : Prop := e = .returned (.bool true) ∧ JM B w' tb gb wb n l' ∧ KS (SJ gb wb) w w'
set_option maxHeartbeats 1000000 in
theorem do_else (B tb gb wb n : Nat) (l : List Rw) (a : Ac) (w : World) (h : JM B w tb gb wb n l) (h1 : a.kind ≠ 1) (h2 : a.kind ≠ 2) (h3 : a.kind ≠ 3) :
    Calls Try.prog 12 #[.pointer (some ⟨tb, 0, none⟩), .slice (some ⟨wb, 0, none⟩) n n, .agg (acL a).toArray] w fun e w' => DoEnd B tb gb wb n w (doL l a) e w' := by
  rw [doL_else h1 h2 h3]
  obtain ⟨V1, hV1⟩ : ∃ V1, V1 = w.alloc (.cells (acL a).toArray 34 (0, 0)) := ⟨_, rfl⟩
  have hbl : Below w.heap.size w V1 := by rw [hV1]; exact (Below.refl _ _).alloc (Nat.le_refl _) _
  have hJ1 := h.below hbl
  have hac : AC V1 w.heap.size a := by rw [hV1]; exact heap_alloc_new _ _
  have hs1 : V1.heap.size = w.heap.size + 1 := by rw [hV1]; simp
  have hgb := h.pm.row.lt
  have hwb := h.rm.lt
  have HJ1 : Hid _ := hJ1
  have HAC : Hid _ := hac
  have HK1 : Hid (KS (SJ gb wb) w V1) := KS.of hbl
  obtain ⟨hc0, hc1, hc2, hc3, hc4⟩ := hac.facts
  unfold acL at hV1 ⊢
  have b1 : (a.kind == 1) = false := by simpa using h1
  have b2 : (a.kind == 2) = false := by simpa using h2
  have b3 : (a.kind == 3) = false := by simpa using h3
  clear hJ1 hac hbl h h1 h2 h3
  rw [hV1] at hc0
  go_enter Try.func12, Try.ntmps12
  go_wp2
  rw [← hV1]
  go_ret
  exact ⟨rfl, HJ1.out, HK1.out⟩
set_option maxHeartbeats 1000000 in
theorem do_1 (B tb gb wb n : Nat) (l : List Rw) (a : Ac) (w : World) (h : JM B w tb gb wb n l) (hok : a.ok) (hk : a.kind = 1) :
    Calls Try.prog 12 #[.pointer (some ⟨tb, 0, none⟩), .slice (some ⟨wb, 0, none⟩) n n, .agg (acL a).toArray] w fun e w' => DoEnd B tb gb wb n w (doL l a) e w' := by
  obtain ⟨c, hSP, hSR⟩ := both1 tb gb wb n l a h.pm.len h.pm.le hok hk
  obtain ⟨V1, hV1⟩ : ∃ V1, V1 = w.alloc (.cells (acL a).toArray 34 (0, 0)) := ⟨_, rfl⟩
  have hbl : Below w.heap.size w V1 := by rw [hV1]; exact (Below.refl _ _).alloc (Nat.le_refl _) _
  have hJ1 := h.below hbl
  have hac : AC V1 w.heap.size a := by rw [hV1]; exact heap_alloc_new _ _
  have hs1 : V1.heap.size = w.heap.size + 1 := by rw [hV1]; simp
  have hgb := h.pm.row.lt
  have hwb := h.rm.lt
  have HJ1 : Hid _ := hJ1
  have HAC : Hid _ := hac
  have HK1 : Hid (KS (SJ gb wb) w V1) := KS.of hbl
  obtain ⟨hc0, hc1, hc2, hc3, hc4⟩ := hac.facts
  unfold acL at hV1 ⊢
  -- $1 the kind
  have HAF : Hid (∀ W, AC W w.heap.size a → W.cell? ⟨w.heap.size, 1, none⟩ = some (.int .i64 a.g) ∧ W.cell? ⟨w.heap.size, 2, none⟩ = some (.int .i64 a.f) ∧ W.cell? ⟨w.heap.size, 3, none⟩ = some (.int .i64 a.t) ∧ W.cell? ⟨w.heap.size, 4, none⟩ = some (.int .u64 (a.o : Int))) := fun W hW => hW.facts.2
  have HSP : Hid _ := hSP
  have HSR : Hid _ := hSR
  rw [hk] at hc0 hV1 ⊢
  have HSA : Hid (∀ W, KS (SJ gb wb) V1 W → AC W w.heap.size a) := fun W hW => (hW.blk _ (by omega) (fun hs => by rcases hs with hs | hs <;> omega)).trans HAC.out
  generalize doL l a = L2 at *
  clear hJ1 hac hbl h hk hSP hSR
  rw [hV1] at hc0
  go_enter Try.func12, Try.ntmps12
  go_wp2_with fail
  rw [← hV1]
  clear hV1 hc0 hc1 hc2 hc3 hc4
  refine wp_region_held_drew (S := fun W => AC W w.heap.size a) (by kernel_rfl) (show AC V1.drew w.heap.size a from HAC.out) (fun hHeld => ?_)
  refine wpAnyH_take (i := 0) (oi := { dst := some 11, op := Go.Op.move (Go.Operand.tmp 0), type := 24, pos := _, after := #[], guard := none }) (v := .pointer (some ⟨tb, 0, none⟩)) rfl (by kernel_rfl) (by kernel_rfl) (by kernel_rfl) (fun _ _ _ h => h) (Or.inl ⟨by rfl, fun w' hw' => ?_⟩) hHeld ?_
  · first | (go_simp; done) | (go_simp; rfl)
  try simp only [Act.put, List.setIfInBounds_toArray, List.set_cons_zero, List.set_cons_succ]
  refine wpAnyH_take (i := 1) (oi := { dst := some 12, op := Go.Op.fieldAddr 34 (Go.Operand.tmp 5) 1, type := 0, pos := _, after := #[], guard := none }) (v := .pointer (some ⟨w.heap.size, 1, none⟩)) rfl (by kernel_rfl) (by kernel_rfl) (by kernel_rfl) (fun _ _ _ h => h) (Or.inl ⟨by rfl, fun w' hw' => ?_⟩) hHeld ?_
  · first | (go_simp; done) | (go_simp; rfl)
  try simp only [Act.put, List.setIfInBounds_toArray, List.set_cons_zero, List.set_cons_succ]
  refine wpAnyH_take (i := 2) (oi := { dst := some 13, op := Go.Op.load 3 (Go.Operand.tmp 12), type := 3, pos := _, after := #[{ on := 1, ground := Go.Ground.data }], guard := none }) (v := .int .i64 a.g) rfl (by kernel_rfl) (by kernel_rfl) (by kernel_rfl) (fun _ _ _ h => h) (Or.inl ⟨by rfl, fun w' hw' => ?_⟩) hHeld ?_
  · have hcc := (HAF.out _ hw').1; first | (go_simp; done) | (go_simp; rfl)
  try simp only [Act.put, List.setIfInBounds_toArray, List.set_cons_zero, List.set_cons_succ]
  refine wpAnyH_take (i := 3) (oi := { dst := some 14, op := Go.Op.fieldAddr 34 (Go.Operand.tmp 5) 2, type := 0, pos := _, after := #[], guard := none }) (v := .pointer (some ⟨w.heap.size, 2, none⟩)) rfl (by kernel_rfl) (by kernel_rfl) (by kernel_rfl) (fun _ _ _ h => h) (Or.inl ⟨by rfl, fun w' hw' => ?_⟩) hHeld ?_
  · first | (go_simp; done) | (go_simp; rfl)
  try simp only [Act.put, List.setIfInBounds_toArray, List.set_cons_zero, List.set_cons_succ]
  refine wpAnyH_take (i := 4) (oi := { dst := some 15, op := Go.Op.load 31 (Go.Operand.tmp 14), type := 31, pos := _, after := #[{ on := 3, ground := Go.Ground.data }], guard := none }) (v := .int .i64 a.f) rfl (by kernel_rfl) (by kernel_rfl) (by kernel_rfl) (fun _ _ _ h => h) (Or.inl ⟨by rfl, fun w' hw' => ?_⟩) hHeld ?_
  · have hcc := (HAF.out _ hw').2.1; first | (go_simp; done) | (go_simp; rfl)
  try simp only [Act.put, List.setIfInBounds_toArray, List.set_cons_zero, List.set_cons_succ]
  refine wpAnyH_take (i := 5) (oi := { dst := some 16, op := Go.Op.fieldAddr 34 (Go.Operand.tmp 5) 3, type := 0, pos := _, after := #[], guard := none }) (v := .pointer (some ⟨w.heap.size, 3, none⟩)) rfl (by kernel_rfl) (by kernel_rfl) (by kernel_rfl) (fun _ _ _ h => h) (Or.inl ⟨by rfl, fun w' hw' => ?_⟩) hHeld ?_
  · first | (go_simp; done) | (go_simp; rfl)
  try simp only [Act.put, List.setIfInBounds_toArray, List.set_cons_zero, List.set_cons_succ]
  refine wpAnyH_take (i := 6) (oi := { dst := some 17, op := Go.Op.load 31 (Go.Operand.tmp 16), type := 31, pos := _, after := #[{ on := 5, ground := Go.Ground.data }], guard := none }) (v := .int .i64 a.t) rfl (by kernel_rfl) (by kernel_rfl) (by kernel_rfl) (fun _ _ _ h => h) (Or.inl ⟨by rfl, fun w' hw' => ?_⟩) hHeld ?_
  · have hcc := (HAF.out _ hw').2.2.1; first | (go_simp; done) | (go_simp; rfl)
  try simp only [Act.put, List.setIfInBounds_toArray, List.set_cons_zero, List.set_cons_succ]
  refine wpAnyH_take (i := 7) (oi := { dst := some 18, op := Go.Op.fieldAddr 34 (Go.Operand.tmp 5) 4, type := 0, pos := _, after := #[], guard := none }) (v := .pointer (some ⟨w.heap.size, 4, none⟩)) rfl (by kernel_rfl) (by kernel_rfl) (by kernel_rfl) (fun _ _ _ h => h) (Or.inl ⟨by rfl, fun w' hw' => ?_⟩) hHeld ?_
  · first | (go_simp; done) | (go_simp; rfl)
  try simp only [Act.put, List.setIfInBounds_toArray, List.set_cons_zero, List.set_cons_succ]
  refine wpAnyH_take (i := 8) (oi := { dst := some 19, op := Go.Op.load 32 (Go.Operand.tmp 18), type := 32, pos := _, after := #[{ on := 7, ground := Go.Ground.data }], guard := none }) (v := .int .u64 (a.o : Int)) rfl (by kernel_rfl) (by kernel_rfl) (by kernel_rfl) (fun _ _ _ h => h) (Or.inl ⟨by rfl, fun w' hw' => ?_⟩) hHeld ?_
  · have hcc := (HAF.out _ hw').2.2.2; first | (go_simp; done) | (go_simp; rfl)
  try simp only [Act.put, List.setIfInBounds_toArray, List.set_cons_zero, List.set_cons_succ]
  refine wpAnyH_take (i := 10) (oi := { dst := some 21, op := Go.Op.move (Go.Operand.tmp 1), type := 28, pos := _, after := #[], guard := none }) (v := .slice (some ⟨wb, 0, none⟩) n n) rfl (by kernel_rfl) (by kernel_rfl) (by kernel_rfl) (fun _ _ _ h => h) (Or.inl ⟨by rfl, fun w' hw' => ?_⟩) hHeld ?_
  · first | (go_simp; done) | (go_simp; rfl)
  try simp only [Act.put, List.setIfInBounds_toArray, List.set_cons_zero, List.set_cons_succ]
  refine wpAnyH_take (i := 11) (oi := { dst := some 22, op := Go.Op.fieldAddr 34 (Go.Operand.tmp 5) 1, type := 0, pos := _, after := #[], guard := none }) (v := .pointer (some ⟨w.heap.size, 1, none⟩)) rfl (by kernel_rfl) (by kernel_rfl) (by kernel_rfl) (fun _ _ _ h => h) (Or.inl ⟨by rfl, fun w' hw' => ?_⟩) hHeld ?_
  · first | (go_simp; done) | (go_simp; rfl)
  try simp only [Act.put, List.setIfInBounds_toArray, List.set_cons_zero, List.set_cons_succ]
  refine wpAnyH_take (i := 12) (oi := { dst := some 23, op := Go.Op.load 3 (Go.Operand.tmp 22), type := 3, pos := _, after := #[{ on := 11, ground := Go.Ground.data }], guard := none }) (v := .int .i64 a.g) rfl (by kernel_rfl) (by kernel_rfl) (by kernel_rfl) (fun _ _ _ h => h) (Or.inl ⟨by rfl, fun w' hw' => ?_⟩) hHeld ?_
  · have hcc := (HAF.out _ hw').1; first | (go_simp; done) | (go_simp; rfl)
  try simp only [Act.put, List.setIfInBounds_toArray, List.set_cons_zero, List.set_cons_succ]
  refine wpAnyH_take (i := 13) (oi := { dst := some 24, op := Go.Op.fieldAddr 34 (Go.Operand.tmp 5) 2, type := 0, pos := _, after := #[], guard := none }) (v := .pointer (some ⟨w.heap.size, 2, none⟩)) rfl (by kernel_rfl) (by kernel_rfl) (by kernel_rfl) (fun _ _ _ h => h) (Or.inl ⟨by rfl, fun w' hw' => ?_⟩) hHeld ?_
  · first | (go_simp; done) | (go_simp; rfl)
  try simp only [Act.put, List.setIfInBounds_toArray, List.set_cons_zero, List.set_cons_succ]
  refine wpAnyH_take (i := 14) (oi := { dst := some 25, op := Go.Op.load 31 (Go.Operand.tmp 24), type := 31, pos := _, after := #[{ on := 13, ground := Go.Ground.data }], guard := none }) (v := .int .i64 a.f) rfl (by kernel_rfl) (by kernel_rfl) (by kernel_rfl) (fun _ _ _ h => h) (Or.inl ⟨by rfl, fun w' hw' => ?_⟩) hHeld ?_
  · have hcc := (HAF.out _ hw').2.1; first | (go_simp; done) | (go_simp; rfl)
  try simp only [Act.put, List.setIfInBounds_toArray, List.set_cons_zero, List.set_cons_succ]
  refine wpAnyH_take (i := 15) (oi := { dst := some 26, op := Go.Op.fieldAddr 34 (Go.Operand.tmp 5) 3, type := 0, pos := _, after := #[], guard := none }) (v := .pointer (some ⟨w.heap.size, 3, none⟩)) rfl (by kernel_rfl) (by kernel_rfl) (by kernel_rfl) (fun _ _ _ h => h) (Or.inl ⟨by rfl, fun w' hw' => ?_⟩) hHeld ?_
  · first | (go_simp; done) | (go_simp; rfl)
  try simp only [Act.put, List.setIfInBounds_toArray, List.set_cons_zero, List.set_cons_succ]
  refine wpAnyH_take (i := 16) (oi := { dst := some 27, op := Go.Op.load 31 (Go.Operand.tmp 26), type := 31, pos := _, after := #[{ on := 15, ground := Go.Ground.data }], guard := none }) (v := .int .i64 a.t) rfl (by kernel_rfl) (by kernel_rfl) (by kernel_rfl) (fun _ _ _ h => h) (Or.inl ⟨by rfl, fun w' hw' => ?_⟩) hHeld ?_
  · have hcc := (HAF.out _ hw').2.2.1; first | (go_simp; done) | (go_simp; rfl)
  try simp only [Act.put, List.setIfInBounds_toArray, List.set_cons_zero, List.set_cons_succ]
  refine wpAnyH_take (i := 17) (oi := { dst := some 28, op := Go.Op.fieldAddr 34 (Go.Operand.tmp 5) 4, type := 0, pos := _, after := #[], guard := none }) (v := .pointer (some ⟨w.heap.size, 4, none⟩)) rfl (by kernel_rfl) (by kernel_rfl) (by kernel_rfl) (fun _ _ _ h => h) (Or.inl ⟨by rfl, fun w' hw' => ?_⟩) hHeld ?_
  · first | (go_simp; done) | (go_simp; rfl)
  try simp only [Act.put, List.setIfInBounds_toArray, List.set_cons_zero, List.set_cons_succ]
  refine wpAnyH_take (i := 18) (oi := { dst := some 29, op := Go.Op.load 32 (Go.Operand.tmp 28), type := 32, pos := _, after := #[{ on := 17, ground := Go.Ground.data }], guard := none }) (v := .int .u64 (a.o : Int)) rfl (by kernel_rfl) (by kernel_rfl) (by kernel_rfl) (fun _ _ _ h => h) (Or.inl ⟨by rfl, fun w' hw' => ?_⟩) hHeld ?_
  · have hcc := (HAF.out _ hw').2.2.2; first | (go_simp; done) | (go_simp; rfl)
  try simp only [Act.put, List.setIfInBounds_toArray, List.set_cons_zero, List.set_cons_succ]
  -- the two calls: 9 the first's place, 19 the second's, 20 the comparison's, 21 the assignment's
  refine wpAnyH_ready (rs := [9]) (by kernel_rfl) (by simp) ?_
  refine AllReadyH.cons (o := { dst := some 20, op := Go.Op.call { callee := Go.Callee.value (Go.Operand.func 20), args := #[Go.Operand.tmp 11, Go.Operand.tmp 13, Go.Operand.tmp 15, Go.Operand.tmp 17, Go.Operand.tmp 19], argTypes := #[24, 3, 31, 31, 32] }, type := 25, pos := _, after := #[{ on := 0, ground := Go.Ground.data }, { on := 2, ground := Go.Ground.data }, { on := 4, ground := Go.Ground.data }, { on := 6, ground := Go.Ground.data }, { on := 8, ground := Go.Ground.data }], guard := none }) rfl (fun K hK => ?_) AllReadyH.nil
  rw [if_pos (by rfl)]
  go_wp2_with fail
  refine Calls.mono (HSP.out _ (HJ1.out.pm.below (below_drew V1))) ?_
  rintro e V2 ⟨rfl, hP2, hK2⟩
  have hk2 : KB gb V1 V2 := (KB.drew (KB.refl gb V1)).trans hK2
  have hA2 : AC V2 w.heap.size a := HSA.out V2 (KS.kb hk2 (.inl rfl))
  have hR2 : AR V2 wb l := HJ1.out.rm.kb hk2 (Ne.symm HJ1.out.d1)
  refine hK.out _ _ hA2 (fun _ => ?_)
  clear hK K
  try simp only [Act.put, List.setIfInBounds_toArray, List.set_cons_zero, List.set_cons_succ]
  clear hHeld
  have hHeld := hA2
  refine wpAnyH_ready (rs := [19]) (by kernel_rfl) (by simp) ?_
  refine AllReadyH.cons (o := { dst := some 30, op := Go.Op.call { callee := Go.Callee.value (Go.Operand.func 25), args := #[Go.Operand.tmp 21, Go.Operand.tmp 23, Go.Operand.tmp 25, Go.Operand.tmp 27, Go.Operand.tmp 29], argTypes := #[28, 3, 31, 31, 32] }, type := 3, pos := _, after := #[{ on := 10, ground := Go.Ground.data }, { on := 12, ground := Go.Ground.data }, { on := 14, ground := Go.Ground.data }, { on := 16, ground := Go.Ground.data }, { on := 18, ground := Go.Ground.data }, { on := 9, ground := Go.Ground.chain }], guard := none }) rfl (fun K hK => ?_) AllReadyH.nil
  rw [if_pos (by rfl)]
  go_wp2_with fail
  refine Calls.mono (HSR.out V2 hR2) ?_
  rintro e V3 ⟨rfl, hR3, hK3⟩
  have hKS : KS (SJ gb wb) V1 V3 := (KS.kb hk2 (.inl rfl)).trans (KS.kb hK3 (.inr rfl))
  have hA3 : AC V3 w.heap.size a := HSA.out V3 hKS
  refine hK.out _ _ hA3 (fun _ => ?_)
  clear hK K
  try simp only [Act.put, List.setIfInBounds_toArray, List.set_cons_zero, List.set_cons_succ]
  clear hHeld
  have hHeld := hA3
  refine wpAnyH_take (i := 20) (oi := { dst := some 31, op := Go.Op.binOp Go.BinOp.eql 3 (Go.Operand.tmp 20) (Go.Operand.tmp 30) 3, type := 4, pos := _, after := #[{ on := 9, ground := Go.Ground.data }, { on := 19, ground := Go.Ground.data }], guard := none }) (v := .bool true) rfl (by kernel_rfl) (by kernel_rfl) (by kernel_rfl) (fun _ _ _ h => h) (Or.inl ⟨by rfl, fun w' hw' => ?_⟩) hHeld ?_
  · first | (go_simp; done) | (go_simp; rfl)
  try simp only [Act.put, List.setIfInBounds_toArray, List.set_cons_zero, List.set_cons_succ]
  refine wpAnyH_take (i := 21) (oi := { dst := some 6, op := Go.Op.assign (Go.Operand.tmp 31), type := 4, pos := _, after := #[{ on := 20, ground := Go.Ground.data }, { on := 19, ground := Go.Ground.chain }, { on := 0, ground := Go.Ground.phase }, { on := 1, ground := Go.Ground.phase }, { on := 2, ground := Go.Ground.phase }, { on := 3, ground := Go.Ground.phase }, { on := 4, ground := Go.Ground.phase }, { on := 5, ground := Go.Ground.phase }, { on := 6, ground := Go.Ground.phase }, { on := 7, ground := Go.Ground.phase }, { on := 8, ground := Go.Ground.phase }, { on := 9, ground := Go.Ground.phase }, { on := 10, ground := Go.Ground.phase }, { on := 11, ground := Go.Ground.phase }, { on := 12, ground := Go.Ground.phase }, { on := 13, ground := Go.Ground.phase }, { on := 14, ground := Go.Ground.phase }, { on := 15, ground := Go.Ground.phase }, { on := 16, ground := Go.Ground.phase }, { on := 17, ground := Go.Ground.phase }, { on := 18, ground := Go.Ground.phase }, { on := 19, ground := Go.Ground.phase }, { on := 20, ground := Go.Ground.phase }], guard := none }) (v := .bool true) rfl (by kernel_rfl) (by kernel_rfl) (by kernel_rfl) (fun _ _ _ h => h) (Or.inl ⟨by rfl, fun w' hw' => ?_⟩) hHeld ?_
  · first | (go_simp; done) | (go_simp; rfl)
  try simp only [Act.put, List.setIfInBounds_toArray, List.set_cons_zero, List.set_cons_succ]
  refine wpAnyH_done (by kernel_rfl) ?_ _
  have HEND : Hid (DoEnd B tb gb wb n w L2 (.returned (.bool true)) V3) := ⟨rfl, ⟨hP2.kb hK3 HJ1.out.d2 HJ1.out.d1, hR3, HJ1.out.d1, HJ1.out.d2, Nat.le_trans HJ1.out.low hKS.size, HJ1.out.bg, HJ1.out.bw⟩, HK1.out.trans hKS⟩
  clear hHeld hA2 hA3 hKS hK3 hR3 hR2 hk2 hP2 hK2
  go_wp2
  go_ret
  exact HEND.out
set_option maxHeartbeats 1000000 in
theorem do_2 (B tb gb wb n : Nat) (l : List Rw) (a : Ac) (w : World) (h : JM B w tb gb wb n l) (hh : ∀ r ∈ l, r.held < 2147483647) (hk : a.kind = 2) :
    Calls Try.prog 12 #[.pointer (some ⟨tb, 0, none⟩), .slice (some ⟨wb, 0, none⟩) n n, .agg (acL a).toArray] w fun e w' => DoEnd B tb gb wb n w (doL l a) e w' := by
  obtain ⟨c, hSP, hSR⟩ := both2 tb gb wb n l a h.pm.len h.pm.le hh hk
  clear hh
  obtain ⟨V1, hV1⟩ : ∃ V1, V1 = w.alloc (.cells (acL a).toArray 34 (0, 0)) := ⟨_, rfl⟩
  have hbl : Below w.heap.size w V1 := by rw [hV1]; exact (Below.refl _ _).alloc (Nat.le_refl _) _
  have hJ1 := h.below hbl
  have hac : AC V1 w.heap.size a := by rw [hV1]; exact heap_alloc_new _ _
  have hs1 : V1.heap.size = w.heap.size + 1 := by rw [hV1]; simp
  have hgb := h.pm.row.lt
  have hwb := h.rm.lt
  have HJ1 : Hid _ := hJ1
  have HAC : Hid _ := hac
  have HK1 : Hid (KS (SJ gb wb) w V1) := KS.of hbl
  obtain ⟨hc0, hc1, hc2, hc3, hc4⟩ := hac.facts
  unfold acL at hV1 ⊢
  -- $1 the kind
  have HAF : Hid (∀ W, AC W w.heap.size a → W.cell? ⟨w.heap.size, 1, none⟩ = some (.int .i64 a.g) ∧ W.cell? ⟨w.heap.size, 2, none⟩ = some (.int .i64 a.f) ∧ W.cell? ⟨w.heap.size, 3, none⟩ = some (.int .i64 a.t) ∧ W.cell? ⟨w.heap.size, 4, none⟩ = some (.int .u64 (a.o : Int))) := fun W hW => hW.facts.2
  have HSP : Hid _ := hSP
  have HSR : Hid _ := hSR
  rw [hk] at hc0 hV1 ⊢
  have HSA : Hid (∀ W, KS (SJ gb wb) V1 W → AC W w.heap.size a) := fun W hW => (hW.blk _ (by omega) (fun hs => by rcases hs with hs | hs <;> omega)).trans HAC.out
  generalize doL l a = L2 at *
  clear hJ1 hac hbl h hk hSP hSR
  rw [hV1] at hc0
  go_enter Try.func12, Try.ntmps12
  go_wp2_with fail
  rw [← hV1]
  clear hV1 hc0 hc1 hc2 hc3 hc4
  refine wp_region_held_drew (S := fun W => AC W w.heap.size a) (by kernel_rfl) (show AC V1.drew w.heap.size a from HAC.out) (fun hHeld => ?_)
  refine wpAnyH_take (i := 0) (oi := { dst := some 34, op := Go.Op.move (Go.Operand.tmp 0), type := 24, pos := _, after := #[], guard := none }) (v := .pointer (some ⟨tb, 0, none⟩)) rfl (by kernel_rfl) (by kernel_rfl) (by kernel_rfl) (fun _ _ _ h => h) (Or.inl ⟨by rfl, fun w' hw' => ?_⟩) hHeld ?_
  · first | (go_simp; done) | (go_simp; rfl)
  try simp only [Act.put, List.setIfInBounds_toArray, List.set_cons_zero, List.set_cons_succ]
  refine wpAnyH_take (i := 1) (oi := { dst := some 35, op := Go.Op.fieldAddr 34 (Go.Operand.tmp 5) 1, type := 0, pos := _, after := #[], guard := none }) (v := .pointer (some ⟨w.heap.size, 1, none⟩)) rfl (by kernel_rfl) (by kernel_rfl) (by kernel_rfl) (fun _ _ _ h => h) (Or.inl ⟨by rfl, fun w' hw' => ?_⟩) hHeld ?_
  · first | (go_simp; done) | (go_simp; rfl)
  try simp only [Act.put, List.setIfInBounds_toArray, List.set_cons_zero, List.set_cons_succ]
  refine wpAnyH_take (i := 2) (oi := { dst := some 36, op := Go.Op.load 3 (Go.Operand.tmp 35), type := 3, pos := _, after := #[{ on := 1, ground := Go.Ground.data }], guard := none }) (v := .int .i64 a.g) rfl (by kernel_rfl) (by kernel_rfl) (by kernel_rfl) (fun _ _ _ h => h) (Or.inl ⟨by rfl, fun w' hw' => ?_⟩) hHeld ?_
  · have hcc := (HAF.out _ hw').1; first | (go_simp; done) | (go_simp; rfl)
  try simp only [Act.put, List.setIfInBounds_toArray, List.set_cons_zero, List.set_cons_succ]
  refine wpAnyH_take (i := 4) (oi := { dst := some 38, op := Go.Op.move (Go.Operand.tmp 1), type := 28, pos := _, after := #[], guard := none }) (v := .slice (some ⟨wb, 0, none⟩) n n) rfl (by kernel_rfl) (by kernel_rfl) (by kernel_rfl) (fun _ _ _ h => h) (Or.inl ⟨by rfl, fun w' hw' => ?_⟩) hHeld ?_
  · first | (go_simp; done) | (go_simp; rfl)
  try simp only [Act.put, List.setIfInBounds_toArray, List.set_cons_zero, List.set_cons_succ]
  refine wpAnyH_take (i := 5) (oi := { dst := some 39, op := Go.Op.fieldAddr 34 (Go.Operand.tmp 5) 1, type := 0, pos := _, after := #[], guard := none }) (v := .pointer (some ⟨w.heap.size, 1, none⟩)) rfl (by kernel_rfl) (by kernel_rfl) (by kernel_rfl) (fun _ _ _ h => h) (Or.inl ⟨by rfl, fun w' hw' => ?_⟩) hHeld ?_
  · first | (go_simp; done) | (go_simp; rfl)
  try simp only [Act.put, List.setIfInBounds_toArray, List.set_cons_zero, List.set_cons_succ]
  refine wpAnyH_take (i := 6) (oi := { dst := some 40, op := Go.Op.load 3 (Go.Operand.tmp 39), type := 3, pos := _, after := #[{ on := 5, ground := Go.Ground.data }], guard := none }) (v := .int .i64 a.g) rfl (by kernel_rfl) (by kernel_rfl) (by kernel_rfl) (fun _ _ _ h => h) (Or.inl ⟨by rfl, fun w' hw' => ?_⟩) hHeld ?_
  · have hcc := (HAF.out _ hw').1; first | (go_simp; done) | (go_simp; rfl)
  try simp only [Act.put, List.setIfInBounds_toArray, List.set_cons_zero, List.set_cons_succ]
  -- the two calls: 3 the first's place, 7 the second's, 8 the comparison's, 9 the assignment's
  refine wpAnyH_ready (rs := [3]) (by kernel_rfl) (by simp) ?_
  refine AllReadyH.cons (o := { dst := some 37, op := Go.Op.call { callee := Go.Callee.value (Go.Operand.func 21), args := #[Go.Operand.tmp 34, Go.Operand.tmp 36], argTypes := #[24, 3] }, type := 25, pos := _, after := #[{ on := 0, ground := Go.Ground.data }, { on := 2, ground := Go.Ground.data }], guard := none }) rfl (fun K hK => ?_) AllReadyH.nil
  rw [if_pos (by rfl)]
  go_wp2_with fail
  refine Calls.mono (HSP.out _ (HJ1.out.pm.below (below_drew V1))) ?_
  rintro e V2 ⟨rfl, hP2, hK2⟩
  have hk2 : KB gb V1 V2 := (KB.drew (KB.refl gb V1)).trans hK2
  have hA2 : AC V2 w.heap.size a := HSA.out V2 (KS.kb hk2 (.inl rfl))
  have hR2 : AR V2 wb l := HJ1.out.rm.kb hk2 (Ne.symm HJ1.out.d1)
  refine hK.out _ _ hA2 (fun _ => ?_)
  clear hK K
  try simp only [Act.put, List.setIfInBounds_toArray, List.set_cons_zero, List.set_cons_succ]
  clear hHeld
  have hHeld := hA2
  refine wpAnyH_ready (rs := [7]) (by kernel_rfl) (by simp) ?_
  refine AllReadyH.cons (o := { dst := some 41, op := Go.Op.call { callee := Go.Callee.value (Go.Operand.func 26), args := #[Go.Operand.tmp 38, Go.Operand.tmp 40], argTypes := #[28, 3] }, type := 3, pos := _, after := #[{ on := 4, ground := Go.Ground.data }, { on := 6, ground := Go.Ground.data }, { on := 3, ground := Go.Ground.chain }], guard := none }) rfl (fun K hK => ?_) AllReadyH.nil
  rw [if_pos (by rfl)]
  go_wp2_with fail
  refine Calls.mono (HSR.out V2 hR2) ?_
  rintro e V3 ⟨rfl, hR3, hK3⟩
  have hKS : KS (SJ gb wb) V1 V3 := (KS.kb hk2 (.inl rfl)).trans (KS.kb hK3 (.inr rfl))
  have hA3 : AC V3 w.heap.size a := HSA.out V3 hKS
  refine hK.out _ _ hA3 (fun _ => ?_)
  clear hK K
  try simp only [Act.put, List.setIfInBounds_toArray, List.set_cons_zero, List.set_cons_succ]
  clear hHeld
  have hHeld := hA3
  refine wpAnyH_take (i := 8) (oi := { dst := some 42, op := Go.Op.binOp Go.BinOp.eql 3 (Go.Operand.tmp 37) (Go.Operand.tmp 41) 3, type := 4, pos := _, after := #[{ on := 3, ground := Go.Ground.data }, { on := 7, ground := Go.Ground.data }], guard := none }) (v := .bool true) rfl (by kernel_rfl) (by kernel_rfl) (by kernel_rfl) (fun _ _ _ h => h) (Or.inl ⟨by rfl, fun w' hw' => ?_⟩) hHeld ?_
  · first | (go_simp; done) | (go_simp; rfl)
  try simp only [Act.put, List.setIfInBounds_toArray, List.set_cons_zero, List.set_cons_succ]
  refine wpAnyH_take (i := 9) (oi := { dst := some 6, op := Go.Op.assign (Go.Operand.tmp 42), type := 4, pos := _, after := #[{ on := 8, ground := Go.Ground.data }, { on := 7, ground := Go.Ground.chain }, { on := 0, ground := Go.Ground.phase }, { on := 1, ground := Go.Ground.phase }, { on := 2, ground := Go.Ground.phase }, { on := 3, ground := Go.Ground.phase }, { on := 4, ground := Go.Ground.phase }, { on := 5, ground := Go.Ground.phase }, { on := 6, ground := Go.Ground.phase }, { on := 7, ground := Go.Ground.phase }, { on := 8, ground := Go.Ground.phase }], guard := none }) (v := .bool true) rfl (by kernel_rfl) (by kernel_rfl) (by kernel_rfl) (fun _ _ _ h => h) (Or.inl ⟨by rfl, fun w' hw' => ?_⟩) hHeld ?_
  · first | (go_simp; done) | (go_simp; rfl)
  try simp only [Act.put, List.setIfInBounds_toArray, List.set_cons_zero, List.set_cons_succ]
  refine wpAnyH_done (by kernel_rfl) ?_ _
  have HEND : Hid (DoEnd B tb gb wb n w L2 (.returned (.bool true)) V3) := ⟨rfl, ⟨hP2.kb hK3 HJ1.out.d2 HJ1.out.d1, hR3, HJ1.out.d1, HJ1.out.d2, Nat.le_trans HJ1.out.low hKS.size, HJ1.out.bg, HJ1.out.bw⟩, HK1.out.trans hKS⟩
  clear hHeld hA2 hA3 hKS hK3 hR3 hR2 hk2 hP2 hK2
  go_wp2
  go_ret
  exact HEND.out
set_option maxHeartbeats 1000000 in
theorem do_3 (B tb gb wb n : Nat) (l : List Rw) (a : Ac) (w : World) (h : JM B w tb gb wb n l) (hh : ∀ r ∈ l, r.held < 2147483647) (hk : a.kind = 3) :
    Calls Try.prog 12 #[.pointer (some ⟨tb, 0, none⟩), .slice (some ⟨wb, 0, none⟩) n n, .agg (acL a).toArray] w fun e w' => DoEnd B tb gb wb n w (doL l a) e w' := by
  obtain ⟨c, hSP, hSR⟩ := both3 tb gb wb n l a h.pm.len h.pm.le hh hk
  clear hh
  obtain ⟨V1, hV1⟩ : ∃ V1, V1 = w.alloc (.cells (acL a).toArray 34 (0, 0)) := ⟨_, rfl⟩
  have hbl : Below w.heap.size w V1 := by rw [hV1]; exact (Below.refl _ _).alloc (Nat.le_refl _) _
  have hJ1 := h.below hbl
  have hac : AC V1 w.heap.size a := by rw [hV1]; exact heap_alloc_new _ _
  have hs1 : V1.heap.size = w.heap.size + 1 := by rw [hV1]; simp
  have hgb := h.pm.row.lt
  have hwb := h.rm.lt
  have HJ1 : Hid _ := hJ1
  have HAC : Hid _ := hac
  have HK1 : Hid (KS (SJ gb wb) w V1) := KS.of hbl
  obtain ⟨hc0, hc1, hc2, hc3, hc4⟩ := hac.facts
  unfold acL at hV1 ⊢
  -- $1 the kind
  have HAF : Hid (∀ W, AC W w.heap.size a → W.cell? ⟨w.heap.size, 1, none⟩ = some (.int .i64 a.g) ∧ W.cell? ⟨w.heap.size, 2, none⟩ = some (.int .i64 a.f) ∧ W.cell? ⟨w.heap.size, 3, none⟩ = some (.int .i64 a.t) ∧ W.cell? ⟨w.heap.size, 4, none⟩ = some (.int .u64 (a.o : Int))) := fun W hW => hW.facts.2
  have HSP : Hid _ := hSP
  have HSR : Hid _ := hSR
  rw [hk] at hc0 hV1 ⊢
  have HSA : Hid (∀ W, KS (SJ gb wb) V1 W → AC W w.heap.size a) := fun W hW => (hW.blk _ (by omega) (fun hs => by rcases hs with hs | hs <;> omega)).trans HAC.out
  generalize doL l a = L2 at *
  clear hJ1 hac hbl h hk hSP hSR
  rw [hV1] at hc0
  go_enter Try.func12, Try.ntmps12
  go_wp2_with fail
  rw [← hV1]
  clear hV1 hc0 hc1 hc2 hc3 hc4
  refine wp_region_held_drew (S := fun W => AC W w.heap.size a) (by kernel_rfl) (show AC V1.drew w.heap.size a from HAC.out) (fun hHeld => ?_)
  refine wpAnyH_take (i := 0) (oi := { dst := some 45, op := Go.Op.move (Go.Operand.tmp 0), type := 24, pos := _, after := #[], guard := none }) (v := .pointer (some ⟨tb, 0, none⟩)) rfl (by kernel_rfl) (by kernel_rfl) (by kernel_rfl) (fun _ _ _ h => h) (Or.inl ⟨by rfl, fun w' hw' => ?_⟩) hHeld ?_
  · first | (go_simp; done) | (go_simp; rfl)
  try simp only [Act.put, List.setIfInBounds_toArray, List.set_cons_zero, List.set_cons_succ]
  refine wpAnyH_take (i := 1) (oi := { dst := some 46, op := Go.Op.fieldAddr 34 (Go.Operand.tmp 5) 1, type := 0, pos := _, after := #[], guard := none }) (v := .pointer (some ⟨w.heap.size, 1, none⟩)) rfl (by kernel_rfl) (by kernel_rfl) (by kernel_rfl) (fun _ _ _ h => h) (Or.inl ⟨by rfl, fun w' hw' => ?_⟩) hHeld ?_
  · first | (go_simp; done) | (go_simp; rfl)
  try simp only [Act.put, List.setIfInBounds_toArray, List.set_cons_zero, List.set_cons_succ]
  refine wpAnyH_take (i := 2) (oi := { dst := some 47, op := Go.Op.load 3 (Go.Operand.tmp 46), type := 3, pos := _, after := #[{ on := 1, ground := Go.Ground.data }], guard := none }) (v := .int .i64 a.g) rfl (by kernel_rfl) (by kernel_rfl) (by kernel_rfl) (fun _ _ _ h => h) (Or.inl ⟨by rfl, fun w' hw' => ?_⟩) hHeld ?_
  · have hcc := (HAF.out _ hw').1; first | (go_simp; done) | (go_simp; rfl)
  try simp only [Act.put, List.setIfInBounds_toArray, List.set_cons_zero, List.set_cons_succ]
  refine wpAnyH_take (i := 4) (oi := { dst := some 49, op := Go.Op.move (Go.Operand.tmp 1), type := 28, pos := _, after := #[], guard := none }) (v := .slice (some ⟨wb, 0, none⟩) n n) rfl (by kernel_rfl) (by kernel_rfl) (by kernel_rfl) (fun _ _ _ h => h) (Or.inl ⟨by rfl, fun w' hw' => ?_⟩) hHeld ?_
  · first | (go_simp; done) | (go_simp; rfl)
  try simp only [Act.put, List.setIfInBounds_toArray, List.set_cons_zero, List.set_cons_succ]
  refine wpAnyH_take (i := 5) (oi := { dst := some 50, op := Go.Op.fieldAddr 34 (Go.Operand.tmp 5) 1, type := 0, pos := _, after := #[], guard := none }) (v := .pointer (some ⟨w.heap.size, 1, none⟩)) rfl (by kernel_rfl) (by kernel_rfl) (by kernel_rfl) (fun _ _ _ h => h) (Or.inl ⟨by rfl, fun w' hw' => ?_⟩) hHeld ?_
  · first | (go_simp; done) | (go_simp; rfl)
  try simp only [Act.put, List.setIfInBounds_toArray, List.set_cons_zero, List.set_cons_succ]
  refine wpAnyH_take (i := 6) (oi := { dst := some 51, op := Go.Op.load 3 (Go.Operand.tmp 50), type := 3, pos := _, after := #[{ on := 5, ground := Go.Ground.data }], guard := none }) (v := .int .i64 a.g) rfl (by kernel_rfl) (by kernel_rfl) (by kernel_rfl) (fun _ _ _ h => h) (Or.inl ⟨by rfl, fun w' hw' => ?_⟩) hHeld ?_
  · have hcc := (HAF.out _ hw').1; first | (go_simp; done) | (go_simp; rfl)
  try simp only [Act.put, List.setIfInBounds_toArray, List.set_cons_zero, List.set_cons_succ]
  -- the two calls: 3 the first's place, 7 the second's, 8 the comparison's, 9 the assignment's
  refine wpAnyH_ready (rs := [3]) (by kernel_rfl) (by simp) ?_
  refine AllReadyH.cons (o := { dst := some 48, op := Go.Op.call { callee := Go.Callee.value (Go.Operand.func 22), args := #[Go.Operand.tmp 45, Go.Operand.tmp 47], argTypes := #[24, 3] }, type := 25, pos := _, after := #[{ on := 0, ground := Go.Ground.data }, { on := 2, ground := Go.Ground.data }], guard := none }) rfl (fun K hK => ?_) AllReadyH.nil
  rw [if_pos (by rfl)]
  go_wp2_with fail
  refine Calls.mono (HSP.out _ (HJ1.out.pm.below (below_drew V1))) ?_
  rintro e V2 ⟨rfl, hP2, hK2⟩
  have hk2 : KB gb V1 V2 := (KB.drew (KB.refl gb V1)).trans hK2
  have hA2 : AC V2 w.heap.size a := HSA.out V2 (KS.kb hk2 (.inl rfl))
  have hR2 : AR V2 wb l := HJ1.out.rm.kb hk2 (Ne.symm HJ1.out.d1)
  refine hK.out _ _ hA2 (fun _ => ?_)
  clear hK K
  try simp only [Act.put, List.setIfInBounds_toArray, List.set_cons_zero, List.set_cons_succ]
  clear hHeld
  have hHeld := hA2
  refine wpAnyH_ready (rs := [7]) (by kernel_rfl) (by simp) ?_
  refine AllReadyH.cons (o := { dst := some 52, op := Go.Op.call { callee := Go.Callee.value (Go.Operand.func 27), args := #[Go.Operand.tmp 49, Go.Operand.tmp 51], argTypes := #[28, 3] }, type := 3, pos := _, after := #[{ on := 4, ground := Go.Ground.data }, { on := 6, ground := Go.Ground.data }, { on := 3, ground := Go.Ground.chain }], guard := none }) rfl (fun K hK => ?_) AllReadyH.nil
  rw [if_pos (by rfl)]
  go_wp2_with fail
  refine Calls.mono (HSR.out V2 hR2) ?_
  rintro e V3 ⟨rfl, hR3, hK3⟩
  have hKS : KS (SJ gb wb) V1 V3 := (KS.kb hk2 (.inl rfl)).trans (KS.kb hK3 (.inr rfl))
  have hA3 : AC V3 w.heap.size a := HSA.out V3 hKS
  refine hK.out _ _ hA3 (fun _ => ?_)
  clear hK K
  try simp only [Act.put, List.setIfInBounds_toArray, List.set_cons_zero, List.set_cons_succ]
  clear hHeld
  have hHeld := hA3
  refine wpAnyH_take (i := 8) (oi := { dst := some 53, op := Go.Op.binOp Go.BinOp.eql 3 (Go.Operand.tmp 48) (Go.Operand.tmp 52) 3, type := 4, pos := _, after := #[{ on := 3, ground := Go.Ground.data }, { on := 7, ground := Go.Ground.data }], guard := none }) (v := .bool true) rfl (by kernel_rfl) (by kernel_rfl) (by kernel_rfl) (fun _ _ _ h => h) (Or.inl ⟨by rfl, fun w' hw' => ?_⟩) hHeld ?_
  · first | (go_simp; done) | (go_simp; rfl)
  try simp only [Act.put, List.setIfInBounds_toArray, List.set_cons_zero, List.set_cons_succ]
  refine wpAnyH_take (i := 9) (oi := { dst := some 6, op := Go.Op.assign (Go.Operand.tmp 53), type := 4, pos := _, after := #[{ on := 8, ground := Go.Ground.data }, { on := 7, ground := Go.Ground.chain }, { on := 0, ground := Go.Ground.phase }, { on := 1, ground := Go.Ground.phase }, { on := 2, ground := Go.Ground.phase }, { on := 3, ground := Go.Ground.phase }, { on := 4, ground := Go.Ground.phase }, { on := 5, ground := Go.Ground.phase }, { on := 6, ground := Go.Ground.phase }, { on := 7, ground := Go.Ground.phase }, { on := 8, ground := Go.Ground.phase }], guard := none }) (v := .bool true) rfl (by kernel_rfl) (by kernel_rfl) (by kernel_rfl) (fun _ _ _ h => h) (Or.inl ⟨by rfl, fun w' hw' => ?_⟩) hHeld ?_
  · first | (go_simp; done) | (go_simp; rfl)
  try simp only [Act.put, List.setIfInBounds_toArray, List.set_cons_zero, List.set_cons_succ]
  refine wpAnyH_done (by kernel_rfl) ?_ _
  have HEND : Hid (DoEnd B tb gb wb n w L2 (.returned (.bool true)) V3) := ⟨rfl, ⟨hP2.kb hK3 HJ1.out.d2 HJ1.out.d1, hR3, HJ1.out.d1, HJ1.out.d2, Nat.le_trans HJ1.out.low hKS.size, HJ1.out.bg, HJ1.out.bw⟩, HK1.out.trans hKS⟩
  clear hHeld hA2 hA3 hKS hK3 hR3 hR2 hk2 hP2 hK2
  go_wp2
  go_ret
  exact HEND.out
theorem do_any (B tb gb wb n : Nat) (l : List Rw) (a : Ac) (w : World) (h : JM B w tb gb wb n l) (hok : a.ok) (hh : ∀ r ∈ l, r.held < 2147483647) :
    Calls Try.prog 12 #[.pointer (some ⟨tb, 0, none⟩), .slice (some ⟨wb, 0, none⟩) n n, .agg (acL a).toArray] w fun e w' => DoEnd B tb gb wb n w (doL l a) e w' := by
  by_cases h1 : a.kind = 1
  · exact do_1 B tb gb wb n l a w h hok h1
  · by_cases h2 : a.kind = 2
    · exact do_2 B tb gb wb n l a w h hh h2
    · by_cases h3 : a.kind = 3
      · exact do_3 B tb gb wb n l a w h hh h3
      · exact do_else B tb gb wb n l a w h h1 h2 h3
end Go.Proofs.Ytpmbbnmpldeajaa.GC
