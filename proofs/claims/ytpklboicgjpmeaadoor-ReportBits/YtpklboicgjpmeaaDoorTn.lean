/- report: reports that are the same; alike ones. -/
import Derived.Test.YtpklboicgjpmeaaDoorTl
set_option linter.unusedVariables false
set_option linter.unusedSimpArgs false
namespace Go.Proofs.YtpklboicgjpmeaaDoor.RB
open Go.RowKit

def fk (f : Field) : Bool × TypeId × Nat := (f.name == "_", f.type, f.offset)
theorem eqF {P : Program} {w : World} {d : Nat} {xs ys : Array Value} {fs : List Field} {t : TypeId} {o : Nat} {rest : List (Bool × TypeId × Nat)} {a b : Value} {r s : Bool} (hf : fs.map fk = (false, t, o) :: rest) (h1 : (Go.part t xs o).run P w = .ok a w) (h2 : (Go.part t ys o).run P w = .ok b w) (h3 : (Op.equalIn d t a b).run P w = .ok r w) (h4 : ∀ fs' : List Field, fs'.map fk = rest → (Op.eqFields d xs ys fs').run P w = .ok s w) :
    (Op.eqFields d xs ys fs).run P w = .ok (r && s) w := by
  cases fs with
  | nil => cases hf
  | cons f fs =>
    rw [List.map_cons, List.cons.injEq] at hf
    obtain ⟨hk, hr⟩ := hf
    unfold fk at hk
    simp only [Prod.mk.injEq, beq_eq_false_iff_ne] at hk
    obtain ⟨hn, ht, ho⟩ := hk
    subst ht ho
    rw [Op.eqFields, if_pos hn]
    simp only [Sem.run_bind, h1, h2, h3, Result.andThen_ok]
    cases r
    · simp
    · simpa using h4 fs hr
theorem eqN {P : Program} {w : World} {d : Nat} {xs ys : Array Value} : ∀ fs' : List Field, fs'.map fk = [] → (Op.eqFields d xs ys fs').run P w = .ok true w := fun fs' h => by
  have : fs' = [] := by simpa using h
  subst this
  rfl
theorem int_nat (a b : Nat) : ((a : Int) == (b : Int)) = (a == b) := by rw [Bool.eq_iff_iff]; simp; omega
theorem part_int {l : List Value} {n : Nat} {w : World} {t : TypeId} {k : IntKind} {v : Value} (ht : Tryd.prog.underlying t = some (.int k)) (h : l[n]? = some v) : (Go.part t l.toArray n).run Tryd.prog w = .ok v w := by
  simp [Go.part, isAgg, run_underlying ht, h]
theorem part_bool {l : List Value} {n : Nat} {w : World} {t : TypeId} {v : Value} (ht : Tryd.prog.underlying t = some .bool) (h : l[n]? = some v) : (Go.part t l.toArray n).run Tryd.prog w = .ok v w := by
  simp [Go.part, isAgg, run_underlying ht, h]
theorem part_row {l m : List Value} {n s : Nat} {w : World} {t : TypeId} {d : TypeDesc} (ht : Tryd.prog.underlying t = some d) (hd : d.isRow = true) (hs : (sizeOf t).run Tryd.prog w = .ok s w) (h : (l.drop n).take s = m) : (Go.part t l.toArray n).run Tryd.prog w = .ok (.agg m.toArray) w := by
  cases d <;> simp [TypeDesc.isRow] at hd <;> simp [Go.part, isAgg, run_underlying ht, hs, List.extract_eq_take_drop, ← h]
theorem size_dgw (w : World) : (sizeOf 24).run Tryd.prog w = .ok 32 w := by kernel_rfl
theorem size_u8w (w : World) : (sizeOf 5).run Tryd.prog w = .ok 1 w := by kernel_rfl
theorem eq_dig (w : World) (xs ys : List UInt8) (hx : xs.length = 32) (hy : ys.length = 32) : (Op.equalIn 10000 24 (.agg (xs.map B8).toArray) (.agg (ys.map B8).toArray)).run Tryd.prog w = .ok (xs == ys) w :=
  run_equalIn_bytes (P := Tryd.prog) w 9998 24 5 32 Tryd.underlying24 Tryd.underlying5 size_u8w xs ys hx hy
def rpE (a b : Rp) : Bool := (a.inst == b.inst) && ((a.ms == b.ms) && (a.ch == b.ch))
theorem rpE_iff (a b : Rp) : rpE a b = true ↔ a = b := by
  unfold rpE
  simp only [Bool.and_eq_true, beq_iff_eq]
  exact ⟨fun h => Rp.eq h.1 h.2.1 h.2.2, fun h => by subst h; exact ⟨rfl, rfl, rfl⟩⟩
theorem rpE_self (a : Rp) : rpE a a = true := (rpE_iff a a).2 rfl
theorem rpE_ne {a b : Rp} (h : a ≠ b) : rpE a b = false := by
  cases e : rpE a b with
  | false => rfl
  | true => exact absurd ((rpE_iff a b).1 e) h
/-- Two reports. -/
theorem eq_rp (w : World) (a b : Rp) (ha : a.ok) (hb : b.ok) : (Op.equalIn 10000 26 (.agg (rL a).toArray) (.agg (rL b).toArray)).run Tryd.prog w = .ok (rpE a b) w := by
  rw [run_equalIn_struct w 9999 _ _ _ (by kernel_rfl) (by kernel_rfl)]
  have hf : (Tryd.prog.fieldsOf 26).toList.map fk = [(false, 22, 0), (false, 24, 1), (false, 24, 33)] := by kernel_rfl
  have he : rpE a b = (((a.inst : Int) == (b.inst : Int)) && ((a.ms == b.ms) && ((a.ch == b.ch) && true))) := by unfold rpE; rw [int_nat, Bool.and_true]
  rw [he]
  refine eqF hf (part_int Tryd.underlying22 (l := rL a) rfl) (part_int Tryd.underlying22 (l := rL b) rfl) (run_equalIn_int w 9998 _ _ _ _ _ Tryd.underlying22) (fun f2 h2 => ?_)
  refine eqF h2 (part_row Tryd.underlying24 rfl (size_dgw w) (rL_ms ha)) (part_row Tryd.underlying24 rfl (size_dgw w) (rL_ms hb)) (run_equalIn_bytes (P := Tryd.prog) w 9997 24 5 32 Tryd.underlying24 Tryd.underlying5 size_u8w a.ms b.ms ha.m hb.m) (fun f3 h3 => ?_)
  exact eqF h3 (part_row Tryd.underlying24 rfl (size_dgw w) (rL_ch ha)) (part_row Tryd.underlying24 rfl (size_dgw w) (rL_ch hb)) (run_equalIn_bytes (P := Tryd.prog) w 9997 24 5 32 Tryd.underlying24 Tryd.underlying5 size_u8w a.ch b.ch ha.c hb.c) eqN
/-- Are two alike? -/
def alk (a b : Rp) : Bool := (a.ms == b.ms) && (a.ch == b.ch)
set_option maxHeartbeats 1000000 in
set_option maxRecDepth 100000 in
theorem palike_any (a b : Rp) (ha : a.ok) (hb : b.ok) (w : World) : Calls Tryd.prog 13 #[rV a, rV b] w fun e w' => e = .returned (.bool (alk a b)) ∧ Below w.heap.size w w' := by
  have h1 := fun W => eq_dig W a.ms b.ms ha.m hb.m
  have h2 := fun W => eq_dig W a.ch b.ch ha.c hb.c
  have HR : Hid _ := ((RS.start w).alloc _ rfl 26 (rL a)).alloc (w.heap.size + 1) (by simp) 26 (rL b)
  have HA1 : Hid _ := digs_m ha (rangeAt_row (HR.out.at 1 rfl))
  have HA2 : Hid _ := digs_c ha (rangeAt_row (HR.out.at 1 rfl))
  have HB1 : Hid _ := digs_m hb (rangeAt_row (HR.out.at 0 rfl))
  have HB2 : Hid _ := digs_c hb (rangeAt_row (HR.out.at 0 rfl))
  have HI1 : Hid _ := infD ha.m
  have HI2 : Hid _ := infD hb.m
  have HI3 : Hid _ := infD ha.c
  have HI4 : Hid _ := infD hb.c
  unfold rV alk
  generalize (a.ms == b.ms) = E1 at *
  generalize (a.ch == b.ch) = E2 at *
  generalize a.ms.map B8 = M1 at *
  generalize b.ms.map B8 = M2 at *
  generalize a.ch.map B8 = C1 at *
  generalize b.ch.map B8 = C2 at *
  clear ha hb
  cases E1
  · go_enter Tryd.func13, Tryd.ntmps13
    go_wp2_with (first
      | (refine wpList_load_mid rfl 24 (.tmp 5) rfl w.heap.size 1 rfl M1 _ HA1.out Tryd.underlying24 rfl HI1.out ?_)
      | (refine wpList_load_mid rfl 24 (.tmp 7) rfl (w.heap.size + 1) 1 rfl M2 _ HB1.out Tryd.underlying24 rfl HI2.out ?_))
    go_ret
    exact ⟨rfl, HR.out.bel⟩
  · go_enter Tryd.func13, Tryd.ntmps13
    go_wp2_with (first
      | (refine wpList_load_mid rfl 24 (.tmp 5) rfl w.heap.size 1 rfl M1 _ HA1.out Tryd.underlying24 rfl HI1.out ?_)
      | (refine wpList_load_mid rfl 24 (.tmp 7) rfl (w.heap.size + 1) 1 rfl M2 _ HB1.out Tryd.underlying24 rfl HI2.out ?_)
      | (refine load_mid_g (by rfl) 24 (.tmp 11) rfl w.heap.size 33 rfl C1 _ HA2.out Tryd.underlying24 rfl HI3.out ?_)
      | (refine load_mid_g (by rfl) 24 (.tmp 13) rfl (w.heap.size + 1) 33 rfl C2 _ HB2.out Tryd.underlying24 rfl HI4.out ?_))
    go_ret
    exact ⟨rfl, HR.out.bel⟩
set_option maxHeartbeats 1000000 in
set_option maxRecDepth 100000 in
theorem ralike_any (a b : Rp) (ha : a.ok) (hb : b.ok) (w : World) : Calls Tryd.prog 14 #[rV a, rV b] w fun e w' => e = .returned (.bool (alk a b)) ∧ Below w.heap.size w w' := by
  have h1 := fun W => eq_dig W a.ms b.ms ha.m hb.m
  have h2 := fun W => eq_dig W a.ch b.ch ha.c hb.c
  have HR : Hid _ := ((RS.start w).alloc _ rfl 26 (rL a)).alloc (w.heap.size + 1) (by simp) 26 (rL b)
  have HA1 : Hid _ := digs_m ha (rangeAt_row (HR.out.at 1 rfl))
  have HA2 : Hid _ := digs_c ha (rangeAt_row (HR.out.at 1 rfl))
  have HB1 : Hid _ := digs_m hb (rangeAt_row (HR.out.at 0 rfl))
  have HB2 : Hid _ := digs_c hb (rangeAt_row (HR.out.at 0 rfl))
  have HI1 : Hid _ := infD ha.m
  have HI2 : Hid _ := infD hb.m
  have HI3 : Hid _ := infD ha.c
  have HI4 : Hid _ := infD hb.c
  unfold rV alk
  generalize (a.ms == b.ms) = E1 at *
  generalize (a.ch == b.ch) = E2 at *
  generalize a.ms.map B8 = M1 at *
  generalize b.ms.map B8 = M2 at *
  generalize a.ch.map B8 = C1 at *
  generalize b.ch.map B8 = C2 at *
  clear ha hb
  cases E1
  · go_enter Tryd.func14, Tryd.ntmps14
    go_wp2_with (first
      | (refine wpList_load_mid rfl 24 (.tmp 5) rfl w.heap.size 1 rfl M1 _ HA1.out Tryd.underlying24 rfl HI1.out ?_)
      | (refine wpList_load_mid rfl 24 (.tmp 7) rfl (w.heap.size + 1) 1 rfl M2 _ HB1.out Tryd.underlying24 rfl HI2.out ?_))
    go_ret
    exact ⟨rfl, HR.out.bel⟩
  · go_enter Tryd.func14, Tryd.ntmps14
    go_wp2_with (first
      | (refine wpList_load_mid rfl 24 (.tmp 5) rfl w.heap.size 1 rfl M1 _ HA1.out Tryd.underlying24 rfl HI1.out ?_)
      | (refine wpList_load_mid rfl 24 (.tmp 7) rfl (w.heap.size + 1) 1 rfl M2 _ HB1.out Tryd.underlying24 rfl HI2.out ?_)
      | (refine load_mid_g (by rfl) 24 (.tmp 11) rfl w.heap.size 33 rfl C1 _ HA2.out Tryd.underlying24 rfl HI3.out ?_)
      | (refine load_mid_g (by rfl) 24 (.tmp 13) rfl (w.heap.size + 1) 33 rfl C2 _ HB2.out Tryd.underlying24 rfl HI4.out ?_))
    go_ret
    exact ⟨rfl, HR.out.bel⟩
end Go.Proofs.YtpklboicgjpmeaaDoor.RB
