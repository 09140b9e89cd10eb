/- params: what is read of bytes is what was written; equal parameters; what came in. -/
import Derived.Test.YtabnmhmlcoakkaaPI
import Derived.ChangeOld
import Derived.ProofKit
import Derived.OpenShut
import Derived.Deep.Slices
import Derived.Laws.StructEq
set_option linter.unusedVariables false
set_option linter.unusedSimpArgs false
namespace Go.Proofs.Ytabnmhmlcoakkaa.PC
open Go.RowKit

theorem size_u64 (w : World) : (sizeOf 24).run Try.prog w = .ok 1 w := by kernel_rfl
theorem size_dg (w : World) : (sizeOf 23).run Try.prog w = .ok 32 w := by kernel_rfl
theorem size_r8 (w : World) : (sizeOf 36).run Try.prog w = .ok 8 w := by kernel_rfl
theorem eq_rp (w : World) (V : List UInt8) (n : Nat) (hV : V.length = 32) : (Op.equalIn 10000 26 (.agg (rpL V n).toArray) (.agg (rpL V n).toArray)).run Try.prog w = .ok true w := by
  have h32 : (rpL V n)[32]? = some (.int .u64 (n : Int)) := rpL_n V n hV
  have htk : List.take 32 (rpL V n) = V.map B8 := rpL_v V n hV
  have he : (Op.equalIn 9999 23 (.agg (V.map B8).toArray) (.agg (V.map B8).toArray)).run Try.prog w = .ok true w := by
    rw [show true = (V == V) by simp]
    exact run_equalIn_bytes (P := Try.prog) w 9997 23 5 32 Try.underlying23 Try.underlying5 size_u8 V V hV hV
  rw [run_equalIn_struct w 9999 _ _ _ (by kernel_rfl) (by kernel_rfl)]
  generalize rpL V n = PL at *
  go_simp
theorem eq_ints_self {P : Program} (w : World) (d : Nat) (t e : TypeId) (m : Nat) (q : IntKind) (ht : P.underlying t = some (.array m e)) (he : P.underlying e = some (.int q)) (hsz : ∀ w, (sizeOf e).run P w = .ok 1 w) (F : List Value) (hF : F.length = m)
    (hp : ∀ v ∈ F, ∃ z, v = .int q z) : (Op.equalIn (d + 3) t (.agg F.toArray) (.agg F.toArray)).run P w = .ok true w := by
  rw [Op.equalIn]
  simp only [Sem.run_bind, run_underlying ht, Result.andThen_ok, hsz, Std.Legacy.Range.forIn_eq_forIn_range', Std.Legacy.Range.size, Nat.sub_zero, Nat.add_sub_cancel, Nat.div_one]
  have hl : ∀ i ∈ List.range' 0 m 1, i < m := fun i hi => by simpa using (List.mem_range'_1.1 hi).2
  generalize List.range' 0 m 1 = l at hl ⊢
  induction l with
  | nil => simp
  | cons i l ih =>
    have hi : i < m := hl i (by simp)
    have hi' : i < F.length := by omega
    obtain ⟨z, hz⟩ := hp F[i] (List.getElem_mem hi')
    have px : (Go.part e F.toArray (i * 1)).run P w = .ok (.int q z) w := by
      simp [Go.part, isAgg, run_underlying he, List.getElem?_eq_getElem hi', hz]
    have pe : (Op.equalIn (d + 2) e (.int q z) (.int q z)).run P w = .ok true w := by
      rw [run_equalIn_int w (d + 1) e q q z z he]; simp
    simp only [List.forIn_cons, Sem.run_bind, px, pe, Result.andThen_ok]
    simp only [Bool.not_true, Bool.false_eq_true, if_false, Sem.run_pure, Result.andThen_ok, Bool.true_and]
    exact ih fun j hj => hl j (by simp [hj])
theorem rcL_rs (pc : Nat) (rs : List Nat) (r : Bool) (h : rs.length = 8) : List.take 8 (rcL pc rs r).tail = rs.map U8 := by
  unfold rcL; rw [List.tail_cons, List.take_append_of_le_length (by simp [h]), List.take_of_length_le (by simp [h])]
theorem eq_rc (w : World) (pc : Nat) (rs : List Nat) (r : Bool) (hr : rs.length = 8) : (Op.equalIn 10000 38 (.agg (rcL pc rs r).toArray) (.agg (rcL pc rs r).toArray)).run Try.prog w = .ok true w := by
  have h0 : (rcL pc rs r)[0]? = some (.int .u64 (pc : Int)) := rcL_pc pc rs r
  have htk := rcL_rs pc rs r hr
  have h9 : (rcL pc rs r)[9]? = some (.bool r) := rcL_b pc rs r hr
  have he : (Op.equalIn 9999 36 (.agg (rs.map U8).toArray) (.agg (rs.map U8).toArray)).run Try.prog w = .ok true w := eq_ints_self (P := Try.prog) w 9996 36 24 8 .u64 Try.underlying36 Try.underlying24 size_u64 (rs.map U8) (by simpa using hr) (fun v hv => by obtain ⟨x, _, rfl⟩ := List.mem_map.1 hv; exact ⟨_, rfl⟩)
  rw [run_equalIn_struct w 9999 _ _ _ (by kernel_rfl) (by kernel_rfl)]
  generalize rcL pc rs r = PL at *
  generalize rs.map U8 = RL at *
  go_simp
theorem gV_rb (V : List UInt8) (n : Nat) (hV : V.length = 32) : gV (rbL V n) = V := by
  unfold gV rbL pd rbP
  rw [List.append_assoc, List.append_assoc]
  show List.take 32 (V ++ _) = V
  rw [List.take_left' hV]
theorem gN_rb (V : List UInt8) (n : Nat) (hV : V.length = 32) (hn : n < 18446744073709551616) : gN (rbL V n) = n := by
  unfold gN rbL pd rbP
  rw [List.append_assoc _ (W1.le 8 n), List.drop_left' (by simp [hV]), List.take_left' (W1.le_length _ _), W1.num_le, Nat.mod_eq_of_lt (by simpa using hn)]
theorem isR_rb (V : List UInt8) (n : Nat) (hV : V.length = 32) (hn : n < 18446744073709551616) (hm : mayR n = true) : isR (rbL V n) = true := by
  unfold isR; rw [gV_rb V n hV, gN_rb V n hV hn, hm]; simp
theorem rRes_rb (V : List UInt8) (n : Nat) (hV : V.length = 32) (hn : n < 18446744073709551616) (hm : mayR n = true) : rRes (rbL V n) = rpL V n := by
  unfold rRes; rw [isR_rb V n hV hn hm, gV_rb V n hV, gN_rb V n hV hn]; rfl
theorem rErr_rb (V : List UInt8) (n : Nat) (hV : V.length = 32) (hn : n < 18446744073709551616) (hm : mayR n = true) : rErr (rbL V n) = 0 := by
  unfold rErr; rw [isR_rb V n hV hn hm]; rfl
theorem isC_rb (V : List UInt8) (n : Nat) : isC (rbL V n) = false := by
  cases h : isC (rbL V n) with
  | false => rfl
  | true => have := isC_2 h; rw [rbL_2] at this; cases this
theorem cErr_rb (V : List UInt8) (n : Nat) : cErr (rbL V n) = 4 := by unfold cErr; rw [isC_rb]; rfl
theorem kS_rb (V : List UInt8) (n : Nat) (hV : V.length = 32) (hn : n < 18446744073709551616) (hm : mayR n = true) : kS (rbL V n) = ⟨#[114, 101, 97, 108, 109]⟩ := by
  unfold kS; rw [isR_rb V n hV hn hm]; rfl
theorem cb_split (pc : Nat) (rs : List Nat) (r : Bool) (i : Nat) (hr : rs.length = 8) (h : i < 8) : ∃ Z, cbL pc rs r = cb0 pc rs i ++ (W1.le 8 (rs.getD i 0) ++ Z) := by
  have h8 : i < rs.length := by omega
  have hg : rs.getD i 0 = rs[i] := by simp [List.getD, List.getElem?_eq_getElem h8]
  have e : (rs.take 8) = rs.take i ++ (rs[i] :: rs.drop (i + 1)) := by
    rw [List.take_of_length_le (by omega), ← List.drop_eq_getElem_cons h8, List.take_append_drop]
  unfold cbL pd cbP cb0
  rw [e, List.flatMap_append, List.flatMap_cons, hg]
  simp only [List.append_assoc]
  exact ⟨_, rfl⟩
theorem gP_cb (pc : Nat) (rs : List Nat) (r : Bool) (hp : pc < 18446744073709551616) : gP (cbL pc rs r) = pc := by
  unfold gP cbL pd cbP cb0
  simp only [List.append_assoc]
  show W1.num (List.take 8 (W1.le 8 pc ++ _)) = pc
  rw [List.take_left' (W1.le_length _ _), W1.num_le, Nat.mod_eq_of_lt (by simpa using hp)]
theorem gS_cb (pc : Nat) (rs : List Nat) (r : Bool) (hr : rs.length = 8) (hrs : ∀ x ∈ rs, x < 18446744073709551616) : gS (cbL pc rs r) = rs := by
  apply List.ext_getElem
  · rw [gS_len, hr]
  · intro i h1 h2
    have h8 : i < 8 := by omega
    have hg : rs.getD i 0 = rs[i] := by simp [List.getD, List.getElem?_eq_getElem h2]
    obtain ⟨Z, hZ⟩ := cb_split pc rs r i hr h8
    have e : (gS (cbL pc rs r))[i]? = some rs[i] := by
      unfold gS
      rw [List.getElem?_map, List.getElem?_range h8, Option.map_some, hZ, List.drop_left' (cb0_len pc rs i (by omega)), List.take_left' (W1.le_length _ _), W1.num_le, hg, Nat.mod_eq_of_lt (by simpa using hrs _ (List.getElem_mem h2))]
    rw [List.getElem?_eq_getElem h1] at e
    exact Option.some.inj e
theorem cbL_80' (pc : Nat) (rs : List Nat) (r : Bool) (h : rs.length = 8) : (cbL pc rs r)[80]? = some (if r then 1 else 0) := by
  have h0 := cb0_len pc rs 8 (by omega)
  unfold cbL
  rw [pd_get _ _ (by rw [cbP_len _ _ _ h]; decide)]
  unfold cbP
  rw [List.getElem?_append_right (by omega), h0]
  rfl
theorem gB_cb (pc : Nat) (rs : List Nat) (r : Bool) (hr : rs.length = 8) : gB (cbL pc rs r) = r := by
  unfold gB
  rw [List.getD, cbL_80' pc rs r hr]
  cases r <;> rfl
theorem isC_cb (pc : Nat) (rs : List Nat) (r : Bool) (hr : rs.length = 8) (hp : pc < 18446744073709551616) (hrs : ∀ x ∈ rs, x < 18446744073709551616) (hm : mayC pc = true) : isC (cbL pc rs r) = true := by
  unfold isC; rw [gP_cb pc rs r hp, gS_cb pc rs r hr hrs, gB_cb pc rs r hr, hm]; simp
theorem cRes_cb (pc : Nat) (rs : List Nat) (r : Bool) (hr : rs.length = 8) (hp : pc < 18446744073709551616) (hrs : ∀ x ∈ rs, x < 18446744073709551616) (hm : mayC pc = true) : cRes (cbL pc rs r) = rcL pc rs r := by
  unfold cRes; rw [isC_cb pc rs r hr hp hrs hm, gP_cb pc rs r hp, gS_cb pc rs r hr hrs, gB_cb pc rs r hr]; rfl
theorem cErr_cb (pc : Nat) (rs : List Nat) (r : Bool) (hr : rs.length = 8) (hp : pc < 18446744073709551616) (hrs : ∀ x ∈ rs, x < 18446744073709551616) (hm : mayC pc = true) : cErr (cbL pc rs r) = 0 := by
  unfold cErr; rw [isC_cb pc rs r hr hp hrs hm]; rfl
theorem isR_cb (pc : Nat) (rs : List Nat) (r : Bool) : isR (cbL pc rs r) = false := by
  cases h : isR (cbL pc rs r) with
  | false => rfl
  | true => have := isR_2 h; rw [cbL_2] at this; cases this
theorem rErr_cb (pc : Nat) (rs : List Nat) (r : Bool) : rErr (cbL pc rs r) = 4 := by unfold rErr; rw [isR_cb]; rfl
theorem kS_cb (pc : Nat) (rs : List Nat) (r : Bool) (hr : rs.length = 8) (hp : pc < 18446744073709551616) (hrs : ∀ x ∈ rs, x < 18446744073709551616) (hm : mayC pc = true) : kS (cbL pc rs r) = ⟨#[114, 101, 99]⟩ := by
  unfold kS; rw [isR_cb, isC_cb pc rs r hr hp hrs hm]; rfl
section
open Go.ChangeShapes Go.WideShapes Go.ChangeAt
theorem okWide_str {W : World} {r : Reach} {b0 : Nat} {k : TypeId} {fs : Array Field} {v : Value} (hu : Try.prog.underlying k = some (.struct fs)) (h : Value.okWide Try.prog W r b0 k v) : ∃ xs : Array Value, v = .agg xs := by
  simp only [Value.okWide, hu] at h
  obtain ⟨cs, h1, _⟩ := h
  exact ⟨cs, h1⟩
variable {H : Type} {enc : TypeId × Value → H} {w : World} {base : Nat} {held : Bool}
theorem mapM_ints {P : Program} {e : TypeId} {q : IntKind} {sp : Nat → Bool} (he : P.underlying e = some (.int q)) {m : Nat} {cs : List Value} : ∀ (L : List Nat) (ys : List (DataW H × List MemPlace)),
    L.mapM (fun i => DataW.trod enc P w base sp held m e ((cs.drop (i * 1)).take 1)) = some ys → ∀ i ∈ L, ∃ z, (cs.drop (i * 1)).take 1 = [.int q z] ∧ (Lit.int q z).wf = true
  | [], ys, h => by simp
  | i :: L, ys, h => by
    rw [List.mapM_cons] at h
    simp only [bind, Option.bind_eq_some_iff, pure, Option.some.injEq] at h
    obtain ⟨y, hy, ys', hys, rfl⟩ := h
    obtain ⟨a, ea, _, wa⟩ := DataW.trod_int he hy
    intro j hj
    rcases List.mem_cons.1 hj with rfl | hj
    · exact ⟨a, ea, wa⟩
    · exact mapM_ints he L ys' hys j hj
/-- The cells of an array of numbers. -/
theorem open_arr {k e : TypeId} {q : IntKind} {n : Nat} {cs : List Value} {fuel : Nat} {x : DataW H × List MemPlace} {sp : Nat → Bool} (hu : Try.prog.underlying k = some (.array n e)) (he : Try.prog.underlying e = some (.int q)) (hk : Try.prog.cellsOf k = n) (h1 : Try.prog.cellsOf e = 1)
    (h : DataW.trod enc Try.prog w base sp held fuel k cs = some x) : cs.length = n ∧ ∀ v ∈ cs, ∃ z, v = .int q z ∧ (Lit.int q z).wf = true := by
  cases fuel with
  | zero => simp [DataW.trod] at h
  | succ m =>
    rw [DataW.trod_step] at h
    unfold DataW.trodStep at h
    simp only [hu] at h
    by_cases hl : cs.length = Try.prog.cellsOf k
    · rw [if_pos hl] at h
      simp only [Option.map_eq_some_iff, h1] at h
      obtain ⟨ys, hy, e1⟩ := h
      have := mapM_ints he _ ys hy
      refine ⟨by rw [hl, hk], fun v hv => ?_⟩
      obtain ⟨i, hi, rfl⟩ := List.getElem_of_mem hv
      obtain ⟨z, e, hw⟩ := this i (by rw [hl, hk] at hi; simpa using hi)
      rw [Nat.mul_one, List.drop_eq_getElem_cons hi, List.take_succ_cons, List.take_zero] at e
      exact ⟨z, (List.cons.inj e).1, hw⟩
    · rw [if_neg hl] at h; cases h
theorem cells_u8 (cs : List Value) (h : ∀ v ∈ cs, ∃ z, v = .int .u8 z ∧ (Lit.int .u8 z).wf = true) : ∃ bs : List UInt8, cs = bs.map B8 := by
  induction cs with
  | nil => exact ⟨[], rfl⟩
  | cons v l ih =>
    obtain ⟨bs, hb⟩ := ih (fun u hu => h u (List.mem_cons_of_mem _ hu))
    obtain ⟨z, rfl, hw⟩ := h v (by simp)
    have hb8 := bounds_u8 hw
    refine ⟨UInt8.ofNat z.toNat :: bs, ?_⟩
    rw [List.map_cons, ← hb]
    congr 1
    unfold B8
    congr 1
    simp; omega
theorem cells_u64 (cs : List Value) (h : ∀ v ∈ cs, ∃ z, v = .int .u64 z ∧ (Lit.int .u64 z).wf = true) : ∃ bs : List Nat, cs = bs.map U8 ∧ ∀ x ∈ bs, x < 18446744073709551616 := by
  induction cs with
  | nil => exact ⟨[], rfl, fun x hx => by simp at hx⟩
  | cons v l ih =>
    obtain ⟨bs, hb, hx⟩ := ih (fun u hu => h u (List.mem_cons_of_mem _ hu))
    obtain ⟨z, rfl, hw⟩ := h v (by simp)
    have hb8 := bounds_u64 hw
    refine ⟨z.toNat :: bs, ?_, fun x hy => ?_⟩
    · rw [List.map_cons, ← hb]
      congr 1
      unfold U8
      congr 1
      omega
    · rcases List.mem_cons.1 hy with rfl | hy
      · omega
      · exact hx x hy
theorem split_at {l : List Value} (k n : Nat) (h : l.length = k + n) : l = (l.drop 0).take k ++ (l.drop k).take n := by
  rw [List.drop_zero, List.take_of_length_le (l := l.drop k) (by simp [h]), List.take_append_drop]
/-- A realm's parameters that came in. -/
theorem open_rp {cs : List Value} {fuel : Nat} {x : DataW H × List MemPlace} (h : DataW.trod enc Try.prog w base (fun _ => true) held fuel 26 cs = some x) : ∃ V n, cs = rpL V n ∧ V.length = 32 ∧ n < 18446744073709551616 := by
  cases fuel with
  | zero => simp [DataW.trod] at h
  | succ m =>
    rw [DataW.trod_step] at h
    unfold DataW.trodStep at h
    simp only [Try.underlying26] at h
    have hcell : Try.prog.cellsOf 26 = 33 := by kernel_rfl
    have c0 : Try.prog.cellsOf 23 = 32 := by kernel_rfl
    have c1 : Try.prog.cellsOf 24 = 1 := by kernel_rfl
    by_cases hl : cs.length = Try.prog.cellsOf 26
    · rw [if_pos hl] at h
      simp only [Option.map_eq_some_iff, List.mapM_cons, List.mapM_nil, bind, Option.bind_eq_some_iff, pure, Option.some.injEq, c0, c1] at h
      obtain ⟨ys, ⟨y0, h0, z0, ⟨y1, h1, _⟩, _⟩, _⟩ := h
      obtain ⟨l0, p0⟩ := open_arr Try.underlying23 Try.underlying5 c0 (by kernel_rfl) h0
      obtain ⟨bs, hb⟩ := cells_u8 _ p0
      obtain ⟨k, e1, _, w1⟩ := DataW.trod_int Try.underlying24 h1
      have hk := bounds_u64 w1
      rw [hcell] at hl
      have hs := split_at 32 1 hl
      rw [hb] at hs l0
      rw [e1] at hs
      refine ⟨bs, k.toNat, ?_, by simpa using l0, by omega⟩
      rw [hs]
      unfold rpL
      rw [show ((k.toNat : Nat) : Int) = k by omega]
    · rw [if_neg hl] at h; cases h
/-- A vCPU's parameters that came in. -/
theorem open_rc {cs : List Value} {fuel : Nat} {x : DataW H × List MemPlace} (h : DataW.trod enc Try.prog w base (fun _ => true) held fuel 38 cs = some x) : ∃ pc rs r, cs = rcL pc rs r ∧ rs.length = 8 ∧ pc < 18446744073709551616 ∧ ∀ x ∈ rs, x < 18446744073709551616 := by
  cases fuel with
  | zero => simp [DataW.trod] at h
  | succ m =>
    rw [DataW.trod_step] at h
    unfold DataW.trodStep at h
    simp only [Try.underlying38] at h
    have hcell : Try.prog.cellsOf 38 = 10 := by kernel_rfl
    have c0 : Try.prog.cellsOf 24 = 1 := by kernel_rfl
    have c1 : Try.prog.cellsOf 36 = 8 := by kernel_rfl
    have c2 : Try.prog.cellsOf 4 = 1 := by kernel_rfl
    by_cases hl : cs.length = Try.prog.cellsOf 38
    · rw [if_pos hl] at h
      simp only [Option.map_eq_some_iff, List.mapM_cons, List.mapM_nil, bind, Option.bind_eq_some_iff, pure, Option.some.injEq, c0, c1, c2] at h
      obtain ⟨ys, ⟨y0, h0, z0, ⟨y1, h1, z1, ⟨y2, h2, _⟩, _⟩, _⟩, _⟩ := h
      obtain ⟨k, e0, _, w0⟩ := DataW.trod_int Try.underlying24 h0
      obtain ⟨l1, p1⟩ := open_arr Try.underlying36 Try.underlying24 c1 (by kernel_rfl) h1
      obtain ⟨bs, hb, hx⟩ := cells_u64 _ p1
      obtain ⟨r, e2, _⟩ := DataW.trod_bool Try.underlying4 h2
      have hk := bounds_u64 w0
      rw [hcell] at hl
      have hs := split_at 1 9 hl
      have hs2 := split_at (l := cs.drop 1) 8 1 (by simp [hl])
      rw [List.drop_zero, List.drop_drop] at hs2
      rw [List.take_of_length_le (l := cs.drop 1) (by simp [hl]), hs2] at hs
      rw [hb] at hs l1
      rw [e0, e2] at hs
      refine ⟨k.toNat, bs, r, ?_, by simpa using l1, by omega, hx⟩
      rw [hs]
      unfold rcL U8
      rw [show ((k.toNat : Nat) : Int) = k by omega]
      rfl
    · rw [if_neg hl] at h; cases h
end
end Go.Proofs.Ytabnmhmlcoakkaa.PC
