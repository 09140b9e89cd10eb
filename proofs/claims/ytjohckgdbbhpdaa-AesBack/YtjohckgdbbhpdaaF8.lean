/- Equal blocks and keys; the reference's Same. -/
import Derived.Test.YtjohckgdbbhpdaaD1
import Derived.Test.YtjohckgdbbhpdaaE7
import Derived.Test.YtjohckgdbbhpdaaJ7
import Derived.Stop.BytesEq
import Derived.Lib.LazyBuf
set_option linter.unusedVariables false
set_option linter.unusedSimpArgs false
namespace Go.Proofs.Ytjohckgdbbhpdaa
open Go.RowKit

theorem eql_16 (w : World) (xs ys : List UInt8) (hx : xs.length = 16) (hy : ys.length = 16) : (binOp .eql 26 (.agg (xs.map B8).toArray) (.agg (ys.map B8).toArray)).run Try.prog w = .ok (.bool (xs == ys)) w :=
  run_eql_bytes w 26 5 16 Try.underlying26 Try.underlying5 size_u8 xs ys hx hy
theorem size_16 (w : World) : (sizeOf 26).run Try.prog w = .ok 16 w := by
  have : (Try.prog.info? 26).map (·.size) = some 16 := by kernel_rfl
  cases hq : Try.prog.info? 26 with
  | none => rw [hq] at this; cases this
  | some i =>
    rw [hq] at this
    simp only [Option.map_some, Option.some.injEq] at this
    simp [sizeOf, typeInfo, hq, this]
theorem part_key (w : World) (F : List UInt8) (i : Nat) : (Go.part 26 (F.map B8).toArray (i * 16)).run Try.prog w = .ok (.agg ((keyA F i).map B8).toArray) w := by
  simp [Go.part, isAgg, run_underlying Try.underlying26, size_16]
  unfold keyA
  simp [List.map_take, List.map_drop, Nat.mul_comm]
theorem equalIn_16 (w : World) (d : Nat) (l : List UInt8) (hl : l.length = 16) : (Op.equalIn (d + 2) 26 (.agg (l.map B8).toArray) (.agg (l.map B8).toArray)).run Try.prog w = .ok true w := by
  have pe := run_equalIn_bytes (P := Try.prog) w d 26 5 16 Try.underlying26 Try.underlying5 size_u8 l l hl hl
  have e : (l == l) = true := by simp
  rw [e] at pe
  exact pe
theorem eq_rows_self {P : Program} (w : World) (d : Nat) (t e : TypeId) (n m : Nat) (ht : P.underlying t = some (.array n e)) (hsz : ∀ w, (sizeOf e).run P w = .ok m w) (F : Array Value)
    (hp : ∀ i, i < n → ∃ v, (Go.part e F (i * m)).run P w = .ok v w ∧ (Op.equalIn (d + 2) e v v).run P w = .ok true w) : (Op.equalIn (d + 3) t (.agg F) (.agg F)).run P w = .ok true w := by
  rw [Op.equalIn]
  simp only [Sem.run_bind, run_underlying ht, Result.andThen_ok, hsz, Std.Legacy.Range.forIn_eq_forIn_range', Std.Legacy.Range.size, Nat.sub_zero, Nat.add_sub_cancel, Nat.div_one]
  have hl : ∀ i ∈ List.range' 0 n 1, i < n := fun i hi => by simpa using (List.mem_range'_1.1 hi).2
  generalize List.range' 0 n 1 = l at hl ⊢
  induction l with
  | nil => simp
  | cons i l ih =>
    have hi : i < n := hl i (by simp)
    obtain ⟨v, px, pe⟩ := hp i hi
    simp only [List.forIn_cons, Sem.run_bind, px, pe, Result.andThen_ok]
    simp only [Bool.not_true, Bool.false_eq_true, if_false, Sem.run_pure, Result.andThen_ok, Bool.true_and]
    exact ih fun j hj => hl j (by simp [hj])
theorem eql_176 (w : World) (F : List UInt8) (hF : F.length = 176) : (binOp .eql 29 (.agg (F.map B8).toArray) (.agg (F.map B8).toArray)).run Try.prog w = .ok (.bool true) w := by
  rw [run_eql_struct, eq_rows_self w 9997 29 26 11 16 Try.underlying29 size_16 (F.map B8).toArray (fun i hi => ⟨_, part_key w F i, equalIn_16 w 9997 (keyA F i) (keyA_len F i hF hi)⟩)]
  rfl
theorem ret_bool {a b : Bool} (h : a = b) : Ending.returned (.bool a) = .returned (.bool b) := by rw [h]
theorem txt_list (l : List UInt8) : (txt l).toList = l := by
  rw [Lib.toList_data]; simp [txt]
theorem txt_beq (a b : List UInt8) : ((txt a).toList == (txt b).toList) = decide (a = b) := by
  rw [txt_list, txt_list, Bool.eq_iff_iff]; simp
set_option maxHeartbeats 400000 in
theorem same_any (u v : Value) (a b : List UInt8) (w : World) (hu : HB w u a) (hv : HB w v b) :
    Calls Try.prog 27 #[u, v] w fun e w' => e = .returned (.bool (decide (a = b))) ∧ w = w' := by
  have h1 := conv_hb w u a hu
  have h2 := conv_hb w v b hv
  go_enter Try.func27, Try.ntmps27
  go_wp2
  go_ret
  exact ⟨ret_bool (txt_beq a b), rfl⟩

end Go.Proofs.Ytjohckgdbbhpdaa
