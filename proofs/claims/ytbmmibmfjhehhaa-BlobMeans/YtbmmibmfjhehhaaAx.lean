/- Several texts in one. -/
import Derived.Test.YtbmmibmfjhehhaaProg
import Derived.WalkKit
import Derived.RowKit3
import Derived.Laws.BitsAllLaws
import Derived.WalkSmall
import Derived.Test.YtbmmibmfjhehhaaWh
import Derived.Laws.Tables
import Derived.Deep.MidRow
import Derived.Laws.CopyOwn
import Derived.Deep.RegionHeld3
import Derived.Deep.RegionWith
set_option linter.unusedVariables false
set_option linter.unusedSimpArgs false
/- Contracts of ref 4's Times, Inverse, rol, Sub, Unsub. -/
namespace Go.Proofs.Ytbmmibmfjhehhaa.AE
open Go.RowKit

theorem wrap_i64_7 (n : Int) (h0 : -9223372036854775808 ≤ n) (h1 : n ≤ 9223372036854775807) : IntKind.i64.wrap n = n := by rw [IntKind.wrap_i64]; omega
theorem i64_xor_nat (a b : Nat) (ha : a < 65536) (hb : b < 65536) : bits .xor .i64 (a : Int) (b : Int) = ((a ^^^ b : Nat) : Int) := by
  have hx : a ^^^ b < 2 ^ 16 := Nat.xor_lt_two_pow (by omega) (by omega)
  show IntKind.i64.wrap ((BitVec.ofInt 64 (a : Int) ^^^ BitVec.ofInt 64 (b : Int)).toNat : Int) = _
  rw [BitVec.toNat_xor, ofInt_u64 a (by omega), ofInt_u64 b (by omega), wrap_i64_7 _ (by omega) (by omega)]

/-- The product's first k parts; its rest. -/
def tpA (a b : Nat) : Nat → Nat
  | 0 => 0
  | k + 1 => if b / 2 ^ k % 2 = 1 then tpA a b k ^^^ (a * 2 ^ k) else tpA a b k
def rdA (n : Nat) : Nat → Nat
  | 0 => n
  | j + 1 => if rdA n j / 2 ^ (14 - j) % 2 = 1 then rdA n j ^^^ (283 * 2 ^ (6 - j)) else rdA n j
/-- The product of two bytes as polynomials. -/
def tmA (a b : UInt8) : UInt8 := UInt8.ofNat (rdA (tpA a.toNat b.toNat 8) 7 % 256)
theorem tpA_lt (a b : Nat) (ha : a < 256) : ∀ k, k ≤ 8 → tpA a b k < 32768
  | 0, _ => by show 0 < 32768; decide
  | k + 1, h => by
    have ih := tpA_lt a b ha k (by omega)
    unfold tpA
    split
    · have h2 : a * 2 ^ k < 2 ^ 15 := by
        have : 2 ^ k ≤ 2 ^ 7 := Nat.pow_le_pow_right (by decide) (by omega)
        have := Nat.mul_le_mul (show a ≤ 255 by omega) this
        omega
      exact Nat.xor_lt_two_pow (n := 15) (by omega) h2
    · exact ih
theorem rdA_lt (n : Nat) (hn : n < 32768) : ∀ j, j ≤ 7 → rdA n j < 32768
  | 0, _ => hn
  | j + 1, h => by
    have ih := rdA_lt n hn j (by omega)
    unfold rdA
    split
    · have h2 : 283 * 2 ^ (6 - j) < 2 ^ 15 := by
        have : 2 ^ (6 - j) ≤ 2 ^ 6 := Nat.pow_le_pow_right (by decide) (by omega)
        omega
      exact Nat.xor_lt_two_pow (n := 15) (by omega) h2
    · exact ih

/-- The inverse, by trying all from 256 less f on. -/
def invA (a : UInt8) : Nat → UInt8
  | 0 => 0
  | f + 1 => if tmA a (UInt8.ofNat (255 - f)) = 1 then UInt8.ofNat (255 - f) else invA a f
def inA (a : UInt8) : UInt8 := invA a 255

/-- Eight bits rotated left. -/
def rolA (a : UInt8) (n : Nat) : UInt8 := UInt8.ofNat ((a.toNat * 2 ^ n % 256) ||| (a.toNat / 2 ^ (8 - n)))
/-- What stands for a byte; and back, by trying all from 256 less f on. -/
def sbA (a : UInt8) : UInt8 := inA a ^^^ rolA (inA a) 1 ^^^ rolA (inA a) 2 ^^^ rolA (inA a) 3 ^^^ rolA (inA a) 4 ^^^ 99
def unsA (a : UInt8) : Nat → UInt8
  | 0 => 0
  | f + 1 => if sbA (UInt8.ofNat (255 - f)) = a then UInt8.ofNat (255 - f) else unsA a f
def unA (a : UInt8) : UInt8 := unsA a 256
theorem xor_u8' (x p : UInt8) : bits .xor .u8 (x.toNat : Int) (p.toNat : Int) = (((x ^^^ p).toNat : Nat) : Int) := by
  rw [u8_xor_nat _ _ (by have := x.toNat_lt; omega) (by have := p.toNat_lt; omega)]
  simp

end Go.Proofs.Ytbmmibmfjhehhaa.AE

/- Rows of bytes (as in sha's texts); contract of ref 4's Table. -/
namespace Go.Proofs.Ytbmmibmfjhehhaa.AE
open Go.RowKit

/-- A row of n bytes of which the first k are laid, the rest noughts. -/
def bpart (n : Nat) (T : List UInt8) (k : Nat) : List UInt8 := T.take k ++ List.replicate (n - k) 0
theorem bpart_all (n : Nat) (T : List UInt8) (hT : T.length = n) : bpart n T n = T := by unfold bpart; simp [← hT]
theorem bpart_len (n : Nat) (T : List UInt8) (k : Nat) (hT : T.length = n) (h : k ≤ n) : (bpart n T k).length = n := by unfold bpart; simp; omega
theorem bpart_set (n : Nat) (T : List UInt8) (k : Nat) (hT : T.length = n) (h : k < n) : ((bpart n T k).map B8).toArray.setIfInBounds k (B8 (T.getD k 0)) = ((bpart n T (k + 1)).map B8).toArray := by
  have hk : k < T.length := by omega
  have e : (bpart n T k).set k (T.getD k 0) = bpart n T (k + 1) := by
    unfold bpart
    rw [List.set_append_right _ _ (by simp; omega), List.take_succ_eq_append_getElem hk]
    simp only [List.length_take, Nat.min_eq_left (show k ≤ T.length by omega), Nat.sub_self]
    rw [show n - k = (n - (k + 1)) + 1 by omega, List.replicate_succ, List.set_cons_zero]
    rw [show T.getD k 0 = T[k] from by simp [List.getD, List.getElem?_eq_getElem hk]]
    simp only [List.append_assoc, List.singleton_append]
  rw [List.setIfInBounds_toArray, ← List.map_set, e]
theorem bpart_cell (n : Nat) (T : List UInt8) (k : Nat) (hT : T.length = n) (h : k < n) : ∃ u, ((bpart n T k).map B8).toArray[k]? = some u := by
  have hl : k < ((bpart n T k).map B8).toArray.size := by simp [bpart_len n T k hT (by omega)]; exact h
  exact ⟨_, Array.getElem?_eq_getElem hl⟩
theorem B8_onea (l : List UInt8) : (l.map B8).toArray.all (·.oneCell') = true := by
  rw [Array.all_eq_true_iff_forall_mem]
  intro v hv
  simp only [List.mem_toArray, List.mem_map] at hv
  obtain ⟨x, _, rfl⟩ := hv
  rfl
theorem below_blk {B i : Nat} {w w' : World} {o : Obj} (h : Below B w w') (hi : i < B) (ho : w.heap[i]? = some o) : w'.heap[i]? = some o := (h.block i hi).trans ho
theorem alloc2_first (w : World) (A C : Obj) : ((w.alloc A).alloc C).heap[w.heap.size]? = some A := by
  rw [Below.heap_alloc _ _ _ (by simp), heap_alloc_new]
theorem cell_far (w : World) (p a : Addr) (v : Value) (h : a.block ≠ p.block) : (w.setCell p v).cell? a = w.cell? a := by
  unfold World.cell?; rw [heap_setCell_other _ _ _ _ h]
theorem heap_at (w : World) (o : Obj) (n : Nat) (h : n = w.heap.size) : (w.alloc o).heap[n]? = some o := by subst h; exact heap_alloc_new _ _
theorem rangeAt_below {w w' : World} {b o : Nat} {cs : List Value} (h : w.rangeAt b o cs) (hb : Below w.heap.size w w') : w'.rangeAt b o cs := fun j v hv => (hb.cell (block_lt (h j v hv))).trans (h j v hv)
theorem rangeAt_row {w : World} {b : Nat} {cs : List Value} {t : TypeId} {fr : Nat × Nat} (h : w.heap[b]? = some (.cells cs.toArray t fr)) : w.rangeAt b 0 cs := fun j v hv => by
  rw [Nat.zero_add, cell_of_row _ _ j _ _ _ h]; simpa using hv
theorem rangeAt_setRow {w : World} {b o h : Nat} {cs : List Value} {ns : Array Value} (hr : w.rangeAt b o cs) (hne : b ≠ h) : (w.setRow h ns).rangeAt b o cs := fun j v hv => by
  rw [cell_setRow_other _ _ _ _ (by simpa using hne)]; exact hr j v hv
theorem heap_alloc_eq (w : World) (o : Obj) : (w.alloc o).heap = w.heap.push o := rfl
theorem h2a (w : World) (a b : Obj) : ((w.alloc a).alloc b).drew.heap[w.heap.size]? = some a := by
  rw [heap_drew, Below.heap_alloc _ _ _ (by simp)]; exact heap_alloc_new _ _
theorem h2b (w : World) (a b : Obj) : ((w.alloc a).alloc b).drew.heap[w.heap.size + 1]? = some b := by
  rw [heap_drew]; exact heap_at _ _ _ (by simp)
theorem h3a (w : World) (a b c : Obj) : (((w.alloc a).alloc b).alloc c).drew.heap[w.heap.size]? = some a := by
  rw [heap_drew, Below.heap_alloc _ _ _ (by simp; omega), Below.heap_alloc _ _ _ (by simp)]; exact heap_alloc_new _ _
theorem h3b (w : World) (a b c : Obj) : (((w.alloc a).alloc b).alloc c).drew.heap[w.heap.size + 1]? = some b := by
  rw [heap_drew, Below.heap_alloc _ _ _ (by simp)]; exact heap_at _ _ _ (by simp)
theorem h3c (w : World) (a b c : Obj) : (((w.alloc a).alloc b).alloc c).drew.heap[w.heap.size + 2]? = some c := by
  rw [heap_drew]; exact heap_at _ _ _ (by simp)
theorem row_lt {w : World} {d : Nat} {o : Obj} (h : w.heap[d]? = some o) : d < w.heap.size := (Array.getElem?_eq_some_iff.1 h).1
/-- A store over a row's cells, where the walk stands at it. -/
theorem upon_store {o : Oper} {a : Act} {K : Act → World → Prop} {Q : Exit → Act → World → Prop} {W : World} (g : Nat) (cs old : Array Value) (t : TypeId) (hg : W.heap[g]? = some (.cells old t (0, 0))) (hsz : old.size = cs.size) (h1 : cs.all (·.oneCell') = true)
    (h : ∀ W', Hid (W'.heap[g]? = some (.cells cs t (0, 0))) → Below g W W' → Oper.upon Try.prog o a K Q (.ok .skip W')) :
    Oper.upon Try.prog o a K Q (((storeCells ⟨g, 0, none⟩ cs.toList).run Try.prog W).andThen fun _ w' => .ok .skip w') := by
  have h1' : ∀ v ∈ cs.toList, v.oneCell' = true := fun v hv => by
    rw [Array.all_eq_true_iff_forall_mem] at h1
    exact h1 v (by simpa using hv)
  rw [run_storeCells_at Try.prog g 0 t cs.toList 0 old W hg (by simp; omega) h1']
  have e : (old.toList.take (0 + 0) ++ cs.toList ++ old.toList.drop (0 + 0 + cs.toList.length)).toArray = cs := by
    rw [← Array.toList_inj]
    simp [hsz]
  rw [e]
  exact h _ (setRow_heap _ _ _ _ _ _ hg) (below_setRow (Below.refl _ _) (Nat.le_refl _) _)
theorem size_u8 (w : World) : (sizeOf 5).run Try.prog w = .ok 1 w := by
  obtain ⟨i0, hi, hz0, hz1, hz2⟩ := info_parts Try.infoU8
  simp [sizeOf, typeInfo, hi, hz1]
theorem row_get (a : List UInt8) (n : Nat) (h : a.length = n) (i : Nat) (hi : i < n) : (a.map B8).toArray[i]? = some (.int .u8 ((a.getD i 0).toNat : Int)) := by
  have : i < a.length := by omega
  simp [B8, List.getD, List.getElem?_eq_getElem this]

/-- What stands for all bytes. -/
def tabA : List UInt8 := (List.range 256).map fun i => sbA (UInt8.ofNat i)
theorem tabA_len : tabA.length = 256 := by unfold tabA; simp
theorem tabA_get (i : Nat) (h : i < 256) : tabA.getD i 0 = sbA (UInt8.ofNat i) := by
  unfold tabA
  simp [List.getD, List.getElem?_map, List.getElem?_range h]

theorem zero256 (w : World) : (zeroValue 99).run Try.prog w = .ok (.agg ((List.replicate 256 (0 : UInt8)).map B8).toArray) w := by kernel_rfl

end Go.Proofs.Ytbmmibmfjhehhaa.AE

/- Contracts of aes.Times, aes.Inverse, bits.RotateLeft8, aes.Sub. -/
namespace Go.Proofs.Ytbmmibmfjhehhaa.AE
open Go.RowKit

/-- A byte times x. -/
def xtP (x : UInt8) : UInt8 := UInt8.ofNat ((x.toNat * 2 % 256) ^^^ (x.toNat / 128 * 27 % 256))
def pwP (a : UInt8) : Nat → UInt8
  | 0 => a
  | k + 1 => xtP (pwP a k)
/-- The sum of the first k parts. -/
def smP (a b : UInt8) : Nat → UInt8
  | 0 => 0
  | k + 1 => smP a b k ^^^ (if b.toNat / 2 ^ k % 2 = 1 then pwP a k else 0)
/-- The product, as aes.Times makes it. -/
def tmP (a b : UInt8) : UInt8 := smP a b 8
theorem smP_end (a b : UInt8) (k : Nat) (hk : k ≤ 8) (h0 : b.toNat / 2 ^ k = 0) : smP a b k = tmP a b := by
  have key : ∀ d, smP a b (k + d) = smP a b k := by
    intro d
    induction d with
    | zero => rfl
    | succ d ih =>
      show smP a b (k + d) ^^^ _ = _
      have hz : b.toNat / 2 ^ (k + d) = 0 := by rw [Nat.pow_add, ← Nat.div_div_eq_div_mul, h0, Nat.zero_div]
      rw [show k.add d = k + d from rfl, hz, ih]
      simp
  have := key (8 - k)
  rw [show k + (8 - k) = 8 by omega] at this
  exact this.symm

set_option maxHeartbeats 2000000 in
theorem ptimes_any (a b : UInt8) (w : World) : Calls Try.prog 68 #[.int .u8 (a.toNat : Int), .int .u8 (b.toNat : Int)] w fun e w' => e = .returned (.int .u8 ((tmP a b).toNat : Int)) ∧ w = w' := by
  have hb := b.toNat_lt
  have HE : Hid (∀ k, k ≤ 8 → b.toNat / 2 ^ k = 0 → smP a b k = tmP a b) := fun k h1 h2 => smP_end a b k h1 h2
  have HS : Hid (∀ k, smP a b (k + 1) = smP a b k ^^^ (if b.toNat / 2 ^ k % 2 = 1 then pwP a k else 0)) := fun _ => rfl
  have HP : Hid (∀ k, pwP a (k + 1) = xtP (pwP a k)) := fun _ => rfl
  have HS0 : Hid (smP a b 0 = 0) := rfl
  have HP0 : Hid (pwP a 0 = a) := rfl
  have HQ8 : Hid (∀ k, k ≤ 8 → b.toNat / 2 ^ k ≠ 0 → k < 8) := fun k hk h => by
    rcases Nat.lt_or_ge k 8 with h8 | h8
    · exact h8
    · exfalso; apply h; rw [show k = 8 by omega]; omega
  generalize tmP a b = R at *
  generalize smP a b = S at *
  generalize pwP a = P at *
  obtain ⟨Q, hQ⟩ : ∃ Q : Nat → Nat, Q = fun k => b.toNat / 2 ^ k := ⟨_, rfl⟩
  have HQS : Hid (∀ k, Q (k + 1) = Q k / 2) := fun k => by rw [hQ]; show _ / 2 ^ (k + 1) = _ / 2 ^ k / 2; rw [Nat.pow_succ, Nat.div_div_eq_div_mul]
  have HQ0 : Hid (Q 0 = b.toNat) := by show _ = _; rw [hQ]; show _ / 2 ^ 0 = _; simp
  have HQL : Hid (∀ k, Q k < 256) := fun k => by rw [hQ]; exact Nat.lt_of_le_of_lt (Nat.div_le_self _ _) hb
  have HE' : Hid (∀ k, k ≤ 8 → Q k = 0 → S k = R) := by rw [hQ]; exact HE.out
  have HS' : Hid (∀ k, S (k + 1) = S k ^^^ (if Q k % 2 = 1 then P k else 0)) := by rw [hQ]; exact HS.out
  have HQ8' : Hid (∀ k, k ≤ 8 → Q k ≠ 0 → k < 8) := by rw [hQ]; exact HQ8.out
  clear HE HS HQ8 hQ
  go_enter Try.func68, Try.ntmps68
  go_wp2
  go_loopw [5, 0, 1] (fun o x y wr => ∃ k : Nat, k ≤ 8 ∧ o = .int .u8 ((S k).toNat : Int) ∧ x = .int .u8 ((P k).toNat : Int) ∧ y = .int .u8 (Q k : Int) ∧ w = wr) (fun _ _ y _ => (intOf y).toNat)
  case atStart => exact ⟨0, by omega, by rw [HS0.out]; rfl, by rw [HP0.out], by rw [HQ0.out], rfl⟩
  case round =>
    obtain ⟨k, hk, rfl, rfl, rfl, rfl⟩ := hrel
    have hql := HQL.out k
    by_cases h0 : Q k = 0
    · have he := HE'.out k hk h0
      rw [h0, he]
      clear h0 he hql
      go_wp2
      go_ret
      exact ⟨rfl, rfl⟩
    · have hk8 := HQ8'.out k hk h0
      have hs := HS'.out k
      have hp := HP.out k
      have hqs := HQS.out k
      obtain ⟨q, hq⟩ : ∃ q, q = Q k % 2 := ⟨_, rfl⟩
      have ha1 : bits .and .u8 (Q k : Int) 1 = (q : Int) := by
        have := u8_and_nat (Q k) 1 (by omega) (by omega)
        rw [show ((1 : Nat) : Int) = 1 from rfl] at this
        rw [this, hq, Nat.and_one_is_mod]
      obtain ⟨c, hc⟩ : ∃ c : UInt8, c = if q = 1 then P k else 0 := ⟨_, rfl⟩
      have hpl := (P k).toNat_lt
      have hm : ((q : Int) * ((P k).toNat : Int)) % 256 = (c.toNat : Int) := by
        rw [hc]
        by_cases h1 : q = 1
        · rw [if_pos h1, h1]; omega
        · have : q = 0 := by omega
          rw [if_neg h1, this]; simp
      have hx := xor_u8' (S k) c
      rw [← hq, ← hc] at hs
      rw [← hs] at hx
      have hd : ((Q k : Int) / 2) = ((Q (k + 1) : Nat) : Int) := by rw [hqs]; omega
      have hx2 := u8_xor_nat ((P k).toNat * 2 % 256) ((P k).toNat / 128 * 27 % 256) (by omega) (by omega)
      have hxt : ((P (k + 1)).toNat : Int) = ((((P k).toNat * 2 % 256) ^^^ ((P k).toNat / 128 * 27 % 256) : Nat) : Int) := by
        rw [hp]; unfold xtP
        have : ((P k).toNat * 2 % 256) ^^^ ((P k).toNat / 128 * 27 % 256) < 2 ^ 8 := Nat.xor_lt_two_pow (by omega) (by omega)
        show ((_ % 256 : Nat) : Int) = _
        omega
      rw [← hxt] at hx2
      have e1 : (((P k).toNat * 2 % 256 : Nat) : Int) = ((P k).toNat : Int) * 2 % 256 := by omega
      have e2 : (((P k).toNat / 128 * 27 % 256 : Nat) : Int) = ((P k).toNat : Int) / 128 * 27 := by omega
      rw [e1, e2] at hx2
      have hql1 := HQL.out (k + 1)
      have hlt : Q (k + 1) < Q k := by rw [hqs]; omega
      have hpos : (0 : Int) < (Q k : Int) := by omega
      clear hxt hs hp hqs hq hc e1 e2 h0
      go_wp2
      go_roundw
      case rel => exact ⟨k + 1, by omega, rfl, rfl, rfl, trivial⟩
      case measure => simp [intOf]; omega

/-- The squares of a byte; the product of k of them. -/
def sqP (a : UInt8) : Nat → UInt8
  | 0 => a
  | k + 1 => tmP (sqP a k) (sqP a k)
def ivQ (a : UInt8) : Nat → UInt8
  | 0 => 1
  | k + 1 => tmP (ivQ a k) (sqP a (k + 1))
/-- The inverse, as aes.Inverse makes it. -/
def ivP (a : UInt8) : UInt8 := ivQ a 7

set_option maxHeartbeats 2000000 in
theorem pinverse_any (a : UInt8) (w : World) : Calls Try.prog 81 #[.int .u8 (a.toNat : Int)] w fun e w' => e = .returned (.int .u8 ((ivP a).toNat : Int)) ∧ w = w' := by
  have HV0 : Hid (ivQ a 0 = 1) := rfl
  have HS0 : Hid (sqP a 0 = a) := rfl
  have HVS : Hid (∀ k, ivQ a (k + 1) = tmP (ivQ a k) (sqP a (k + 1))) := fun _ => rfl
  have HSS : Hid (∀ k, sqP a (k + 1) = tmP (sqP a k) (sqP a k)) := fun _ => rfl
  have HR : Hid (ivP a = ivQ a 7) := rfl
  generalize ivP a = R at *
  generalize ivQ a = V at *
  generalize sqP a = S at *
  go_enter Try.func81, Try.ntmps81
  go_wp2
  go_loopw [0, 3, 4] (fun x o i wr => ∃ k : Nat, k ≤ 7 ∧ x = .int .u8 ((S k).toNat : Int) ∧ o = .int .u8 ((V k).toNat : Int) ∧ i = .int .i64 k ∧ w = wr) (fun _ _ i _ => 7 - (intOf i).toNat)
  case atStart => exact ⟨0, by omega, by rw [HS0.out], by rw [HV0.out]; rfl, rfl, rfl⟩
  case round =>
    obtain ⟨k, hk, rfl, rfl, rfl, rfl⟩ := hrel
    by_cases hlt : k < 7
    · have hkI : (k : Int) < 7 := by omega
      have h1 := ptimes_any (S k) (S k) w
      rw [← HSS.out k] at h1
      have h2 := ptimes_any (V k) (S (k + 1)) w
      rw [← HVS.out k] at h2
      go_wp2_with fail
      refine h1.mono ?_
      rintro e wx ⟨rfl, rfl⟩
      go_wp2_with fail
      refine h2.mono ?_
      rintro e wx ⟨rfl, rfl⟩
      clear h1 h2
      go_wp2
      go_roundw
      case rel => exact ⟨k + 1, by omega, rfl, rfl, by go_num, trivial⟩
      case measure => simp [intOf]; omega
    · have hk7 : k = 7 := by omega
      have hkI : ¬ (k : Int) < 7 := by omega
      have hr : V k = R := by rw [hk7, HR.out]
      rw [hr]
      clear hr hk7
      go_wp2
      go_ret
      exact ⟨rfl, rfl⟩

theorem protate_any (a : UInt8) (n : Nat) (hn : n ≤ 7) (w : World) : Calls Try.prog 82 #[.int .u8 (a.toNat : Int), .int .i64 (n : Int)] w fun e w' => e = .returned (.int .u8 ((rolA a n).toNat : Int)) ∧ w = w' := by
  have ha := a.toNat_lt
  have hq : a.toNat / 2 ^ (8 - n) < 256 := Nat.lt_of_le_of_lt (Nat.div_le_self _ _) ha
  have ho := u8_or_nat (a.toNat * 2 ^ n % 256) (a.toNat / 2 ^ (8 - n)) (by omega) hq
  have hr : ((rolA a n).toNat : Int) = (((a.toNat * 2 ^ n % 256) ||| (a.toNat / 2 ^ (8 - n)) : Nat) : Int) := by
    have h8 : (a.toNat * 2 ^ n % 256) ||| (a.toNat / 2 ^ (8 - n)) < 2 ^ 8 := Nat.or_lt_two_pow (by omega) (by omega)
    unfold rolA
    show ((_ % 256 : Nat) : Int) = _
    omega
  obtain ⟨e, he⟩ : ∃ e, e = 8 - n := ⟨_, rfl⟩
  have heI : (8 : Int) - (n : Int) = (e : Int) := by omega
  have hwe : IntKind.u64.wrap ((8 : Int) - (n : Int)) = (e : Int) := by rw [heI, IntKind.wrap_u64]; omega
  have h1 : ((a.toNat * 2 ^ n % 256 : Nat) : Int) = (a.toNat : Int) * 2 ^ n % 256 := by simp
  have h2 : ((a.toNat / 2 ^ (8 - n) : Nat) : Int) = (a.toNat : Int) / 2 ^ e := by rw [← he]; simp
  rw [h1, h2, ← hr] at ho
  have he8 : e ≤ 8 := by omega
  have hand : bits .and .u64 (n : Int) 7 = (n : Int) := by
    have := u64_and_nat n 7 (by omega) (by omega)
    rw [show ((7 : Nat) : Int) = 7 from rfl] at this
    rw [this]
    congr 1
    rw [show 7 = 2 ^ 3 - 1 from rfl, Nat.and_two_pow_sub_one_eq_mod]
    omega
  clear hr h1 h2 hq he heI
  generalize rolA a n = R at *
  go_enter Try.func82, Try.ntmps82
  go_wp2
  go_ret
  exact ⟨rfl, rfl⟩

/-- What stands for a byte, as far as k. -/
def soP (y : UInt8) : Nat → UInt8
  | 0 => y ^^^ 99
  | k + 1 => soP y k ^^^ rolA y (k + 1)
def sbP (a : UInt8) : UInt8 := soP (ivP a) 4

set_option maxHeartbeats 2000000 in
theorem psub_any (a : UInt8) (w : World) : Calls Try.prog 67 #[.int .u8 (a.toNat : Int)] w fun e w' => e = .returned (.int .u8 ((sbP a).toNat : Int)) ∧ w = w' := by
  have hi := pinverse_any a w
  have HR : Hid (sbP a = soP (ivP a) 4) := rfl
  generalize ivP a = y at *
  have HS0 : Hid (soP y 0 = y ^^^ 99) := rfl
  have HSS : Hid (∀ k, soP y (k + 1) = soP y k ^^^ rolA y (k + 1)) := fun _ => rfl
  generalize sbP a = R at *
  generalize soP y = S at *
  have h99 := xor_u8' y 99
  rw [show (((99 : UInt8).toNat : Nat) : Int) = 99 from rfl] at h99
  go_enter Try.func67, Try.ntmps67
  go_wp2_with fail
  refine hi.mono ?_
  rintro e wx ⟨rfl, rfl⟩
  clear hi
  go_wp2
  go_loopw [4, 10] (fun o i wr => ∃ k : Nat, k ≤ 4 ∧ o = .int .u8 ((S k).toNat : Int) ∧ i = .int .i64 k ∧ w = wr) (fun _ i _ => 4 - (intOf i).toNat)
  case atStart => exact ⟨0, by omega, by rw [HS0.out, UInt8.toNat_xor]; rfl, rfl, rfl⟩
  case round =>
    obtain ⟨k, hk, rfl, rfl, rfl⟩ := hrel
    by_cases hlt : k < 4
    · have hkI : (k : Int) < 4 := by omega
      have h1 := protate_any y (k + 1) (by omega) w
      rw [show ((k + 1 : Nat) : Int) = (k : Int) + 1 from rfl] at h1
      have hx := xor_u8' (S k) (rolA y (k + 1))
      rw [← HSS.out k] at hx
      generalize rolA y (k + 1) = r at *
      go_wp2_with fail
      refine h1.mono ?_
      rintro e wx ⟨rfl, rfl⟩
      clear h1
      go_wp2
      go_roundw
      case rel => exact ⟨k + 1, by omega, rfl, by go_num, trivial⟩
      case measure => simp [intOf]; omega
    · have hk4 : k = 4 := by omega
      have hkI : ¬ (k : Int) < 4 := by omega
      have hr : S k = R := by rw [hk4, HR.out]
      rw [hr]
      clear hr hk4
      go_wp2
      go_ret
      exact ⟨rfl, rfl⟩

end Go.Proofs.Ytbmmibmfjhehhaa.AE

/- The field of bytes: mathematics only. -/
namespace Go.Proofs.Ytbmmibmfjhehhaa.AE
open Go.RowKit

theorem bit_xor (x y k : Nat) : (x ^^^ y) / 2 ^ k % 2 = (x / 2 ^ k % 2 + y / 2 ^ k % 2) % 2 := by
  have h := Nat.testBit_xor x y k
  simp only [Nat.testBit_eq_decide_div_mod_eq] at h
  have h1 : x / 2 ^ k % 2 < 2 := Nat.mod_lt _ (by decide)
  have h2 : y / 2 ^ k % 2 < 2 := Nat.mod_lt _ (by decide)
  have h3 : (x ^^^ y) / 2 ^ k % 2 < 2 := Nat.mod_lt _ (by decide)
  generalize x / 2 ^ k % 2 = p at *
  generalize y / 2 ^ k % 2 = q at *
  generalize (x ^^^ y) / 2 ^ k % 2 = r at *
  obtain rfl | rfl : p = 0 ∨ p = 1 := by omega
  all_goals
    obtain rfl | rfl : q = 0 ∨ q = 1 := by omega
    all_goals
      obtain rfl | rfl : r = 0 ∨ r = 1 := by omega
      all_goals first | rfl | (exfalso; revert h; decide)
theorem x8_comm (a b : UInt8) : a ^^^ b = b ^^^ a := UInt8.xor_comm a b
theorem x8_assoc (a b c : UInt8) : a ^^^ b ^^^ c = a ^^^ (b ^^^ c) := UInt8.xor_assoc a b c
theorem x8_self (a : UInt8) : a ^^^ a = 0 := UInt8.xor_self
theorem x8_zero (a : UInt8) : a ^^^ 0 = a := UInt8.xor_zero
theorem x8_mid (a b c d : UInt8) : (a ^^^ b) ^^^ (c ^^^ d) = (a ^^^ c) ^^^ (b ^^^ d) := by
  rw [x8_assoc, x8_assoc, ← x8_assoc b c d, x8_comm b c, x8_assoc c b d]

theorem all8 (p : UInt8 → Prop) (h : ∀ i : Fin 256, p (UInt8.ofNat i.val)) (x : UInt8) : p x := by
  have := h ⟨x.toNat, x.toNat_lt⟩
  simpa using this

theorem xtP_nat (x : UInt8) : (xtP x).toNat = (x.toNat * 2 % 256) ^^^ (x.toNat / 128 * 27) := by
  have hl := x.toNat_lt
  have h2 : x.toNat / 128 * 27 % 256 = x.toNat / 128 * 27 := by omega
  have : (x.toNat * 2 % 256) ^^^ (x.toNat / 128 * 27 % 256) < 2 ^ 8 := Nat.xor_lt_two_pow (by omega) (by omega)
  unfold xtP
  show _ % 256 = _
  rw [h2] at *
  omega
theorem xtP_xor (x y : UInt8) : xtP (x ^^^ y) = xtP x ^^^ xtP y := by
  apply UInt8.toNat_inj.1
  rw [UInt8.toNat_xor, xtP_nat, xtP_nat, xtP_nat, UInt8.toNat_xor]
  have hx := x.toNat_lt
  have hy := y.toNat_lt
  generalize x.toNat = a at *
  generalize y.toNat = b at *
  have e1 : (a ^^^ b) * 2 % 256 = (a * 2 % 256) ^^^ (b * 2 % 256) := by
    have h : (a ^^^ b) <<< 1 = a <<< 1 ^^^ b <<< 1 := Nat.shiftLeft_xor_distrib ..
    simp only [Nat.shiftLeft_eq] at h
    rw [show (2 : Nat) ^ 1 = 2 from rfl] at h
    rw [h, show (256 : Nat) = 2 ^ 8 from rfl, Nat.xor_mod_two_pow]
  have e2 : (a ^^^ b) / 128 * 27 = (a / 128 * 27) ^^^ (b / 128 * 27) := by
    have h : (a ^^^ b) >>> 7 = a >>> 7 ^^^ b >>> 7 := Nat.shiftRight_xor_distrib ..
    simp only [Nat.shiftRight_eq_div_pow] at h
    rw [show (2 : Nat) ^ 7 = 128 from rfl] at h
    rw [h]
    have ha : a / 128 < 2 := by omega
    have hb : b / 128 < 2 := by omega
    generalize a / 128 = p at *
    generalize b / 128 = q at *
    obtain rfl | rfl : p = 0 ∨ p = 1 := by omega
    all_goals
      obtain rfl | rfl : q = 0 ∨ q = 1 := by omega
      all_goals rfl
  rw [e1, e2]
  generalize a * 2 % 256 = c1
  generalize b * 2 % 256 = c2
  generalize a / 128 * 27 = c3
  generalize b / 128 * 27 = c4
  rw [Nat.xor_assoc, ← Nat.xor_assoc c2, Nat.xor_comm c2 c3, Nat.xor_assoc c3, ← Nat.xor_assoc c1]
theorem pwP_xor (x y : UInt8) (k : Nat) : pwP (x ^^^ y) k = pwP x k ^^^ pwP y k := by
  induction k with
  | zero => rfl
  | succ k ih => show xtP (pwP (x ^^^ y) k) = xtP (pwP x k) ^^^ xtP (pwP y k); rw [ih, xtP_xor]
theorem smP_xorl (x y b : UInt8) (k : Nat) : smP (x ^^^ y) b k = smP x b k ^^^ smP y b k := by
  induction k with
  | zero => show (0 : UInt8) = 0 ^^^ 0; decide
  | succ k ih =>
    show smP (x ^^^ y) b k ^^^ _ = (smP x b k ^^^ _) ^^^ (smP y b k ^^^ _)
    rw [ih, pwP_xor, x8_mid]
    congr 1
    by_cases h : b.toNat / 2 ^ k % 2 = 1
    · simp only [if_pos h]
    · simp only [if_neg h]; rfl
theorem smP_xorr (a x y : UInt8) (k : Nat) : smP a (x ^^^ y) k = smP a x k ^^^ smP a y k := by
  induction k with
  | zero => show (0 : UInt8) = 0 ^^^ 0; decide
  | succ k ih =>
    show smP a (x ^^^ y) k ^^^ _ = (smP a x k ^^^ _) ^^^ (smP a y k ^^^ _)
    rw [ih, x8_mid]
    congr 1
    rw [UInt8.toNat_xor, bit_xor]
    have h1 : x.toNat / 2 ^ k % 2 < 2 := Nat.mod_lt _ (by decide)
    have h2 : y.toNat / 2 ^ k % 2 < 2 := Nat.mod_lt _ (by decide)
    generalize x.toNat / 2 ^ k % 2 = p at *
    generalize y.toNat / 2 ^ k % 2 = q at *
    obtain rfl | rfl : p = 0 ∨ p = 1 := by omega
    all_goals
      obtain rfl | rfl : q = 0 ∨ q = 1 := by omega
      all_goals simp
theorem tmP_xorl (x y b : UInt8) : tmP (x ^^^ y) b = tmP x b ^^^ tmP y b := smP_xorl x y b 8
theorem tmP_xorr (a x y : UInt8) : tmP a (x ^^^ y) = tmP a x ^^^ tmP a y := smP_xorr a x y 8

/-- The byte with bit i alone. -/
def bs8 (i : Nat) : UInt8 := UInt8.ofNat (2 ^ i)
theorem lin_zero (f : UInt8 → UInt8) (hf : ∀ x y, f (x ^^^ y) = f x ^^^ f y) : f 0 = 0 := by
  have := hf 0 0
  rw [x8_self, x8_self] at this
  exact this
theorem bits8 (x : UInt8) : x = (x &&& 1) ^^^ (x &&& 2) ^^^ (x &&& 4) ^^^ (x &&& 8) ^^^ (x &&& 16) ^^^ (x &&& 32) ^^^ (x &&& 64) ^^^ (x &&& 128) :=
  all8 (fun x => x = (x &&& 1) ^^^ (x &&& 2) ^^^ (x &&& 4) ^^^ (x &&& 8) ^^^ (x &&& 16) ^^^ (x &&& 32) ^^^ (x &&& 64) ^^^ (x &&& 128)) (by decide +kernel) x
theorem bit8 (x : UInt8) : (x &&& 1 = 0 ∨ x &&& 1 = bs8 0) ∧ (x &&& 2 = 0 ∨ x &&& 2 = bs8 1) ∧ (x &&& 4 = 0 ∨ x &&& 4 = bs8 2) ∧ (x &&& 8 = 0 ∨ x &&& 8 = bs8 3) ∧ (x &&& 16 = 0 ∨ x &&& 16 = bs8 4) ∧ (x &&& 32 = 0 ∨ x &&& 32 = bs8 5) ∧ (x &&& 64 = 0 ∨ x &&& 64 = bs8 6) ∧ (x &&& 128 = 0 ∨ x &&& 128 = bs8 7) :=
  all8 (fun x => (x &&& 1 = 0 ∨ x &&& 1 = bs8 0) ∧ (x &&& 2 = 0 ∨ x &&& 2 = bs8 1) ∧ (x &&& 4 = 0 ∨ x &&& 4 = bs8 2) ∧ (x &&& 8 = 0 ∨ x &&& 8 = bs8 3) ∧ (x &&& 16 = 0 ∨ x &&& 16 = bs8 4) ∧ (x &&& 32 = 0 ∨ x &&& 32 = bs8 5) ∧ (x &&& 64 = 0 ∨ x &&& 64 = bs8 6) ∧ (x &&& 128 = 0 ∨ x &&& 128 = bs8 7)) (by decide +kernel) x
/-- Two functions that keep sums are the same if they are so at the eight bits. -/
theorem lin_ext (f g : UInt8 → UInt8) (hf : ∀ x y, f (x ^^^ y) = f x ^^^ f y) (hg : ∀ x y, g (x ^^^ y) = g x ^^^ g y) (h : ∀ i : Fin 8, f (bs8 i.val) = g (bs8 i.val)) (x : UInt8) : f x = g x := by
  have h0 : f 0 = g 0 := by rw [lin_zero f hf, lin_zero g hg]
  have key : ∀ y (i : Fin 8), y = 0 ∨ y = bs8 i.val → f y = g y := by
    intro y i hy
    rcases hy with rfl | rfl
    · exact h0
    · exact h i
  obtain ⟨b0, b1, b2, b3, b4, b5, b6, b7⟩ := bit8 x
  rw [bits8 x]
  simp only [hf, hg]
  rw [key _ 0 b0, key _ 1 b1, key _ 2 b2, key _ 3 b3, key _ 4 b4, key _ 5 b5, key _ 6 b6, key _ 7 b7]

theorem tmP_comm (a b : UInt8) : tmP a b = tmP b a := by
  have D : ∀ i j : Fin 8, tmP (bs8 i.val) (bs8 j.val) = tmP (bs8 j.val) (bs8 i.val) := by decide +kernel
  refine lin_ext (fun a => tmP a b) (fun a => tmP b a) (fun x y => tmP_xorl x y b) (fun x y => tmP_xorr b x y) (fun i => ?_) a
  exact lin_ext (fun b => tmP (bs8 i.val) b) (fun b => tmP b (bs8 i.val)) (fun x y => tmP_xorr _ x y) (fun x y => tmP_xorl x y _) (fun j => D i j) b
theorem tmP_assoc (a b c : UInt8) : tmP (tmP a b) c = tmP a (tmP b c) := by
  have D : ∀ i j k : Fin 8, tmP (tmP (bs8 i.val) (bs8 j.val)) (bs8 k.val) = tmP (bs8 i.val) (tmP (bs8 j.val) (bs8 k.val)) := by decide +kernel
  refine lin_ext (fun a => tmP (tmP a b) c) (fun a => tmP a (tmP b c)) (fun x y => by show tmP (tmP (x ^^^ y) b) c = _; rw [tmP_xorl, tmP_xorl]) (fun x y => tmP_xorl x y _) (fun i => ?_) a
  refine lin_ext (fun b => tmP (tmP (bs8 i.val) b) c) (fun b => tmP (bs8 i.val) (tmP b c)) (fun x y => by show tmP (tmP (bs8 i.val) (x ^^^ y)) c = _; rw [tmP_xorr, tmP_xorl]) (fun x y => by show tmP (bs8 i.val) (tmP (x ^^^ y) c) = _; rw [tmP_xorl, tmP_xorr]) (fun j => ?_) b
  exact lin_ext (fun c => tmP (tmP (bs8 i.val) (bs8 j.val)) c) (fun c => tmP (bs8 i.val) (tmP (bs8 j.val) c)) (fun x y => tmP_xorr _ x y) (fun x y => by show tmP (bs8 i.val) (tmP (bs8 j.val) (x ^^^ y)) = _; rw [tmP_xorr, tmP_xorr]) (fun k => D i j k) c
theorem tmP_one (a : UInt8) : tmP a 1 = a := all8 (fun a => tmP a 1 = a) (by decide +kernel) a
theorem ivP_times (a : UInt8) (h : a ≠ 0) : tmP a (ivP a) = 1 :=
  all8 (fun a => a ≠ 0 → tmP a (ivP a) = 1) (by decide +kernel) a h
theorem ivP_zero : ivP 0 = 0 := by decide +kernel
theorem tmP_zero (b : UInt8) : tmP 0 b = 0 := lin_zero (fun a => tmP a b) (fun x y => tmP_xorl x y b)
theorem ivP_only (a b : UInt8) (h : tmP a b = 1) : b = ivP a := by
  have h0 : a ≠ 0 := fun e => by rw [e, tmP_zero] at h; exact absurd h (by decide)
  have e1 : tmP b (tmP a (ivP a)) = b := by rw [ivP_times a h0, tmP_one]
  have e2 : tmP (tmP b a) (ivP a) = ivP a := by rw [tmP_comm b a, h, tmP_comm, tmP_one]
  rw [← e1, ← tmP_assoc, e2]
theorem ivP_ivP (a : UInt8) : ivP (ivP a) = a := by
  by_cases h : a = 0
  · rw [h, ivP_zero, ivP_zero]
  · exact (ivP_only (ivP a) a (by rw [tmP_comm]; exact ivP_times a h)).symm

theorem tpA_xorr (a x y k : Nat) : tpA a (x ^^^ y) k = tpA a x k ^^^ tpA a y k := by
  induction k with
  | zero => show 0 = 0 ^^^ 0; decide
  | succ k ih =>
    unfold tpA
    rw [ih, bit_xor]
    have h1 : x / 2 ^ k % 2 < 2 := Nat.mod_lt _ (by decide)
    have h2 : y / 2 ^ k % 2 < 2 := Nat.mod_lt _ (by decide)
    generalize x / 2 ^ k % 2 = p at *
    generalize y / 2 ^ k % 2 = q at *
    generalize tpA a x k = s at *
    generalize tpA a y k = t at *
    generalize a * 2 ^ k = z at *
    obtain rfl | rfl : p = 0 ∨ p = 1 := by omega
    all_goals
      obtain rfl | rfl : q = 0 ∨ q = 1 := by omega
      all_goals simp
    · rw [Nat.xor_assoc]
    · rw [Nat.xor_assoc, Nat.xor_comm t z, ← Nat.xor_assoc]
    · rw [Nat.xor_assoc s z, ← Nat.xor_assoc z t z, Nat.xor_comm z t, Nat.xor_assoc t z z, Nat.xor_self, Nat.xor_zero]
theorem rdA_xor (x y j : Nat) : rdA (x ^^^ y) j = rdA x j ^^^ rdA y j := by
  induction j with
  | zero => rfl
  | succ j ih =>
    unfold rdA
    rw [ih, bit_xor]
    have h1 : rdA x j / 2 ^ (14 - j) % 2 < 2 := Nat.mod_lt _ (by decide)
    have h2 : rdA y j / 2 ^ (14 - j) % 2 < 2 := Nat.mod_lt _ (by decide)
    generalize rdA x j / 2 ^ (14 - j) % 2 = p at *
    generalize rdA y j / 2 ^ (14 - j) % 2 = q at *
    generalize rdA x j = s at *
    generalize rdA y j = t at *
    generalize 283 * 2 ^ (6 - j) = z at *
    obtain rfl | rfl : p = 0 ∨ p = 1 := by omega
    all_goals
      obtain rfl | rfl : q = 0 ∨ q = 1 := by omega
      all_goals simp
    · rw [Nat.xor_assoc]
    · rw [Nat.xor_assoc, Nat.xor_comm t z, ← Nat.xor_assoc]
    · rw [Nat.xor_assoc s z, ← Nat.xor_assoc z t z, Nat.xor_comm z t, Nat.xor_assoc t z z, Nat.xor_self, Nat.xor_zero]
theorem tmA_nat (a b : UInt8) : (tmA a b).toNat = rdA (tpA a.toNat b.toNat 8) 7 % 2 ^ 8 := by
  unfold tmA
  show _ % 256 = _
  omega
theorem tmA_xorr (a x y : UInt8) : tmA a (x ^^^ y) = tmA a x ^^^ tmA a y := by
  apply UInt8.toNat_inj.1
  rw [UInt8.toNat_xor, tmA_nat, tmA_nat, tmA_nat, UInt8.toNat_xor, tpA_xorr, rdA_xor, Nat.xor_mod_two_pow]
/-- Both products are the same. -/
theorem tmA_tmP (a b : UInt8) : tmA a b = tmP a b := by
  have D : ∀ (j : Fin 8) (i : Fin 256), tmA (UInt8.ofNat i.val) (bs8 j.val) = tmP (UInt8.ofNat i.val) (bs8 j.val) := by decide +kernel
  refine lin_ext (fun b => tmA a b) (fun b => tmP a b) (fun x y => tmA_xorr a x y) (fun x y => tmP_xorr a x y) (fun j => ?_) b
  exact all8 (fun a => tmA a (bs8 j.val) = tmP a (bs8 j.val)) (fun i => D j i) a
theorem invA_found (a c : UInt8) (h1 : tmA a c = 1) (h2 : ∀ b, tmA a b = 1 → b = c) : ∀ f, f ≤ 255 → 256 - f ≤ c.toNat → invA a f = c
  | 0, _, h => by have := c.toNat_lt; omega
  | f + 1, hf, h => by
    unfold invA
    by_cases e : tmA a (UInt8.ofNat (255 - f)) = 1
    · rw [if_pos e]; exact h2 _ e
    · rw [if_neg e]
      refine invA_found a c h1 h2 f (by omega) ?_
      have : c.toNat ≠ 255 - f := fun e' => e (by rw [← e', UInt8.ofNat_toNat]; exact h1)
      omega
theorem invA_none (a : UInt8) (h : ∀ b, tmA a b ≠ 1) : ∀ f, invA a f = 0
  | 0 => rfl
  | f + 1 => by unfold invA; rw [if_neg (h _)]; exact invA_none a h f
/-- Both inverses are the same. -/
theorem inA_ivP (a : UInt8) : inA a = ivP a := by
  unfold inA
  by_cases h : a = 0
  · rw [h, ivP_zero]
    exact invA_none 0 (fun b => by rw [tmA_tmP, tmP_zero]; decide) 255
  · have hn : ivP a ≠ 0 := fun e => by have := ivP_times a h; rw [e, tmP_comm, tmP_zero] at this; exact absurd this (by decide)
    refine invA_found a (ivP a) (by rw [tmA_tmP]; exact ivP_times a h) (fun b hb => ivP_only a b (by rw [← tmA_tmP]; exact hb)) 255 (by omega) ?_
    have : (ivP a).toNat ≠ 0 := fun e => hn (UInt8.toNat_inj.1 e)
    omega
theorem sbA_sbP (a : UInt8) : sbA a = sbP a := by
  unfold sbA sbP
  rw [inA_ivP]
  generalize ivP a = y
  show _ = (((y ^^^ 99 ^^^ rolA y 1) ^^^ rolA y 2) ^^^ rolA y 3) ^^^ rolA y 4
  generalize rolA y 1 = p
  generalize rolA y 2 = q
  generalize rolA y 3 = r
  generalize rolA y 4 = s
  rw [x8_assoc y 99 p, x8_comm 99 p, ← x8_assoc y p 99, x8_assoc (y ^^^ p) 99 q, x8_comm 99 q, ← x8_assoc (y ^^^ p) q 99, x8_assoc (y ^^^ p ^^^ q) 99 r, x8_comm 99 r, ← x8_assoc (y ^^^ p ^^^ q) r 99, x8_assoc (y ^^^ p ^^^ q ^^^ r) 99 s, x8_comm 99 s, ← x8_assoc (y ^^^ p ^^^ q ^^^ r) s 99]
/-- Back from a byte that stands for another. -/
def uvP (a : UInt8) : UInt8 := ivP (rolA a 1 ^^^ rolA a 3 ^^^ rolA a 6 ^^^ 5)
theorem affine_back (y : UInt8) : rolA (soP y 4) 1 ^^^ rolA (soP y 4) 3 ^^^ rolA (soP y 4) 6 ^^^ 5 = y := all8 (fun y => rolA (soP y 4) 1 ^^^ rolA (soP y 4) 3 ^^^ rolA (soP y 4) 6 ^^^ 5 = y) (by decide +kernel) y
theorem affine_forth (a : UInt8) : soP (rolA a 1 ^^^ rolA a 3 ^^^ rolA a 6 ^^^ 5) 4 = a := all8 (fun a => soP (rolA a 1 ^^^ rolA a 3 ^^^ rolA a 6 ^^^ 5) 4 = a) (by decide +kernel) a
theorem uvP_sbP (a : UInt8) : uvP (sbP a) = a := by unfold uvP sbP; rw [affine_back, ivP_ivP]
theorem sbP_uvP (a : UInt8) : sbP (uvP a) = a := by unfold uvP sbP; rw [ivP_ivP, affine_forth]
theorem unsA_found (a c : UInt8) (h1 : sbA c = a) (h2 : ∀ b, sbA b = a → b = c) : ∀ f, f ≤ 256 → 256 - f ≤ c.toNat → unsA a f = c
  | 0, _, h => by have := c.toNat_lt; omega
  | f + 1, hf, h => by
    unfold unsA
    by_cases e : sbA (UInt8.ofNat (255 - f)) = a
    · rw [if_pos e]; exact h2 _ e
    · rw [if_neg e]
      refine unsA_found a c h1 h2 f (by omega) ?_
      have : c.toNat ≠ 255 - f := fun e' => e (by rw [← e', UInt8.ofNat_toNat]; exact h1)
      omega
theorem unA_uvP (a : UInt8) : unA a = uvP a :=
  unsA_found a (uvP a) (by rw [sbA_sbP, sbP_uvP]) (fun b hb => by rw [sbA_sbP] at hb; rw [← hb, uvP_sbP]) 256 (by omega) (by omega)

end Go.Proofs.Ytbmmibmfjhehhaa.AE

/- Contract of ref 4's xor. -/
namespace Go.Proofs.Ytbmmibmfjhehhaa.AE
open Go.RowKit

/-- Two rows of bytes, cell by cell. -/
def xrA (a b : List UInt8) : List UInt8 := List.zipWith (· ^^^ ·) a b
/-- The same, the first k cells done. -/
def xpart (a b : List UInt8) (k : Nat) : List UInt8 := (xrA a b).take k ++ a.drop k
theorem xrA_len (a b : List UInt8) (n : Nat) (ha : a.length = n) (hb : b.length = n) : (xrA a b).length = n := by unfold xrA; simp [ha, hb]
theorem xpart_len (a b : List UInt8) (n k : Nat) (ha : a.length = n) (hb : b.length = n) (hk : k ≤ n) : (xpart a b k).length = n := by
  unfold xpart; simp [xrA_len a b n ha hb, ha]; omega
theorem xpart_zero (a b : List UInt8) : xpart a b 0 = a := by unfold xpart; simp
theorem xpart_all (a b : List UInt8) (n : Nat) (ha : a.length = n) (hb : b.length = n) : xpart a b n = xrA a b := by
  unfold xpart
  rw [List.take_of_length_le (by rw [xrA_len a b n ha hb]; exact Nat.le_refl _), List.drop_of_length_le (by omega), List.append_nil]
theorem xpart_get (a b : List UInt8) (n k : Nat) (ha : a.length = n) (hb : b.length = n) (hk : k < n) : (xpart a b k).getD k 0 = a.getD k 0 := by
  unfold xpart
  have hl : ((xrA a b).take k).length = k := by simp [xrA_len a b n ha hb]; omega
  rw [List.getD, List.getElem?_append_right (by omega), hl, Nat.sub_self, List.getElem?_drop, Nat.add_zero, List.getD]
theorem xpart_set (a b : List UInt8) (n k : Nat) (ha : a.length = n) (hb : b.length = n) (hk : k < n) :
    ((xpart a b k).map B8).toArray.setIfInBounds k (B8 (a.getD k 0 ^^^ b.getD k 0)) = ((xpart a b (k + 1)).map B8).toArray := by
  have hx := xrA_len a b n ha hb
  have hk' : k < (xrA a b).length := by omega
  have ha' : k < a.length := by omega
  have hb' : k < b.length := by omega
  have e0 : a.getD k 0 ^^^ b.getD k 0 = (xrA a b)[k] := by
    have e1 : (xrA a b)[k] = a[k] ^^^ b[k] := by unfold xrA; exact List.getElem_zipWith ..
    rw [e1]
    simp [List.getD, List.getElem?_eq_getElem ha', List.getElem?_eq_getElem hb']
  have e : (xpart a b k).set k (a.getD k 0 ^^^ b.getD k 0) = xpart a b (k + 1) := by
    unfold xpart
    rw [List.set_append_right _ _ (by simp; omega), List.take_succ_eq_append_getElem hk', e0, List.drop_eq_getElem_cons ha']
    simp only [List.length_take, Nat.min_eq_left (show k ≤ (xrA a b).length by omega), Nat.sub_self, List.set_cons_zero, List.append_assoc, List.singleton_append]
  rw [List.setIfInBounds_toArray, ← List.map_set, e]

theorem xr_toNat (x y : UInt8) : ((x ^^^ y).toNat : Int) = ((x.toNat ^^^ y.toNat : Nat) : Int) := by rw [UInt8.toNat_xor]


end Go.Proofs.Ytbmmibmfjhehhaa.AE

/- Contract of ref 4's mixed. -/
namespace Go.Proofs.Ytbmmibmfjhehhaa.AE
open Go.RowKit

/-- The sum of k products, for column c and row r. -/
def mxS (s f : List UInt8) (c r : Nat) : Nat → UInt8
  | 0 => 0
  | k + 1 => mxS s f c r k ^^^ tmA (s.getD (4 * c + k) 0) (f.getD ((k + 4 - r) % 4) 0)
/-- A block whose columns are multiplied. -/
def mxA (s f : List UInt8) : List UInt8 := (List.range 16).map fun j => mxS s f (j / 4) (j % 4) 4
/-- As far as column c, row r, product k. -/
def mxP (s f : List UInt8) (c r k : Nat) : List UInt8 := (List.range 16).map fun j => if j < 4 * c + r then mxS s f (j / 4) (j % 4) 4 else if j = 4 * c + r then mxS s f c r k else 0
theorem mxA_len (s f : List UInt8) : (mxA s f).length = 16 := by unfold mxA; simp
theorem mxP_len (s f : List UInt8) (c r k : Nat) : (mxP s f c r k).length = 16 := by unfold mxP; simp
theorem mxP_start (s f : List UInt8) : mxP s f 0 0 0 = List.replicate 16 0 := by
  unfold mxP
  apply List.ext_getElem
  · simp
  · intro n h1 h2
    rw [List.getElem_replicate]
    simp [mxS]
theorem mxP_all (s f : List UInt8) : mxP s f 4 0 0 = mxA s f := by
  unfold mxP mxA
  apply List.map_congr_left
  intro j hj
  have : j < 16 := List.mem_range.1 hj
  simp [this]
theorem mxP_row (s f : List UInt8) (c r : Nat) (hr : r < 4) : mxP s f c r 4 = mxP s f c (r + 1) 0 := by
  unfold mxP
  apply List.map_congr_left
  intro j hj
  by_cases h1 : j < 4 * c + r
  · rw [if_pos h1, if_pos (by omega)]
  · by_cases h2 : j = 4 * c + r
    · rw [if_neg h1, if_pos h2, if_pos (by omega), h2]
      rw [show (4 * c + r) / 4 = c by omega, show (4 * c + r) % 4 = r by omega]
    · rw [if_neg h1, if_neg h2, if_neg (by omega)]
      by_cases h3 : j = 4 * c + (r + 1)
      · rw [if_pos h3]; rfl
      · rw [if_neg h3]
theorem mxP_col (s f : List UInt8) (c : Nat) : mxP s f c 4 0 = mxP s f (c + 1) 0 0 := by
  unfold mxP
  apply List.map_congr_left
  intro j hj
  rw [show 4 * (c + 1) + 0 = 4 * c + 4 by omega]
  rfl
theorem mxP_get (s f : List UInt8) (c r k : Nat) (hc : c < 4) (hr : r < 4) : (mxP s f c r k).getD (4 * c + r) 0 = mxS s f c r k := by
  unfold mxP
  rw [List.getD, List.getElem?_map, List.getElem?_range (by omega)]
  simp
theorem mxP_set (s f : List UInt8) (c r k : Nat) (hc : c < 4) (hr : r < 4) :
    ((mxP s f c r k).map B8).toArray.setIfInBounds (4 * c + r) (B8 (mxS s f c r k ^^^ tmA (s.getD (4 * c + k) 0) (f.getD ((k + 4 - r) % 4) 0))) = ((mxP s f c r (k + 1)).map B8).toArray := by
  have e : (mxP s f c r k).set (4 * c + r) (mxS s f c r k ^^^ tmA (s.getD (4 * c + k) 0) (f.getD ((k + 4 - r) % 4) 0)) = mxP s f c r (k + 1) := by
    unfold mxP
    apply List.ext_getElem
    · simp
    · intro n h1 h2
      simp only [List.getElem_set, List.getElem_map, List.getElem_range]
      by_cases h : 4 * c + r = n
      · subst h
        rw [if_pos rfl, if_neg (by omega), if_pos rfl]; rfl
      · rw [if_neg h]
        by_cases h3 : n < 4 * c + r
        · rw [if_pos h3, if_pos h3]
        · rw [if_neg h3, if_neg (by omega), if_neg h3, if_neg (by omega)]
  rw [List.setIfInBounds_toArray, ← List.map_set, e]

theorem zero16 (w : World) : (zeroValue 83).run Try.prog w = .ok (.agg ((List.replicate 16 (0 : UInt8)).map B8).toArray) w := by kernel_rfl

end Go.Proofs.Ytbmmibmfjhehhaa.AE

/- Contract of ref 4's Encipher. -/
namespace Go.Proofs.Ytbmmibmfjhehhaa.AE
open Go.RowKit

theorem bpart_cell' (n : Nat) (T : List UInt8) (k : Nat) (hT : T.length = n) (h : k < n) : ∃ u, ((bpart n T k).map B8).toArray[k]? = some (.int .u8 u) := by
  have hl : k < (bpart n T k).length := by rw [bpart_len n T k hT (by omega)]; exact h
  exact ⟨_, by simp only [List.getElem?_toArray, List.getElem?_map, List.getElem?_eq_getElem hl]; rfl⟩
/-- Key number i of eleven that lie end to end. -/
def keyA (ks : List UInt8) (i : Nat) : List UInt8 := (ks.drop (16 * i)).take 16
theorem keyA_len (ks : List UInt8) (i : Nat) (h : ks.length = 176) (hi : i < 11) : (keyA ks i).length = 16 := by unfold keyA; simp [h]; omega
/-- Bytes set through a table, rows turned. -/
def stA (t s : List UInt8) : List UInt8 := (List.range 16).map fun j => t.getD (s.getD (4 * ((j / 4 + j % 4) % 4) + j % 4) 0).toNat 0
/-- As far as j. -/
theorem stA_len (t s : List UInt8) : (stA t s).length = 16 := by unfold stA; simp
theorem stA_get (t s : List UInt8) (c r : Nat) (hc : c < 4) (hr : r < 4) : (stA t s).getD (4 * c + r) 0 = t.getD (s.getD (4 * ((c + r) % 4) + r) 0).toNat 0 := by
  unfold stA
  rw [List.getD, List.getElem?_map, List.getElem?_range (by omega)]
  show t.getD (s.getD (4 * (((4 * c + r) / 4 + (4 * c + r) % 4) % 4) + (4 * c + r) % 4) 0).toNat 0 = _
  rw [show (4 * c + r) / 4 = c by omega, show (4 * c + r) % 4 = r by omega]
/-- A round. -/
def rndA (ks t s : List UInt8) (i : Nat) : List UInt8 := xrA (if i < 10 then mxA (stA t s) [2, 3, 1, 1] else stA t s) (keyA ks i)
/-- Rounds 1 to n. -/
def encR (ks t s : List UInt8) : Nat → List UInt8
  | 0 => xrA s (keyA ks 0)
  | n + 1 => rndA ks t (encR ks t s n) (n + 1)
/-- A block under a key. -/
def encA (ks t s : List UInt8) : List UInt8 := encR ks t s 10
theorem rndA_len (ks t s : List UInt8) (i : Nat) (h : ks.length = 176) (hi : i < 11) : (rndA ks t s i).length = 16 := by
  unfold rndA
  refine xrA_len _ _ 16 ?_ (keyA_len ks i h hi)
  by_cases h10 : i < 10
  · rw [if_pos h10]; exact mxA_len _ _
  · rw [if_neg h10]; exact stA_len _ _
theorem encR_len (ks t s : List UInt8) (n : Nat) (h : ks.length = 176) (hs : s.length = 16) (hn : n < 11) : (encR ks t s n).length = 16 := by
  cases n with
  | zero => exact xrA_len _ _ 16 hs (keyA_len ks 0 h (by omega))
  | succ n => exact rndA_len _ _ _ _ h hn

theorem keyA_range {w : World} {b : Nat} {ks : List UInt8} {ty : TypeId} {fr : Nat × Nat} (i : Nat) (h : w.heap[b]? = some (.cells (ks.map B8).toArray ty fr)) : w.rangeAt b (16 * i) ((keyA ks i).map B8) := fun j v hv => by
  rw [cell_of_row _ _ (16 * i + j) _ _ _ h]
  unfold keyA at hv
  simp only [List.getElem?_map, List.getElem?_take, List.getElem?_drop] at hv
  by_cases hj : j < 16
  · rw [if_pos hj] at hv
    simp only [List.getElem?_toArray, List.getElem?_map]
    exact hv
  · rw [if_neg hj] at hv; simp at hv


end Go.Proofs.Ytbmmibmfjhehhaa.AE
