/- rec: a granule's words; contract of granuleOf. -/
import Derived.Test.YtpdafjamhccbnaaCG
set_option linter.unusedVariables false
set_option linter.unusedSimpArgs false
namespace Go.Proofs.Ytpdafjamhccbnaa.VC
open Go.RowKit

def bpart (n : Nat) (T : List UInt8) (k : Nat) : List UInt8 := T.take k ++ List.replicate (n - k) 0
theorem bpart_all (n : Nat) (T : List UInt8) (hT : T.length = n) : bpart n T n = T := by unfold bpart; simp [← hT]
theorem bpart_len (n : Nat) (T : List UInt8) (k : Nat) (hT : T.length = n) (h : k ≤ n) : (bpart n T k).length = n := by unfold bpart; simp; omega
theorem bpart_set (n : Nat) (T : List UInt8) (k : Nat) (hT : T.length = n) (h : k < n) : ((bpart n T k).map B8).toArray.setIfInBounds k (B8 (T.getD k 0)) = ((bpart n T (k + 1)).map B8).toArray := by
  have hk : k < T.length := by omega
  have e : (bpart n T k).set k (T.getD k 0) = bpart n T (k + 1) := by
    unfold bpart
    rw [List.set_append_right _ _ (by simp; omega), List.take_succ_eq_append_getElem hk]
    simp only [List.length_take, Nat.min_eq_left (show k ≤ T.length by omega), Nat.sub_self]
    rw [show n - k = (n - (k + 1)) + 1 by omega, List.replicate_succ, List.set_cons_zero]
    rw [show T.getD k 0 = T[k] from by simp [List.getD, List.getElem?_eq_getElem hk]]
    simp only [List.append_assoc, List.singleton_append]
  rw [List.setIfInBounds_toArray, ← List.map_set, e]
theorem bpart_cell (n : Nat) (T : List UInt8) (k : Nat) (hT : T.length = n) (h : k < n) : ∃ u, ((bpart n T k).map B8).toArray[k]? = some u := by
  have hl : k < ((bpart n T k).map B8).toArray.size := by simp [bpart_len n T k hT (by omega)]; exact h
  exact ⟨_, Array.getElem?_eq_getElem hl⟩
/-- The bytes of words. -/
def gr (WS : List Int) : List UInt8 := WS.flatMap fun x => W1.le 8 x.toNat
theorem gr_cons (x : Int) (WS : List Int) : gr (x :: WS) = W1.le 8 x.toNat ++ gr WS := rfl
theorem gr_len (WS : List Int) : (gr WS).length = 8 * WS.length := by
  induction WS with
  | nil => rfl
  | cons x l ih => rw [gr_cons, List.length_append, W1.le_length, ih, List.length_cons]; omega
theorem gr_get : ∀ (WS : List Int) (i j : Nat), i < WS.length → j < 8 → (gr WS)[8 * i + j]? = some (UInt8.ofNat ((WS.getD i 0).toNat / 256 ^ j % 256))
  | [], i, j, hi, hj => by simp at hi
  | x :: l, 0, j, hi, hj => by
    rw [gr_cons, Nat.mul_zero, Nat.zero_add, List.getElem?_append_left (by rw [W1.le_length]; exact hj), W1.le_get 8 _ j hj]; rfl
  | x :: l, i + 1, j, hi, hj => by
    rw [gr_cons, List.getElem?_append_right (by rw [W1.le_length]; omega), W1.le_length, show 8 * (i + 1) + j - 8 = 8 * i + j by omega, gr_get l i j (by simpa using hi) hj]; rfl
theorem gr_word : ∀ (WS : List Int) (i : Nat), i < WS.length → ((gr WS).drop (8 * i)).take 8 = W1.le 8 (WS.getD i 0).toNat
  | [], i, hi => by simp at hi
  | x :: l, 0, hi => by
    rw [gr_cons, Nat.mul_zero, List.drop_zero, List.take_left' (W1.le_length _ _)]; rfl
  | x :: l, i + 1, hi => by
    rw [gr_cons, List.drop_append, List.drop_of_length_le (by rw [W1.le_length]; omega), List.nil_append, W1.le_length, show 8 * (i + 1) - 8 = 8 * i by omega, gr_word l i (by simpa using hi)]; rfl
/-- A granule's words. -/
def wo (G : List UInt8) (i : Nat) : Int := (W1.num ((G.drop (8 * i)).take 8) : Int)
def ws (G : List UInt8) : List Int := (List.range 16).map (wo G)
theorem ws_len (G : List UInt8) : (ws G).length = 16 := by simp [ws]
theorem wo_u (G : List UInt8) (i : Nat) : u64 (wo G i) := by
  have h1 := W1.num_lt ((G.drop (8 * i)).take 8)
  have h2 : 256 ^ ((G.drop (8 * i)).take 8).length ≤ 256 ^ 8 := Nat.pow_le_pow_right (by decide) (by rw [List.length_take]; omega)
  have h3 : 256 ^ 8 = 18446744073709551616 := by decide
  unfold u64 wo
  omega
theorem ws_u (G : List UInt8) : ∀ x ∈ ws G, u64 x := by
  intro x hx
  obtain ⟨i, _, rfl⟩ := List.mem_map.1 hx
  exact wo_u G i
theorem ws_get (G : List UInt8) (i : Nat) (h : i < 16) : (ws G).getD i 0 = wo G i := by
  simp [ws, List.getD, List.getElem?_map, List.getElem?_range h]
theorem wo_gr (WS : List Int) (hu : ∀ x ∈ WS, u64 x) (i : Nat) (h : i < WS.length) : wo (gr WS) i = WS.getD i 0 := by
  unfold wo
  rw [gr_word WS i h, W1.num_le]
  have : WS.getD i 0 = WS[i] := by simp [List.getD, List.getElem?_eq_getElem h]
  have hx := hu _ (List.getElem_mem h)
  rw [← this] at hx
  unfold u64 at hx
  have e : (256 : Nat) ^ 8 = 18446744073709551616 := by decide
  rw [e]
  omega
theorem ws_gr (WS : List Int) (hl : WS.length = 16) (hu : ∀ x ∈ WS, u64 x) : ws (gr WS) = WS := by
  apply List.ext_getElem?
  intro i
  by_cases h : i < 16
  · have h' : i < WS.length := by omega
    rw [ws, List.getElem?_map, List.getElem?_range h, Option.map_some, wo_gr WS hu i h', List.getElem?_eq_getElem h']
    simp [List.getD, List.getElem?_eq_getElem h']
  · rw [List.getElem?_eq_none (by rw [ws_len]; omega), List.getElem?_eq_none (by omega)]
theorem gr_ws (G : List UInt8) (hl : G.length = 128) : gr (ws G) = G := by
  apply List.ext_getElem?
  intro k
  by_cases h : k < 128
  · have hi : k / 8 < 16 := by omega
    have hj : k % 8 < 8 := by omega
    have e := gr_get (ws G) (k / 8) (k % 8) (by rw [ws_len]; exact hi) hj
    rw [show 8 * (k / 8) + k % 8 = k by omega] at e
    rw [e, ws_get G _ hi]
    have h8 : ((G.drop (8 * (k / 8))).take 8).length = 8 := by rw [List.length_take, List.length_drop]; omega
    have e2 := W1.le_get 8 (wo G (k / 8)).toNat (k % 8) hj
    have e3 : (wo G (k / 8)).toNat = W1.num ((G.drop (8 * (k / 8))).take 8) := by unfold wo; simp
    rw [← e2, e3]
    have e4 := W1.le_num ((G.drop (8 * (k / 8))).take 8)
    rw [h8] at e4
    rw [e4, List.getElem?_take_of_lt hj, List.getElem?_drop, show 8 * (k / 8) + k % 8 = k by omega]
  · rw [List.getElem?_eq_none (by rw [gr_len, ws_len]; omega), List.getElem?_eq_none (by omega)]
def Z128 : List UInt8 := List.replicate 128 0
theorem z128_len : Z128.length = 128 := List.length_replicate
theorem zero_gr (w : World) : (zeroValue 45).run Try.prog w = .ok (.agg (Z128.map B8).toArray) w := by kernel_rfl
theorem build_gr (w : World) : (Instr.build 45 #[]).run Try.prog w = .ok (.agg (Z128.map B8).toArray) w := by kernel_rfl
theorem info128 (L : List Value) (h : L.length = 128) : (Try.prog.info? 45).map (·.size) = some L.length := by rw [h]; kernel_rfl
theorem info128a (L : List Value) (h : L.length = 128) : (Try.prog.info? 45).map (·.size) = some L.toArray.size := by rw [List.size_toArray, h]; kernel_rfl
theorem info16 (L : List Value) (h : L.length = 16) : (Try.prog.info? 70).map (·.size) = some L.length := by rw [h]; kernel_rfl
theorem info16a (L : List Value) (h : L.length = 16) : (Try.prog.info? 70).map (·.size) = some L.toArray.size := by rw [List.size_toArray, h]; kernel_rfl
def Z16 : List Int := List.replicate 16 0
theorem zero_ws (w : World) : (zeroValue 70).run Try.prog w = .ok (.agg (Z16.map U).toArray) w := by kernel_rfl
theorem eq_gr (w : World) (xs ys : List UInt8) (hx : xs.length = 128) (hy : ys.length = 128) (b : Bool) (h : (xs == ys) = b) : (Op.equalIn 10000 45 (.agg (xs.map B8).toArray) (.agg (ys.map B8).toArray)).run Try.prog w = .ok b w := by
  rw [← h]; exact run_equalIn_bytes (P := Try.prog) w 9998 45 5 128 Try.underlying45 Try.underlying5 size_u8 xs ys hx hy
theorem gG : Try.prog.eqGuardType Try.prog.depth 45 = false := by kernel_rfl
theorem z_part (T : List UInt8) : bpart 128 T 0 = Z128 := by unfold bpart Z128; simp
theorem U_get (WS : List Int) (i : Nat) (h : i < WS.length) : (WS.map U)[i]? = some (.int .u64 (WS.getD i 0)) := by
  rw [List.getElem?_map, List.getElem?_eq_getElem h]; simp [U, List.getD, List.getElem?_eq_getElem h]
theorem getD_u {WS : List Int} (hu : ∀ x ∈ WS, u64 x) (i : Nat) (h : i < WS.length) : u64 (WS.getD i 0) := by
  have : WS.getD i 0 = WS[i] := by simp [List.getD, List.getElem?_eq_getElem h]
  rw [this]; exact hu _ (List.getElem_mem h)
theorem part_set' (T : List UInt8) (k : Nat) (hT : T.length = 128) (h : k < 128) : ((bpart 128 T k).map B8).set k (B8 (T.getD k 0)) = (bpart 128 T (k + 1)).map B8 := by
  have := bpart_set 128 T k hT h
  rw [List.setIfInBounds_toArray] at this
  exact List.toArray_inj this
set_option maxHeartbeats 1000000 in
set_option maxRecDepth 100000 in
theorem granuleOf_any (WS : List Int) (hl : WS.length = 16) (hu : ∀ x ∈ WS, u64 x) (w : World) : Calls Try.prog 22 #[.agg (WS.map U).toArray] w fun e w' => e = .returned (.agg ((gr WS).map B8).toArray) ∧ Below w.heap.size w w' := by
  have hz := zero_gr
  obtain ⟨ZL, hZL⟩ : ∃ L, L = Z128.map B8 := ⟨_, rfl⟩
  have HZN : Hid (ZL.length = 128) := by show _ = _; rw [hZL, List.length_map, z128_len]
  rw [← hZL] at hz
  have HGL : Hid ((gr WS).length = 128) := by show _ = _; rw [gr_len, hl]
  have HP0 : Hid ((bpart 128 (gr WS) 0).map B8 = ZL) := by show _ = _; rw [z_part, hZL]
  have HGET : Hid (∀ i j, i < 16 → j < 8 → (gr WS).getD (8 * i + j) 0 = UInt8.ofNat ((WS.getD i 0).toNat / 256 ^ j % 256)) := fun i j hi hj => by
    rw [List.getD, gr_get WS i j (by omega) hj]; rfl
  have HUG : Hid (∀ i, i < 16 → (WS.map U)[i]? = some (.int .u64 (WS.getD i 0)) ∧ u64 (WS.getD i 0)) := fun i hi => ⟨U_get WS i (by omega), getD_u hu i (by omega)⟩
  have HR : Hid _ := (((RS.start w).alloc _ rfl 70 (WS.map U)).alloc (w.heap.size + 1) (by simp) 45 ZL).alloc (w.heap.size + 1 + 1) (by simp) 45 ZL
  generalize gr WS = T at *
  generalize WS.map U = WL at *
  clear hl hu hZL
  go_enter Try.func22, Try.ntmps22
  go_wp2
  go_loopw [5] (fun i wr => ∃ k : Nat, k ≤ 128 ∧ i = .int .i64 k ∧ RS w [(w.heap.size + 1 + 1, 45, (bpart 128 T k).map B8), (w.heap.size + 1, 45, ZL), (w.heap.size, 70, WL)] wr) (fun i _ => 128 - (intOf i).toNat)
  case atStart => exact ⟨0, by omega, rfl, by rw [HP0.out]; exact HR.out⟩
  case round =>
    obtain ⟨k, hk, rfl, hR⟩ := hrel
    have HR4 : Hid _ := hR
    by_cases hlt : k < 128
    · obtain ⟨i, hi⟩ : ∃ i, i = k / 8 := ⟨_, rfl⟩
      obtain ⟨j, hj⟩ : ∃ j, j = k % 8 := ⟨_, rfl⟩
      have hkij : 8 * i + j = k := by omega
      have hi16 : i < 16 := by omega
      have hj8 : j < 8 := by omega
      obtain ⟨hug, huu⟩ := HUG.out i hi16
      have hcx := hR.cell 2 rfl i hug
      have HG : Hid _ := HGET.out i j hi16 hj8
      have HS1 : Hid _ := part_set' T k HGL.out hlt
      have HBL : Hid (((bpart 128 T k).map B8).length = 128) := by show _ = _; rw [List.length_map]; exact bpart_len 128 T k HGL.out hk
      rw [hkij] at HG
      rw [HG.out] at HS1
      generalize WS.getD i 0 = x at *
      obtain ⟨n, rfl⟩ : ∃ n : Nat, x = n := ⟨x.toNat, by unfold u64 at huu; omega⟩
      have HSH : Hid _ := W1.shr_byte j n (by unfold u64 at huu; omega)
      simp only [Int.toNat_natCast] at HS1
      have hq1 : Int.tdiv (k : Int) 8 = (i : Int) := by rw [Int.tdiv_eq_ediv_of_nonneg (by omega)]; omega
      have hq2 : (k : Int) / 8 = (i : Int) := by omega
      have hj1 : Int.tmod (k : Int) 8 = (j : Int) := by rw [Int.tmod_eq_emod_of_nonneg (by omega)]; omega
      have hj2 : (k : Int) % 8 = (j : Int) := by omega
      have hiI : (i : Int) < 16 := by omega
      have hjI : (j : Int) < 8 := by omega
      have hkI : (k : Int) < 128 := by omega
      clear hi hj hkij hR HG huu hug hi16 hj8
      generalize hBV : B8 (UInt8.ofNat (n / 256 ^ j % 256)) = BV at *
      have HBV : Hid (BV = .int .u8 (IntKind.u8.wrap ((n : Int) / 2 ^ (8 * j)))) := by show _ = _; rw [← hBV, HSH.out]; rfl
      clear hBV HSH
      go_wp2_with (refine wpList_stB rfl (.tmp 18) (.tmp 17) rfl (w.heap.size + 1 + 1) k (IntKind.u8.wrap ((n : Int) / 2 ^ (8 * j))) rfl rfl ((bpart 128 T k).map B8) 45 (HR4.out.at 0 rfl) (by rw [HBL.out]; exact hlt) ?_
                   intro V5 hV5
                   have HR5 : Hid (RS w [(w.heap.size + 1 + 1, 45, (bpart 128 T (k + 1)).map B8), (w.heap.size + 1, 45, ZL), (w.heap.size, 70, WL)] V5) := by rw [hV5, ← HBV.out]; exact HR4.out.poke 0 rfl k _ HS1.out
                   clear hV5)
      go_roundw
      case rel => exact ⟨k + 1, by omega, by go_num, HR5.out⟩
      case measure => simp [intOf]; omega
    · have hk4 : k = 128 := by omega
      subst hk4
      have HT : Hid ((bpart 128 T 128).map B8 = T.map B8) := by show _ = _; rw [bpart_all 128 T HGL.out]
      rw [HT.out] at HR4
      have HTL : Hid ((T.map B8).length = 128) := by show _ = _; rw [List.length_map]; exact HGL.out
      have HT1 : Hid _ := B8_onea T
      clear hR hlt hk HT
      obtain ⟨GL, hGL⟩ : ∃ L, T.map B8 = L := ⟨_, rfl⟩
      have HGE : Hid _ := hGL
      rw [hGL] at HR4 HTL HT1
      clear hGL
      go_wp2_with (first
        | (refine wpList_load_mid rfl 45 (.tmp 3) rfl (w.heap.size + 1 + 1) 0 rfl GL _ (rangeAt_row (HR4.out.at 0 rfl)) Try.underlying45 rfl (info128 GL HTL.out) ?_)
        | (refine wpList_store_row rfl 45 (.tmp 2) (.tmp 20) rfl (w.heap.size + 1) GL.toArray rfl rfl 45 ZL.toArray (HR4.out.at 1 rfl) (info128a GL HTL.out) (by simp [HZN.out, HTL.out]) HT1.out ?_))
      have R7 := HR4.out.put 1 rfl GL
      refine bodyPost_ret (v := .agg GL.toArray) (results1 Try.results22 _ _ (w.heap.size + 1) (R7.at 1 rfl) Try.underlying45 rfl (info128 GL HTL.out) rfl) rfl ⟨by rw [HGE.out], R7.bel⟩
end Go.Proofs.Ytpdafjamhccbnaa.VC
