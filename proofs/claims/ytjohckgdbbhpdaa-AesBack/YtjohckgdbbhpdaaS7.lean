/- The chapter's row, reckoned: mathematics only. -/
import Derived.Test.YtjohckgdbbhpdaaQ7
set_option linter.unusedVariables false
set_option linter.unusedSimpArgs false
namespace Go.Proofs.Ytjohckgdbbhpdaa
open Go.RowKit

/-- What stands for all bytes, told. -/
def tabT : List UInt8 := [99, 124, 119, 123, 242, 107, 111, 197, 48, 1, 103, 43, 254, 215, 171, 118, 202, 130, 201, 125, 250, 89, 71, 240, 173, 212, 162, 175, 156, 164, 114, 192, 183, 253, 147, 38, 54, 63, 247, 204, 52, 165, 229, 241, 113, 216, 49, 21, 4, 199, 35, 195, 24, 150, 5, 154, 7, 18, 128, 226, 235, 39, 178, 117, 9, 131, 44, 26, 27, 110, 90, 160, 82, 59, 214, 179, 41, 227, 47, 132, 83, 209, 0, 237, 32, 252, 177, 91, 106, 203, 190, 57, 74, 76, 88, 207, 208, 239, 170, 251, 67, 77, 51, 133, 69, 249, 2, 127, 80, 60, 159, 168, 81, 163, 64, 143, 146, 157, 56, 245, 188, 182, 218, 33, 16, 255, 243, 210, 205, 12, 19, 236, 95, 151, 68, 23, 196, 167, 126, 61, 100, 93, 25, 115, 96, 129, 79, 220, 34, 42, 144, 136, 70, 238, 184, 20, 222, 94, 11, 219, 224, 50, 58, 10, 73, 6, 36, 92, 194, 211, 172, 98, 145, 149, 228, 121, 231, 200, 55, 109, 141, 213, 78, 169, 108, 86, 244, 234, 101, 122, 174, 8, 186, 120, 37, 46, 28, 166, 180, 198, 232, 221, 116, 31, 75, 189, 139, 138, 112, 62, 181, 102, 72, 3, 246, 14, 97, 53, 87, 185, 134, 193, 29, 158, 225, 248, 152, 17, 105, 217, 142, 148, 155, 30, 135, 233, 206, 85, 40, 223, 140, 161, 137, 13, 191, 230, 66, 104, 65, 153, 45, 15, 176, 84, 187, 22]
theorem tabA_tabT : tabA = tabT := by
  have h : (List.range 256).map (fun i => sbP (UInt8.ofNat i)) = tabT := by decide +kernel
  rw [← h]
  unfold tabA
  exact List.map_congr_left fun i _ => sbA_sbP _
def K16 : List UInt8 := [0, 1, 2, 3, 4, 5, 6, 7, 8, 9, 10, 11, 12, 13, 14, 15]
def P16 : List UInt8 := [0, 17, 34, 51, 68, 85, 102, 119, 136, 153, 170, 187, 204, 221, 238, 255]
def F16 : List UInt8 := [0, 1, 2, 3, 4, 5, 6, 7, 8, 9, 10, 11, 12, 13, 14, 15, 214, 170, 116, 253, 210, 175, 114, 250, 218, 166, 120, 241, 214, 171, 118, 254, 182, 146, 207, 11, 100, 61, 189, 241, 190, 155, 197, 0, 104, 48, 179, 254, 182, 255, 116, 78, 210, 194, 201, 191, 108, 89, 12, 191, 4, 105, 191, 65, 71, 247, 247, 188, 149, 53, 62, 3, 249, 108, 50, 188, 253, 5, 141, 253, 60, 170, 163, 232, 169, 159, 157, 235, 80, 243, 175, 87, 173, 246, 34, 170, 94, 57, 15, 125, 247, 166, 146, 150, 167, 85, 61, 193, 10, 163, 31, 107, 20, 249, 112, 26, 227, 95, 226, 140, 68, 10, 223, 77, 78, 169, 192, 38, 71, 67, 135, 53, 164, 28, 101, 185, 224, 22, 186, 244, 174, 191, 122, 210, 84, 153, 50, 209, 240, 133, 87, 104, 16, 147, 237, 156, 190, 44, 151, 78, 19, 17, 29, 127, 227, 148, 74, 23, 243, 7, 167, 139, 77, 43, 48, 197]
def pwT : List UInt8 := [1, 2, 4, 8, 16, 32, 64, 128, 27, 54]
theorem pwA_0 : pwA 0 = 1 := rfl
theorem pwA_1 : pwA 1 = 2 := by show tmA (pwA 0) 2 = _; rw [pwA_0]; decide +kernel
theorem pwA_2 : pwA 2 = 4 := by show tmA (pwA 1) 2 = _; rw [pwA_1]; decide +kernel
theorem pwA_3 : pwA 3 = 8 := by show tmA (pwA 2) 2 = _; rw [pwA_2]; decide +kernel
theorem pwA_4 : pwA 4 = 16 := by show tmA (pwA 3) 2 = _; rw [pwA_3]; decide +kernel
theorem pwA_5 : pwA 5 = 32 := by show tmA (pwA 4) 2 = _; rw [pwA_4]; decide +kernel
theorem pwA_6 : pwA 6 = 64 := by show tmA (pwA 5) 2 = _; rw [pwA_5]; decide +kernel
theorem pwA_7 : pwA 7 = 128 := by show tmA (pwA 6) 2 = _; rw [pwA_6]; decide +kernel
theorem pwA_8 : pwA 8 = 27 := by show tmA (pwA 7) 2 = _; rw [pwA_7]; decide +kernel
theorem pwA_9 : pwA 9 = 54 := by show tmA (pwA 8) 2 = _; rw [pwA_8]; decide +kernel
theorem pwA_T (n : Nat) (h : n < 10) : pwA n = pwT.getD n 0 := by
  obtain rfl | rfl | rfl | rfl | rfl | rfl | rfl | rfl | rfl | rfl : n = 0 ∨ n = 1 ∨ n = 2 ∨ n = 3 ∨ n = 4 ∨ n = 5 ∨ n = 6 ∨ n = 7 ∨ n = 8 ∨ n = 9 := by omega
  · exact pwA_0
  · exact pwA_1
  · exact pwA_2
  · exact pwA_3
  · exact pwA_4
  · exact pwA_5
  · exact pwA_6
  · exact pwA_7
  · exact pwA_8
  · exact pwA_9
/-- The word that is added, with the powers told. -/
def exU (t p : List UInt8) (n : Nat) : List UInt8 :=
  if n % 4 = 0 then [t.getD (p.getD (4 * (n + 3) + 1) 0).toNat 0 ^^^ pwT.getD (n / 4) 0, t.getD (p.getD (4 * (n + 3) + 2) 0).toNat 0, t.getD (p.getD (4 * (n + 3) + 3) 0).toNat 0, t.getD (p.getD (4 * (n + 3)) 0).toNat 0]
  else [p.getD (4 * (n + 3)) 0, p.getD (4 * (n + 3) + 1) 0, p.getD (4 * (n + 3) + 2) 0, p.getD (4 * (n + 3) + 3) 0]
theorem exU_exT (t p : List UInt8) (n : Nat) (h : n < 40) : exU t p n = exT t p n := by
  unfold exU exT
  rw [pwA_T (n / 4) (by omega)]
theorem exT_congr (t p q : List UInt8) (n : Nat) (h : ∀ j, j < 16 + 4 * n → p.getD j 0 = q.getD j 0) : exT t p n = exT t q n := by
  unfold exT
  rw [h (4 * (n + 3)) (by omega), h (4 * (n + 3) + 1) (by omega), h (4 * (n + 3) + 2) (by omega), h (4 * (n + 3) + 3) (by omega)]
/-- Bytes that go on as a key's keys do are these. -/
theorem exA_only (key t F : List UInt8) (hk : key.length = 16) (hF : F.length = 176) (h0 : ∀ j, j < 16 → F.getD j 0 = key.getD j 0) (h1 : ∀ n, n < 40 → ∀ k, k < 4 → F.getD (16 + 4 * n + k) 0 = F.getD (4 * n + k) 0 ^^^ (exT t F n).getD k 0) : exA key t = F := by
  have key' : ∀ n, n ≤ 40 → ∀ j, j < 16 + 4 * n → (exA key t).getD j 0 = F.getD j 0 := by
    intro n
    induction n with
    | zero => intro _ j hj; rw [exA_key key t j hk (by omega), h0 j (by omega)]
    | succ n ih =>
      intro hn j hj
      have ih' := ih (by omega)
      by_cases hlt : j < 16 + 4 * n
      · exact ih' j hlt
      · obtain ⟨k, hk4, rfl⟩ : ∃ k, k < 4 ∧ j = 16 + 4 * n + k := ⟨j - (16 + 4 * n), by omega, by omega⟩
        rw [exA_step key t n k hk (by omega) hk4, h1 n (by omega) k hk4, ih' _ (by omega), exT_congr t _ _ n ih']
  apply List.ext_getElem
  · rw [exA_len key t hk, hF]
  · intro j hj1 hj2
    have := key' 40 (by omega) j (by omega)
    simpa only [List.getD, List.getElem?_eq_getElem hj1, List.getElem?_eq_getElem hj2, Option.getD_some] using this
theorem exA_K16 : exA K16 tabA = F16 := by
  rw [tabA_tabT]
  have D : ∀ n : Fin 40, ∀ k : Fin 4, F16.getD (16 + 4 * n.val + k.val) 0 = F16.getD (4 * n.val + k.val) 0 ^^^ (exU tabT F16 n.val).getD k.val 0 := by decide +kernel
  have D0 : ∀ j : Fin 16, F16.getD j.val 0 = K16.getD j.val 0 := by decide +kernel
  refine exA_only K16 tabT F16 rfl rfl (fun j hj => D0 ⟨j, hj⟩) (fun n hn k hk => ?_)
  rw [← exU_exT tabT F16 n hn]
  exact D ⟨n, hn⟩ ⟨k, hk⟩
def E16_0 : List UInt8 := [0, 16, 32, 48, 64, 80, 96, 112, 128, 144, 160, 176, 192, 208, 224, 240]
def E16_1 : List UInt8 := [137, 216, 16, 232, 133, 90, 206, 104, 45, 24, 67, 216, 203, 18, 143, 228]
def E16_2 : List UInt8 := [73, 21, 89, 143, 85, 229, 215, 160, 218, 202, 148, 250, 31, 10, 99, 247]
def E16_3 : List UInt8 := [250, 99, 106, 40, 37, 179, 57, 201, 64, 102, 138, 49, 87, 36, 77, 23]
def E16_4 : List UInt8 := [36, 114, 64, 35, 105, 102, 179, 250, 110, 210, 117, 50, 136, 66, 91, 108]
def E16_5 : List UInt8 := [200, 22, 119, 188, 155, 122, 201, 59, 37, 2, 121, 146, 176, 38, 25, 150]
def E16_6 : List UInt8 := [198, 47, 225, 9, 247, 94, 237, 195, 204, 121, 57, 93, 132, 249, 207, 93]
def E16_7 : List UInt8 := [209, 135, 108, 15, 121, 196, 48, 10, 180, 85, 148, 173, 214, 111, 244, 31]
def E16_8 : List UInt8 := [253, 227, 186, 210, 5, 229, 208, 215, 53, 71, 150, 78, 241, 254, 55, 241]
def E16_9 : List UInt8 := [189, 110, 124, 61, 242, 181, 119, 158, 11, 97, 33, 110, 139, 16, 182, 137]
def E16_10 : List UInt8 := [105, 196, 224, 216, 106, 123, 4, 48, 216, 205, 183, 128, 112, 180, 197, 90]
theorem encR_0 : encR F16 tabT P16 0 = E16_0 := by decide +kernel
theorem encR_1 : encR F16 tabT P16 1 = E16_1 := by show rndA F16 tabT (encR F16 tabT P16 0) 1 = _; rw [encR_0]; decide +kernel
theorem encR_2 : encR F16 tabT P16 2 = E16_2 := by show rndA F16 tabT (encR F16 tabT P16 1) 2 = _; rw [encR_1]; decide +kernel
theorem encR_3 : encR F16 tabT P16 3 = E16_3 := by show rndA F16 tabT (encR F16 tabT P16 2) 3 = _; rw [encR_2]; decide +kernel
theorem encR_4 : encR F16 tabT P16 4 = E16_4 := by show rndA F16 tabT (encR F16 tabT P16 3) 4 = _; rw [encR_3]; decide +kernel
theorem encR_5 : encR F16 tabT P16 5 = E16_5 := by show rndA F16 tabT (encR F16 tabT P16 4) 5 = _; rw [encR_4]; decide +kernel
theorem encR_6 : encR F16 tabT P16 6 = E16_6 := by show rndA F16 tabT (encR F16 tabT P16 5) 6 = _; rw [encR_5]; decide +kernel
theorem encR_7 : encR F16 tabT P16 7 = E16_7 := by show rndA F16 tabT (encR F16 tabT P16 6) 7 = _; rw [encR_6]; decide +kernel
theorem encR_8 : encR F16 tabT P16 8 = E16_8 := by show rndA F16 tabT (encR F16 tabT P16 7) 8 = _; rw [encR_7]; decide +kernel
theorem encR_9 : encR F16 tabT P16 9 = E16_9 := by show rndA F16 tabT (encR F16 tabT P16 8) 9 = _; rw [encR_8]; decide +kernel
theorem encR_10 : encR F16 tabT P16 10 = E16_10 := by show rndA F16 tabT (encR F16 tabT P16 9) 10 = _; rw [encR_9]; decide +kernel
theorem known_enc : encA (exA K16 tabA) tabA P16 = E16_10 := by rw [exA_K16, tabA_tabT]; exact encR_10

end Go.Proofs.Ytjohckgdbbhpdaa
