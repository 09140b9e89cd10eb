/- What is enciphered is deciphered: mathematics only. -/
import Derived.Test.YtjohckgdbbhpdaaE8
set_option linter.unusedVariables false
set_option linter.unusedSimpArgs false
namespace Go.Proofs.Ytjohckgdbbhpdaa
open Go.RowKit

theorem x8_lcomm (a b c : UInt8) : a ^^^ (b ^^^ c) = b ^^^ (a ^^^ c) := by rw [← x8_assoc, x8_comm a b, x8_assoc]
theorem mix_base (a b c d f0 f1 f2 f3 g0 g1 g2 g3 : UInt8)
    (h1 : tmP f0 g0 ^^^ tmP f3 g1 ^^^ tmP f2 g2 ^^^ tmP f1 g3 = 1) (h2 : tmP f1 g0 ^^^ tmP f0 g1 ^^^ tmP f3 g2 ^^^ tmP f2 g3 = 0)
    (h3 : tmP f2 g0 ^^^ tmP f1 g1 ^^^ tmP f0 g2 ^^^ tmP f3 g3 = 0) (h4 : tmP f3 g0 ^^^ tmP f2 g1 ^^^ tmP f1 g2 ^^^ tmP f0 g3 = 0) :
    tmP (tmP a f0 ^^^ tmP b f1 ^^^ tmP c f2 ^^^ tmP d f3) g0 ^^^ tmP (tmP b f0 ^^^ tmP c f1 ^^^ tmP d f2 ^^^ tmP a f3) g1 ^^^ tmP (tmP c f0 ^^^ tmP d f1 ^^^ tmP a f2 ^^^ tmP b f3) g2 ^^^ tmP (tmP d f0 ^^^ tmP a f1 ^^^ tmP b f2 ^^^ tmP c f3) g3 = a := by
  have e : tmP (tmP a f0 ^^^ tmP b f1 ^^^ tmP c f2 ^^^ tmP d f3) g0 ^^^ tmP (tmP b f0 ^^^ tmP c f1 ^^^ tmP d f2 ^^^ tmP a f3) g1 ^^^ tmP (tmP c f0 ^^^ tmP d f1 ^^^ tmP a f2 ^^^ tmP b f3) g2 ^^^ tmP (tmP d f0 ^^^ tmP a f1 ^^^ tmP b f2 ^^^ tmP c f3) g3
      = (tmP a (tmP f0 g0) ^^^ tmP a (tmP f3 g1) ^^^ tmP a (tmP f2 g2) ^^^ tmP a (tmP f1 g3)) ^^^ (tmP b (tmP f1 g0) ^^^ tmP b (tmP f0 g1) ^^^ tmP b (tmP f3 g2) ^^^ tmP b (tmP f2 g3)) ^^^ (tmP c (tmP f2 g0) ^^^ tmP c (tmP f1 g1) ^^^ tmP c (tmP f0 g2) ^^^ tmP c (tmP f3 g3)) ^^^ (tmP d (tmP f3 g0) ^^^ tmP d (tmP f2 g1) ^^^ tmP d (tmP f1 g2) ^^^ tmP d (tmP f0 g3)) := by
    simp only [tmP_xorl, tmP_assoc]
    generalize tmP a (tmP f0 g0) = a0
    generalize tmP a (tmP f3 g1) = a1
    generalize tmP a (tmP f2 g2) = a2
    generalize tmP a (tmP f1 g3) = a3
    generalize tmP b (tmP f1 g0) = b0
    generalize tmP b (tmP f0 g1) = b1
    generalize tmP b (tmP f3 g2) = b2
    generalize tmP b (tmP f2 g3) = b3
    generalize tmP c (tmP f2 g0) = c0
    generalize tmP c (tmP f1 g1) = c1
    generalize tmP c (tmP f0 g2) = c2
    generalize tmP c (tmP f3 g3) = c3
    generalize tmP d (tmP f3 g0) = d0
    generalize tmP d (tmP f2 g1) = d1
    generalize tmP d (tmP f1 g2) = d2
    generalize tmP d (tmP f0 g3) = d3
    ac_rfl
  rw [e]
  simp only [← tmP_xorr]
  rw [h1, h2, h3, h4, tmP_one, tmP_comm b 0, tmP_comm c 0, tmP_comm d 0, tmP_zero, tmP_zero, tmP_zero, x8_zero, x8_zero, x8_zero]
theorem x8_zl (a : UInt8) : 0 ^^^ a = a := by rw [x8_comm, x8_zero]
theorem list4 (l : List UInt8) (h : l.length = 4) : ∃ a b c d, l = [a, b, c, d] := by
  match l, h with
  | [a, b, c, d], _ => exact ⟨a, b, c, d, rfl⟩
theorem mcS_4 (a b c d f0 f1 f2 f3 : UInt8) : mcS [a, b, c, d] [f0, f1, f2, f3] 0 4 = tmP a f0 ^^^ tmP b f1 ^^^ tmP c f2 ^^^ tmP d f3 ∧ mcS [a, b, c, d] [f0, f1, f2, f3] 1 4 = tmP b f0 ^^^ tmP c f1 ^^^ tmP d f2 ^^^ tmP a f3 ∧ mcS [a, b, c, d] [f0, f1, f2, f3] 2 4 = tmP c f0 ^^^ tmP d f1 ^^^ tmP a f2 ^^^ tmP b f3 ∧ mcS [a, b, c, d] [f0, f1, f2, f3] 3 4 = tmP d f0 ^^^ tmP a f1 ^^^ tmP b f2 ^^^ tmP c f3 := by
  refine ⟨?_, ?_, ?_, ?_⟩
  · show 0 ^^^ tmP a f0 ^^^ tmP b f1 ^^^ tmP c f2 ^^^ tmP d f3 = _; rw [x8_zl]
  · show 0 ^^^ tmP b f0 ^^^ tmP c f1 ^^^ tmP d f2 ^^^ tmP a f3 = _; rw [x8_zl]
  · show 0 ^^^ tmP c f0 ^^^ tmP d f1 ^^^ tmP a f2 ^^^ tmP b f3 = _; rw [x8_zl]
  · show 0 ^^^ tmP d f0 ^^^ tmP a f1 ^^^ tmP b f2 ^^^ tmP c f3 = _; rw [x8_zl]
theorem mcA_4 (s f : List UInt8) : mcA s f = [mcS s f 0 4, mcS s f 1 4, mcS s f 2 4, mcS s f 3 4] := rfl
theorem mc_back (s : List UInt8) (f0 f1 f2 f3 g0 g1 g2 g3 : UInt8) (hs : s.length = 4)
    (h1 : tmP f0 g0 ^^^ tmP f3 g1 ^^^ tmP f2 g2 ^^^ tmP f1 g3 = 1) (h2 : tmP f1 g0 ^^^ tmP f0 g1 ^^^ tmP f3 g2 ^^^ tmP f2 g3 = 0)
    (h3 : tmP f2 g0 ^^^ tmP f1 g1 ^^^ tmP f0 g2 ^^^ tmP f3 g3 = 0) (h4 : tmP f3 g0 ^^^ tmP f2 g1 ^^^ tmP f1 g2 ^^^ tmP f0 g3 = 0) (r : Nat) (hr : r < 4) :
    mcS (mcA s [f0, f1, f2, f3]) [g0, g1, g2, g3] r 4 = s.getD r 0 := by
  obtain ⟨a, b, c, d, rfl⟩ := list4 s hs
  obtain ⟨m0, m1, m2, m3⟩ := mcS_4 a b c d f0 f1 f2 f3
  rw [mcA_4, m0, m1, m2, m3]
  obtain ⟨k0, k1, k2, k3⟩ := mcS_4 (tmP a f0 ^^^ tmP b f1 ^^^ tmP c f2 ^^^ tmP d f3) (tmP b f0 ^^^ tmP c f1 ^^^ tmP d f2 ^^^ tmP a f3) (tmP c f0 ^^^ tmP d f1 ^^^ tmP a f2 ^^^ tmP b f3) (tmP d f0 ^^^ tmP a f1 ^^^ tmP b f2 ^^^ tmP c f3) g0 g1 g2 g3
  obtain rfl | rfl | rfl | rfl : r = 0 ∨ r = 1 ∨ r = 2 ∨ r = 3 := by omega
  · rw [k0, mix_base a b c d f0 f1 f2 f3 g0 g1 g2 g3 h1 h2 h3 h4]; rfl
  · rw [k1, mix_base b c d a f0 f1 f2 f3 g0 g1 g2 g3 h1 h2 h3 h4]; rfl
  · rw [k2, mix_base c d a b f0 f1 f2 f3 g0 g1 g2 g3 h1 h2 h3 h4]; rfl
  · rw [k3, mix_base d a b c f0 f1 f2 f3 g0 g1 g2 g3 h1 h2 h3 h4]; rfl
theorem mdA_at (s f : List UInt8) (n : Nat) (h : n < (mdA s f).length) : (mdA s f)[n] = mcS (colA s (n / 4)) f (n % 4) 4 := by simp [mdA]
theorem mdA_col (s f : List UInt8) (c : Nat) (hc : c < 4) : colA (mdA s f) c = mcA (colA s c) f := by
  apply List.ext_getElem
  · rw [colA_len _ c (mdA_len s f) hc, mcA_len]
  · intro n h1 h2
    have h3 := h2
    rw [mcA_len] at h3
    have hb : 4 * c + n < (mdA s f).length := by rw [mdA_len]; omega
    rw [colA_at _ c n h1 hb, mdA_at, mcA_at, show (4 * c + n) / 4 = c by omega, show (4 * c + n) % 4 = n by omega]
theorem md_back (s : List UInt8) (f0 f1 f2 f3 g0 g1 g2 g3 : UInt8) (hs : s.length = 16)
    (h1 : tmP f0 g0 ^^^ tmP f3 g1 ^^^ tmP f2 g2 ^^^ tmP f1 g3 = 1) (h2 : tmP f1 g0 ^^^ tmP f0 g1 ^^^ tmP f3 g2 ^^^ tmP f2 g3 = 0)
    (h3 : tmP f2 g0 ^^^ tmP f1 g1 ^^^ tmP f0 g2 ^^^ tmP f3 g3 = 0) (h4 : tmP f3 g0 ^^^ tmP f2 g1 ^^^ tmP f1 g2 ^^^ tmP f0 g3 = 0) :
    mdA (mdA s [f0, f1, f2, f3]) [g0, g1, g2, g3] = s := by
  apply List.ext_getElem
  · rw [mdA_len, hs]
  · intro n hn1 hn2
    have hc : n / 4 < 4 := by omega
    have hl := colA_len s (n / 4) hs hc
    rw [mdA_at, mdA_col s _ (n / 4) hc, mc_back (colA s (n / 4)) f0 f1 f2 f3 g0 g1 g2 g3 hl h1 h2 h3 h4 (n % 4) (by omega), colA_get s (n / 4) (n % 4) hs hc (by omega), show 4 * (n / 4) + n % 4 = n by omega]
    simp [List.getD, List.getElem?_eq_getElem hn2]
theorem md_forth (s : List UInt8) (hs : s.length = 16) : mdA (mdA s [2, 3, 1, 1]) [14, 11, 13, 9] = s := md_back s 2 3 1 1 14 11 13 9 hs (by decide +kernel) (by decide +kernel) (by decide +kernel) (by decide +kernel)
theorem md_again (s : List UInt8) (hs : s.length = 16) : mdA (mdA s [14, 11, 13, 9]) [2, 3, 1, 1] = s := md_back s 14 11 13 9 2 3 1 1 hs (by decide +kernel) (by decide +kernel) (by decide +kernel) (by decide +kernel)
theorem rt_13 (s : List UInt8) (hs : s.length = 16) : rtA (rtA s 1) 3 = s := by
  obtain ⟨a0, a1, a2, a3, a4, a5, a6, a7, a8, a9, a10, a11, a12, a13, a14, a15, rfl⟩ := list16 s hs
  kernel_rfl
theorem rt_31 (s : List UInt8) (hs : s.length = 16) : rtA (rtA s 3) 1 = s := by
  obtain ⟨a0, a1, a2, a3, a4, a5, a6, a7, a8, a9, a10, a11, a12, a13, a14, a15, rfl⟩ := list16 s hs
  kernel_rfl
theorem tab_at (x : UInt8) : tabA.getD x.toNat 0 = sbP x := by rw [tabA_get _ x.toNat_lt, UInt8.ofNat_toNat, sbA_sbP]
theorem rp_comp (t u s : List UInt8) (h : ∀ x : UInt8, u.getD (t.getD x.toNat 0).toNat 0 = x) : rpA u (rpA t s) = s := by
  unfold rpA
  rw [List.map_map]
  have e : ∀ x ∈ s, ((fun x : UInt8 => u.getD x.toNat 0) ∘ fun x : UInt8 => t.getD x.toNat 0) x = x := fun x _ => h x
  rw [List.map_congr_left e, List.map_id']
theorem rp_back (s : List UInt8) : rpA (bkA tabA) (rpA tabA s) = s := rp_comp _ _ s fun x => by rw [tab_at, bkA_tab, uvP_sbP]
theorem rp_forth (s : List UInt8) : rpA tabA (rpA (bkA tabA) s) = s := rp_comp _ _ s fun x => by rw [bkA_tab, tab_at, sbP_uvP]
theorem xr_xr (a k : List UInt8) (n : Nat) (ha : a.length = n) (hk : k.length = n) : xrA (xrA a k) k = a := by
  have h1 := xrA_len a k n ha hk
  have h2 := xrA_len (xrA a k) k n h1 hk
  apply List.ext_getElem
  · rw [h2, ha]
  · intro j hj1 hj2
    have e := xrA_get (xrA a k) k n j h1 hk (by omega)
    rw [xrA_get a k n j ha hk (by omega), x8_assoc, x8_self, x8_zero] at e
    simpa only [List.getD, List.getElem?_eq_getElem hj1, List.getElem?_eq_getElem hj2, Option.getD_some] using e
theorem xr_com (a b : List UInt8) (n : Nat) (ha : a.length = n) (hb : b.length = n) : xrA a b = xrA b a := by
  have h1 := xrA_len a b n ha hb
  have h2 := xrA_len b a n hb ha
  apply List.ext_getElem
  · rw [h1, h2]
  · intro j hj1 hj2
    have e1 := xrA_get a b n j ha hb (by omega)
    have e2 := xrA_get b a n j hb ha (by omega)
    rw [x8_comm, ← e2] at e1
    simpa only [List.getD, List.getElem?_eq_getElem hj1, List.getElem?_eq_getElem hj2, Option.getD_some] using e1
theorem encR_go (ks s : List UInt8) (n : Nat) (hk : ks.length = 176) (hs : s.length = 16) (hn : n < 10) :
    encR ks tabA s (n + 1) = xrA (if n + 1 < 10 then mdA (rtA (rpA tabA (encR ks tabA s n)) 1) [2, 3, 1, 1] else rtA (rpA tabA (encR ks tabA s n)) 1) (keyA ks (n + 1)) := by
  have hl := encR_len ks tabA s n hk hs (by omega)
  rw [rtA_stA tabA _ hl, mdA_mxA _ _ (stA_len _ _)]; rfl
/-- What is enciphered is deciphered. -/
theorem dec_enc (ks s : List UInt8) (hk : ks.length = 176) (hs : s.length = 16) : decA ks tabA (encA ks tabA s) = s := by
  have hc : (encA ks tabA s).length = 16 := encR_len ks tabA s 10 hk hs (by omega)
  have key : ∀ n, n ≤ 10 → decR ks tabA (encA ks tabA s) n = encR ks tabA s (10 - n) := by
    intro n
    induction n with
    | zero => intro _; rfl
    | succ n ih =>
      intro hn
      rw [decR_go ks tabA (encA ks tabA s) n hk hc (by omega), ih (by omega)]
      obtain ⟨q, hq⟩ : ∃ q, 10 - n = q + 1 := ⟨9 - n, by omega⟩
      have hk' := keyA_len ks (q + 1) hk (by omega)
      have hl := encR_len ks tabA s q hk hs (by omega)
      have hp := rpA_len tabA (encR ks tabA s q) 16 hl
      have hr := rtA_len (rpA tabA (encR ks tabA s q)) 1
      rw [show 10 - (n + 1) = q by omega, hq]
      rw [encR_go ks s q hk hs (by omega)]
      by_cases h9 : q + 1 < 10
      · rw [if_pos h9, if_pos h9, xr_xr _ _ 16 (mdA_len _ _) hk', md_forth _ hr, rt_13 _ hp, rp_back]
      · rw [if_neg h9, if_neg h9, xr_xr _ _ 16 hr hk', rt_13 _ hp, rp_back]
  unfold decA
  rw [key 10 (by omega)]
  show xrA (xrA s (keyA ks 0)) (keyA ks 0) = s
  exact xr_xr s _ 16 hs (keyA_len ks 0 hk (by omega))
/-- And the other way round. -/
theorem enc_dec (ks c : List UInt8) (hk : ks.length = 176) (hc : c.length = 16) : encA ks tabA (decA ks tabA c) = c := by
  have hd := fun n => decR_len ks tabA c n hc
  have hs : (decA ks tabA c).length = 16 := xrA_len _ _ 16 (hd 10) (keyA_len ks 0 hk (by omega))
  have key : ∀ n, n ≤ 10 → encR ks tabA (decA ks tabA c) n = decR ks tabA c (10 - n) := by
    intro n
    induction n with
    | zero =>
      intro _
      show xrA (xrA (decR ks tabA c 10) (keyA ks 0)) (keyA ks 0) = _
      exact xr_xr _ _ 16 (hd 10) (keyA_len ks 0 hk (by omega))
    | succ n ih =>
      intro hn
      have hk' := keyA_len ks (n + 1) hk (by omega)
      rw [encR_go ks _ n hk hs (by omega), ih (by omega)]
      obtain ⟨q, hq⟩ : ∃ q, 10 - n = q + 1 := ⟨9 - n, by omega⟩
      have hqn : 10 - q = n + 1 := by omega
      have hl := hd q
      rw [show 10 - (n + 1) = q by omega, hq, decR_go ks tabA c q hk hc (by omega), hqn, rp_forth]
      have hx := xrA_len (decR ks tabA c q) (keyA ks (n + 1)) 16 hl hk'
      by_cases h9 : n + 1 < 10
      · rw [if_pos h9, if_pos h9, rt_31 _ (mdA_len _ _), md_again _ hx, xr_xr _ _ 16 hl hk']
      · rw [if_neg h9, if_neg h9, rt_31 _ hx, xr_xr _ _ 16 hl hk']
  show encR ks tabA (decA ks tabA c) 10 = c
  rw [key 10 (by omega)]; rfl
/-- What is masked twice is what it was. -/
theorem mk_mk (key nonce b : List UInt8) (hk : key.length = 16) (hn : nonce.length = 8) : mkA key nonce (mkA key nonce b) = b := by
  have hl := mkA_len key nonce b hk hn
  have hsl := skA_len key nonce b.length hk hn
  have e : mkA key nonce (mkA key nonce b) = xrA (skA key nonce b.length) (mkA key nonce b) := by
    show xrA (skA key nonce (mkA key nonce b).length) (mkA key nonce b) = _
    rw [hl]
  rw [e, xr_com _ _ b.length hsl hl]
  show xrA (xrA (skA key nonce b.length) b) (skA key nonce b.length) = b
  rw [xr_com (skA key nonce b.length) b b.length hsl rfl]
  exact xr_xr b _ b.length rfl hsl
/-- A shorter stream is a longer one's beginning. -/
theorem sk_pre (key nonce : List UInt8) (n d : Nat) (hk : key.length = 16) (hn : nonce.length = 8) : (skA key nonce (n + d)).take n = skA key nonce n := by
  unfold skA
  rw [List.take_take, Nat.min_eq_left (by omega)]
  obtain ⟨e, he⟩ : ∃ e, (n + d + 15) / 16 = (n + 15) / 16 + e := ⟨(n + d + 15) / 16 - (n + 15) / 16, by omega⟩
  rw [he]
  obtain ⟨t, ht⟩ := skC_pre key nonce ((n + 15) / 16) e
  rw [← ht, List.take_append_of_le_length (by rw [skC_len key nonce _ hk hn]; omega)]

end Go.Proofs.Ytjohckgdbbhpdaa
