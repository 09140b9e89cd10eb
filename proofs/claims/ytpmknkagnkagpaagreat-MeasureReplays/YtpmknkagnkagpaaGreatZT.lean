/- measure: the statements' distinct, the document's Same. -/
import Derived.Test.YtpmknkagnkagpaaGreatZS
import Derived.Test.YtpmknkagnkagpaaGreatZP
set_option linter.unusedVariables false
set_option linter.unusedSimpArgs false
namespace Go.Proofs.YtpmknkagnkagpaaGreat.ZC
open Go.RowKit

theorem eql_d (w : World) (a b : List UInt8) (ha : a.length = 32) (hb : b.length = 32) : (binOp .eql 24 (.agg (a.map B8).toArray) (.agg (b.map B8).toArray)).run Tryz.prog w = .ok (.bool (a == b)) w :=
  run_eql_bytes (P := Tryz.prog) w 24 5 32 Tryz.underlying24 Tryz.underlying5 PC.size_u8 a b ha hb
theorem neq_rd (w : World) (a b : Rd) (ha : a.ok) (hb : b.ok) : (binOp .neq 33 (.agg (rdL a).toArray) (.agg (rdL b).toArray)).run Tryz.prog w = .ok (.bool (!rdEq a b)) w := by
  rw [run_neq_struct, eq_rd w a b ha hb]
  rfl
theorem at31 (l : List UInt8) (h : l.length = 32) : (l.map B8)[31]? = some (B8 (l.getD 31 0)) := by
  have h31 : 31 < l.length := by omega
  rw [List.getElem?_map, List.getD, List.getElem?_eq_getElem h31]; rfl
/-- How distinct ends. -/
def DsEnd (D : List (List UInt8)) (w : World) (e : Ending) (w' : World) : Prop := ∃ b : Bool, e = .returned (.bool b) ∧ (b = true → dst D) ∧ Below w.heap.size w w'
/-- The document's Same. -/
def smeL (l k : List Rd) : Bool := decide (l.length = k.length) && (List.range l.length).all fun i => match l[i]?, k[i]? with
  | some a, some b => rdEq a b
  | _, _ => true
theorem smeL_iff (l k : List Rd) : smeL l k = true ↔ l = k := by
  unfold smeL
  rw [Bool.and_eq_true, decide_eq_true_eq, List.all_eq_true]
  constructor
  · rintro ⟨h1, h2⟩
    apply List.ext_getElem h1
    intro i hi hk
    have := h2 i (by simpa using hi)
    rw [List.getElem?_eq_getElem hi, List.getElem?_eq_getElem hk] at this
    exact (rdEq_iff _ _).1 this
  · rintro rfl
    refine ⟨rfl, fun i hi => ?_⟩
    have hi' : i < l.length := by simpa using hi
    rw [List.getElem?_eq_getElem hi']
    exact rdEq_self _
theorem smeL_no {l k : List Rd} {i : Nat} {a b : Rd} (ha : l[i]? = some a) (hb : k[i]? = some b) (h : rdEq a b = false) : smeL l k = false := by
  cases hs : smeL l k with
  | false => rfl
  | true =>
    rw [(smeL_iff l k).1 hs, hb] at ha
    obtain rfl : b = a := by simpa using ha
    rw [rdEq_self] at h; cases h
theorem smeL_yes {l k : List Rd} (hl : l.length = k.length) (h : ∀ (i : Nat) (a b : Rd), l[i]? = some a → k[i]? = some b → rdEq a b = true) : smeL l k = true := by
  rw [smeL_iff]
  apply List.ext_getElem hl
  intro i hi hk
  exact (rdEq_iff _ _).1 (h i _ _ (List.getElem?_eq_getElem hi) (List.getElem?_eq_getElem hk))
set_option maxHeartbeats 2000000 in
set_option maxRecDepth 100000 in
theorem rsame_any (v u : Value) (l k : List Rd) (w : World) (hl : l.length < 1000000) (hv : HR w v l) (hu : HR w u k) : Calls Tryz.prog 18 #[v, u] w fun e w' => e = .returned (.bool (smeL l k)) ∧ Below w.heap.size w w' := by
  obtain ⟨p, cap, rfl, hrow⟩ := hv
  obtain ⟨p', cap', rfl, hrow'⟩ := hu
  obtain ⟨M, hM⟩ : ∃ M, M = smeL l k := ⟨_, rfl⟩
  rw [← hM]
  by_cases hlk : l.length = k.length
  · have HNO : Hid (∀ (i : Nat) (a b : Rd), l[i]? = some a → k[i]? = some b → rdEq a b = false → M = false) := fun i a b h1 h2 h3 => by rw [hM]; exact smeL_no h1 h2 h3
    have HYES : Hid ((∀ (i : Nat) (a b : Rd), l[i]? = some a → k[i]? = some b → rdEq a b = true) → M = true) := fun h => by rw [hM]; exact smeL_yes hlk h
    have HR1 : Hid (∀ (i : Nat) (r : Rd), l[i]? = some r → r.ok ∧ ∃ b o, p = some ⟨b, o, none⟩ ∧ w.rangeAt b (o + i * 172) (rdL r)) := hrow
    have HR2 : Hid (∀ (i : Nat) (r : Rd), k[i]? = some r → r.ok ∧ ∃ b o, p' = some ⟨b, o, none⟩ ∧ w.rangeAt b (o + i * 172) (rdL r)) := hrow'
    rw [← hlk]
    obtain ⟨n, hn⟩ : ∃ n, n = l.length := ⟨_, rfl⟩
    have HN2 : Hid (n = k.length) := hn.trans hlk
    rw [← hn] at hl ⊢
    have HN : Hid (n = l.length) := hn
    have hnn : ((n : Int) != (n : Int)) = false := by simp
    clear hrow hrow' hM hn hlk
    go_enter Tryz.func18, Tryz.ntmps18
    go_wp2
    go_loopw [5] (fun v wr => ∃ i : Nat, i ≤ n ∧ v = .int .i64 i ∧ Below w.heap.size w wr ∧ ∀ (j : Nat) (a b : Rd), j < i → l[j]? = some a → k[j]? = some b → rdEq a b = true) (fun v _ => n - (intOf v).toNat)
    case atStart => exact ⟨0, Nat.zero_le _, rfl, Below.refl _ _, fun j a b h => by omega⟩
    case round =>
      obtain ⟨i, hi, rfl, hb, hd⟩ := hrel
      have HB : Hid (Below w.heap.size w wr) := hb
      have HBD : Hid (Below w.heap.size w wr.drew) := hb.drew
      have HD : Hid (∀ (j : Nat) (a b : Rd), j < i → l[j]? = some a → k[j]? = some b → rdEq a b = true) := hd
      clear hb hd
      by_cases hlt : i < n
      · have hiI : (i : Int) < (n : Int) := by omega
        obtain ⟨a, ha⟩ : ∃ a, l[i]? = some a := ⟨_, List.getElem?_eq_getElem (by have := HN.out; omega)⟩
        obtain ⟨c, hc⟩ : ∃ c, k[i]? = some c := ⟨_, List.getElem?_eq_getElem (by have := HN2.out; omega)⟩
        obtain ⟨oka, b1, o1, hp1, hr1⟩ := HR1.out i a ha
        obtain ⟨okc, b2, o2, hp2, hr2⟩ := HR2.out i c hc
        subst hp1 hp2
        have HA : Hid (w.rangeAt b1 (o1 + i * 172) (rdL a)) := hr1
        have HC : Hid (w.rangeAt b2 (o2 + i * 172) (rdL c)) := hr2
        have HAI : Hid _ := info172 (rdL a) (rdL_len oka)
        have HCI : Hid _ := info172 (rdL c) (rdL_len okc)
        obtain ⟨q, hq⟩ : ∃ q, q = rdEq a c := ⟨_, rfl⟩
        have HNQ : Hid (∀ W, (binOp .neq 33 (.agg (rdL a).toArray) (.agg (rdL c).toArray)).run Tryz.prog W = .ok (.bool (!q)) W) := fun W => by rw [hq]; exact neq_rd W a c oka okc
        have HF : Hid (q = false → M = false) := fun h => HNO.out i a c ha hc (by rw [← hq]; exact h)
        have HT : Hid (q = true → ∀ (j : Nat) (a b : Rd), j < i + 1 → l[j]? = some a → k[j]? = some b → rdEq a b = true) := fun h j x y hj hx hy => by
          rcases Nat.lt_or_ge j i with h1 | h1
          · exact HD.out j x y h1 hx hy
          · obtain rfl : j = i := by omega
            rw [ha] at hx; rw [hc] at hy
            obtain rfl : a = x := by simpa using hx
            obtain rfl : c = y := by simpa using hy
            rw [← hq]; exact h
        clear ha hc oka okc hr1 hr2 hq
        generalize rdL a = AL at *
        generalize rdL c = CL at *
        go_wp2
        refine wp_region_held_drew (S := fun X => Below w.heap.size w X) (by kernel_rfl) HBD.out (fun hHeld => ?_)
        generalize wr.drew = Y at *
        refine wpAnyH_take (i := 0) (oi := { dst := some 17, op := Go.Op.move (Go.Operand.tmp 0), type := 51, pos := _, after := #[], guard := none }) (v := .slice (some ⟨b1, o1, none⟩) n cap) rfl (by kernel_rfl) (by kernel_rfl) (by kernel_rfl) (fun _ _ _ h => h) (Or.inl ⟨by rfl, fun w' hw' => ?_⟩) hHeld ?_
        · first | (go_simp; done) | (go_simp; rfl)
        try simp only [Act.put, List.setIfInBounds_toArray, List.set_cons_zero, List.set_cons_succ]
        refine wpAnyH_take (i := 1) (oi := { dst := some 18, op := Go.Op.move (Go.Operand.tmp 5), type := 3, pos := _, after := #[], guard := none }) (v := .int .i64 (i : Int)) rfl (by kernel_rfl) (by kernel_rfl) (by kernel_rfl) (fun _ _ _ h => h) (Or.inl ⟨by rfl, fun w' hw' => ?_⟩) hHeld ?_
        · first | (go_simp; done) | (go_simp; rfl)
        try simp only [Act.put, List.setIfInBounds_toArray, List.set_cons_zero, List.set_cons_succ]
        refine wpAnyH_take (i := 2) (oi := { dst := some 19, op := Go.Op.indexAddr 51 (Go.Operand.tmp 17) (Go.Operand.tmp 18), type := 0, pos := _, after := #[{ on := 0, ground := Go.Ground.data }, { on := 1, ground := Go.Ground.data }], guard := none }) (v := .pointer (some ⟨b1, o1 + i * 172, none⟩)) rfl (by kernel_rfl) (by kernel_rfl) (by kernel_rfl) (fun _ _ _ h => h) (Or.inl ⟨by rfl, fun w' hw' => ?_⟩) hHeld ?_
        · first | (go_simp; done) | (go_simp; rfl)
        try simp only [Act.put, List.setIfInBounds_toArray, List.set_cons_zero, List.set_cons_succ]
        refine wpAnyH_take (i := 3) (oi := { dst := some 20, op := Go.Op.load 33 (Go.Operand.tmp 19), type := 33, pos := _, after := #[{ on := 2, ground := Go.Ground.data }], guard := none }) rfl (by kernel_rfl) (by kernel_rfl) (by kernel_rfl) (fun _ _ _ h => h) (yieldsIf_load_mid (by rfl) 33 (.tmp 19) rfl (b1) (o1 + i * 172) rfl (AL) _ (fun _ h => PC.rangeAt_below HA.out h) Tryz.underlying33 rfl HAI.out) hHeld ?_
        try simp only [Act.put, List.setIfInBounds_toArray, List.set_cons_zero, List.set_cons_succ]
        refine wpAnyH_take (i := 4) (oi := { dst := some 21, op := Go.Op.move (Go.Operand.tmp 1), type := 51, pos := _, after := #[], guard := none }) (v := .slice (some ⟨b2, o2, none⟩) n cap') rfl (by kernel_rfl) (by kernel_rfl) (by kernel_rfl) (fun _ _ _ h => h) (Or.inl ⟨by rfl, fun w' hw' => ?_⟩) hHeld ?_
        · first | (go_simp; done) | (go_simp; rfl)
        try simp only [Act.put, List.setIfInBounds_toArray, List.set_cons_zero, List.set_cons_succ]
        refine wpAnyH_take (i := 5) (oi := { dst := some 22, op := Go.Op.move (Go.Operand.tmp 5), type := 3, pos := _, after := #[], guard := none }) (v := .int .i64 (i : Int)) rfl (by kernel_rfl) (by kernel_rfl) (by kernel_rfl) (fun _ _ _ h => h) (Or.inl ⟨by rfl, fun w' hw' => ?_⟩) hHeld ?_
        · first | (go_simp; done) | (go_simp; rfl)
        try simp only [Act.put, List.setIfInBounds_toArray, List.set_cons_zero, List.set_cons_succ]
        refine wpAnyH_take (i := 6) (oi := { dst := some 23, op := Go.Op.indexAddr 51 (Go.Operand.tmp 21) (Go.Operand.tmp 22), type := 0, pos := _, after := #[{ on := 4, ground := Go.Ground.data }, { on := 5, ground := Go.Ground.data }], guard := none }) (v := .pointer (some ⟨b2, o2 + i * 172, none⟩)) rfl (by kernel_rfl) (by kernel_rfl) (by kernel_rfl) (fun _ _ _ h => h) (Or.inl ⟨by rfl, fun w' hw' => ?_⟩) hHeld ?_
        · first | (go_simp; done) | (go_simp; rfl)
        try simp only [Act.put, List.setIfInBounds_toArray, List.set_cons_zero, List.set_cons_succ]
        refine wpAnyH_take (i := 7) (oi := { dst := some 24, op := Go.Op.load 33 (Go.Operand.tmp 23), type := 33, pos := _, after := #[{ on := 6, ground := Go.Ground.data }], guard := none }) rfl (by kernel_rfl) (by kernel_rfl) (by kernel_rfl) (fun _ _ _ h => h) (yieldsIf_load_mid (by rfl) 33 (.tmp 23) rfl (b2) (o2 + i * 172) rfl (CL) _ (fun _ h => PC.rangeAt_below HC.out h) Tryz.underlying33 rfl HCI.out) hHeld ?_
        try simp only [Act.put, List.setIfInBounds_toArray, List.set_cons_zero, List.set_cons_succ]
        have hnq := HNQ.out
        refine wpAnyH_take (i := 8) (oi := { dst := some 25, op := Go.Op.binOp Go.BinOp.neq 33 (Go.Operand.tmp 20) (Go.Operand.tmp 24) 33, type := 4, pos := _, after := #[{ on := 3, ground := Go.Ground.data }, { on := 7, ground := Go.Ground.data }], guard := none }) (v := .bool (!q)) rfl (by kernel_rfl) (by kernel_rfl) (by kernel_rfl) (fun _ _ _ h => h) (Or.inl ⟨by rfl, fun w' hw' => ?_⟩) hHeld ?_
        · first | (go_simp; done) | (go_simp; rfl)
        try simp only [Act.put, List.setIfInBounds_toArray, List.set_cons_zero, List.set_cons_succ]
        refine wpAnyH_done (by kernel_rfl) ?_ _
        have HB3 : Hid (Below w.heap.size w Y) := hHeld
        clear hHeld hnq
        cases hqq : q with
        | false =>
          subst hqq
          have HMF : Hid (M = false) := HF.out rfl
          go_wp2
          go_ret
          exact ⟨by rw [HMF.out]; rfl, HB3.out⟩
        | true =>
          subst hqq
          go_wp2
          go_roundw
          case rel => exact ⟨i + 1, by omega, by go_num, HB3.out, HT.out rfl⟩
          case measure => simp [intOf]; omega
      · have hie : i = n := by omega
        subst hie
        have hiI : ¬ (i : Int) < (i : Int) := by omega
        have HMT : Hid (M = true) := HYES.out (fun j a b h1 h2 => HD.out j a b (by have := (List.getElem?_eq_some_iff.1 h1).1; have := HN.out; omega) h1 h2)
        go_wp2
        go_ret
        exact ⟨by rw [HMT.out]; rfl, HB.out⟩
  · have hne : ((l.length : Int) != (k.length : Int)) = true := by rw [bne_iff_ne]; omega
    have HMF : Hid (M = false) := by show _ = _; rw [hM]; unfold smeL; rw [decide_eq_false hlk, Bool.false_and]
    clear hrow hrow' hM hlk
    go_enter Tryz.func18, Tryz.ntmps18
    go_wp2
    go_ret
    exact ⟨by rw [HMF.out]; rfl, Below.refl _ _⟩
end Go.Proofs.YtpmknkagnkagpaaGreat.ZC
