/- report: a text's parts, as the document takes them. -/
import Derived.Test.YtpklboicgjpmeaaDoorTb
import Derived.Deep.AppendLies
set_option linter.unusedVariables false
set_option linter.unusedSimpArgs false
namespace Go.Proofs.YtpklboicgjpmeaaDoor.RB
open Go.RowKit
open Go.Proofs.YtpklboicgjpmeaaDoor.JC (splitR splitR_no splitR_at splitR_len)

theorem str_at (s : List UInt8) (k : Nat) (hk : k < s.length) (w : World) : (Instr.index 9 (.string ⟨s.toArray⟩) (.int .i64 (k : Int))).run Tryd.prog w = .ok (.int .u8 ((s[k]).toNat : Int)) w := by
  have h2 : (0 : Int) ≤ (k : Int) ∧ (k : Int) < ((⟨s.toArray⟩ : ByteArray).size : Int) := by simp [ByteArray.size]; omega
  rw [run_index_string w 9 ⟨s.toArray⟩ .i64 _ (by kernel_rfl), dif_pos h2]
  congr 2
/-- Strings in own memory. -/
def FSt (base : Nat) (w : World) (v : Value) (ls : List (List UInt8)) : Prop := w.ownsRow base 9 1 v ls.length (ls.map sV)
theorem infoS : (Tryd.prog.info? 9).map (fun i => (i.zero, i.size, i.bytes)) = some (some (.string ⟨#[]⟩), 1, 16) := by kernel_rfl
theorem adds_none (b o j : Nat) : (⟨b, o, none⟩ : Addr).add j = ⟨b, o + j, none⟩ := by unfold Addr.add; split <;> simp_all
/-- append(s, x). -/
theorem wpList_appS {ops : Array Oper} {rest : List Oper} {o : Oper} {a : Act} {Q : Exit → Act → World → Prop} {W : World} {xv : Value} (hgd : o.guard = none) (s x : Operand) (ho : o.op = .call { callee := .builtin .append, args := #[s, x], argTypes := #[56, 56] })
    (base : Nat) (v : Value) (l : List (List UInt8)) (k : List UInt8) (hxv : xv = sV k) (hs : a.eval s = v) (hx : a.eval x = .slice (some ⟨W.heap.size, 0, none⟩) 1 1) (hown : FSt base W v l) (hl : l.length ≤ 1000001) (hbase : base ≤ W.heap.size)
    (h : ∀ b cap w', FSt base w' (.slice (some ⟨b, 0, none⟩) (l.length + 1) cap) (l ++ [k]) → (W.alloc (.cells #[xv] 9)).grownBy w' v.ownBlock → wpList Tryd.prog ops Q rest (a.put o.dst (.slice (some ⟨b, 0, none⟩) (l.length + 1) cap)) w') :
    wpList Tryd.prog ops Q (o :: rest) a (W.alloc (.cells #[xv] 9)) := by
  obtain ⟨i0, hi, hz0, hz1, hz2⟩ := info_parts infoS
  refine wpList_append_lies _ hgd s x 56 ho base 9 i0 (.string ⟨#[]⟩) 1 16 Tryd.underlying56 hi hz0 hz1 hz2 rfl (by decide) v _ _ hs (World.ownsRow.alloc hown _) ⟨W.heap.size, 0, none⟩ 1 1 [xv] hx rfl (fun j u hu => ?_) (fun u hu => by simp at hu; subst hu; rw [hxv]; rfl) (by decide) (by unfold maxLen; omega) (by omega) (by simp; omega) (W.heap.size + 1) (by simp) ?_
  · rw [adds_none]
    exact rangeAt_row (cs := [xv]) (heap_alloc_new _ _) j u hu
  intro b cap w' h1 h2 h3 h4
  refine h b cap w' ?_ h2
  unfold FSt
  rw [List.length_append, List.map_append, List.map_cons, List.map_nil, ← hxv]
  exact h1
theorem ext_mid (l : List UInt8) (a k : Nat) : (⟨l.toArray⟩ : ByteArray).extract a k = ⟨((l.drop a).take (k - a)).toArray⟩ := by
  have h := Lib.extract_data ⟨l.toArray⟩ a k
  apply ByteArray.ext
  apply Array.ext'
  rw [h]
/-- How far the parts are taken. -/
structure Sp (s : List UInt8) (k t : Nat) (L : List (List UInt8)) : Prop where
  le : t ≤ k
  sp : splitR s = L ++ splitR (s.drop t)
  no : (32 : UInt8) ∉ (s.drop t).take (k - t)
structure SpE (s : List UInt8) (k t : Nat) (L : List (List UInt8)) : Prop where
  a : L.length ≤ k
  b : k ≤ s.length → Sp s k t L
  c : k = s.length + 1 → splitR s = L
theorem spE_0 (s : List UInt8) : SpE s 0 0 [] := ⟨Nat.le_refl _, fun _ => ⟨Nat.le_refl _, rfl, by simp⟩, fun h => by omega⟩
theorem drop_at (s : List UInt8) {t k : Nat} (h : t ≤ k) (hk : k < s.length) : s.drop t = (s.drop t).take (k - t) ++ s[k] :: s.drop (k + 1) := by
  have h1 : (s.drop t).drop (k - t) = s.drop k := by rw [List.drop_drop]; congr 1; omega
  conv => lhs; rw [← List.take_append_drop (k - t) (s.drop t), h1, List.drop_eq_getElem_cons hk]
theorem spE_end {s : List UInt8} {t : Nat} {L : List (List UInt8)} (h : SpE s s.length t L) : t ≤ s.length ∧ SpE s (s.length + 1) (s.length + 1) (L ++ [(s.drop t).take (s.length - t)]) := by
  have h0 := h.a
  have h1 := h.b
  clear h
  obtain ⟨hle, hsp, hno⟩ := h1 (Nat.le_refl _)
  refine ⟨hle, by simp; omega, fun h => by omega, fun _ => ?_⟩
  rw [List.take_of_length_le (by simp)] at hno ⊢
  rw [hsp, splitR_no hno]
theorem spE_blank {s : List UInt8} {k t : Nat} {L : List (List UInt8)} (hk : k < s.length) (hb : s[k] = 32) (h : SpE s k t L) : t ≤ k ∧ SpE s (k + 1) (k + 1) (L ++ [(s.drop t).take (k - t)]) := by
  have h0 := h.a
  have h1 := h.b
  clear h
  obtain ⟨hle, hsp, hno⟩ := h1 (by omega)
  refine ⟨hle, by simp; omega, fun h => ⟨Nat.le_refl _, ?_, by simp⟩, fun h => by omega⟩
  rw [hsp]
  conv => lhs; rw [drop_at s hle hk, hb, splitR_at _ hno]
  simp
theorem spE_go {s : List UInt8} {k t : Nat} {L : List (List UInt8)} (hk : k < s.length) (hb : s[k] ≠ 32) (h : SpE s k t L) : SpE s (k + 1) t L := by
  have h0 := h.a
  have h1 := h.b
  clear h
  obtain ⟨hle, hsp, hno⟩ := h1 (by omega)
  refine ⟨by omega, fun h => ⟨by omega, hsp, ?_⟩, fun h => by omega⟩
  have e : (s.drop t).take (k + 1 - t) = (s.drop t).take (k - t) ++ [s[k]] := by
    rw [show k + 1 - t = (k - t) + 1 by omega, List.take_succ_eq_append_getElem (by simp; omega)]
    congr 2
    rw [List.getElem_drop]; congr 1; omega
  rw [e]
  intro hm
  rcases List.mem_append.1 hm with hm | hm
  · exact hno hm
  · exact hb (List.mem_singleton.1 hm).symm
set_option maxHeartbeats 2000000 in
set_option maxRecDepth 100000 in
theorem rcut_any (s : List UInt8) (hl : s.length ≤ 1000000) (w : World) : Calls Tryd.prog 37 #[sV s] w fun e w' => ∃ v, e = .returned v ∧ FSt w.heap.size w' v (splitR s) ∧ Below w.heap.size w w' := by
  obtain ⟨S, hS⟩ : ∃ S : ByteArray, S = ⟨s.toArray⟩ := ⟨_, rfl⟩
  have hsz : S.size = s.length := by rw [hS]; simp [ByteArray.size]
  have HIX : Hid (∀ (k : Nat) (hk : k < s.length) (W : World), (Instr.index 9 (.string S) (.int .i64 (k : Int))).run Tryd.prog W = .ok (.int .u8 ((s[k]).toNat : Int)) W) := fun k hk W => by rw [hS]; exact str_at s k hk W
  have HEX : Hid (∀ a k, .string (S.extract a k) = sV ((s.drop a).take (k - a))) := fun a k => by rw [hS, ext_mid]; rfl
  unfold sV
  rw [← hS]
  clear hS
  go_enter Tryd.func37, Tryd.ntmps37
  go_wp2
  go_loopw [3, 4, 5] (fun v a i wr => ∃ (k t : Nat) (L : List (List UInt8)), k ≤ s.length + 1 ∧ SpE s k t L ∧ FSt w.heap.size wr v L ∧ a = .int .i64 t ∧ i = .int .i64 k ∧ Below w.heap.size w wr) (fun _ _ i _ => s.length + 1 - (intOf i).toNat)
  case atStart => exact ⟨0, 0, [], by omega, spE_0 s, ⟨rfl, .inl ⟨rfl, rfl⟩⟩, rfl, rfl, Below.refl _ _⟩
  case round =>
    obtain ⟨k, t, L, hk, hE, hown, rfl, rfl, hbel⟩ := hrel
    have hwsz := hbel.size
    have HO : Hid _ := hown
    have HLE : Hid _ := hE.a
    clear hown
    by_cases hle : k ≤ s.length
    · by_cases hen : k = s.length
      · obtain ⟨ht, hE2⟩ := spE_end (hen ▸ hE)
        have HE2 : Hid _ := hE2
        have HX : Hid _ := HEX.out t s.length
        subst hen
        clear hE hE2 HIX HEX
        have i1 : (s.length : Int) ≤ S.size := by omega
        have i2 : ((s.length : Int) == (S.size : Int)) = true := by rw [beq_iff_eq]; omega
        have i3 : (t : Int) ≤ s.length := by omega
        generalize (s.drop t).take (s.length - t) = P at *
        go_wp2_with (at_builtin; refine wpList_appS rfl (.tmp 22) (.tmp 27) rfl w.heap.size _ L P HX.out rfl rfl HO.out (by have := HLE.out; omega) hwsz ?_; intro g3 cap3 w3 hf3 hgr3)
        exact ⟨⟨s.length + 1, s.length + 1, L ++ [P], by omega, HE2.out, hf3, by go_num, by go_num, (hbel.alloc hwsz _).grown hgr3 (by simp; omega) (fun j hj => (World.ownsRow.lt HO.out j hj).1)⟩, by first | (simp [intOf]; done) | (simp [intOf]; omega)⟩
      · have hlt : k < s.length := by omega
        have i1 : (k : Int) ≤ S.size := by omega
        have i2 : ((k : Int) == (S.size : Int)) = false := by rw [beq_eq_false_iff_ne]; omega
        have hi := fun W => HIX.out k hlt W
        have HX : Hid _ := HEX.out t k
        by_cases h32 : s[k] = 32
        · obtain ⟨ht, hE2⟩ := spE_blank hlt h32 hE
          have HE2 : Hid _ := hE2
          have hi0 : ∀ W, (Instr.index 9 (.string S) (.int .i64 (k : Int))).run Tryd.prog W = .ok (.int .u8 32) W := fun W => by rw [hi W, h32]; rfl
          have i3 : (t : Int) ≤ k := by omega
          clear hE hE2 HIX HEX hi h32
          generalize (s.drop t).take (k - t) = P at *
          go_wp2_with (at_builtin; refine wpList_appS rfl (.tmp 22) (.tmp 27) rfl w.heap.size _ L P HX.out rfl rfl HO.out (by have := HLE.out; omega) hwsz ?_; intro g3 cap3 w3 hf3 hgr3)
          exact ⟨⟨k + 1, k + 1, L ++ [P], by omega, HE2.out, hf3, by go_num, by go_num, (hbel.alloc hwsz _).grown hgr3 (by simp; omega) (fun j hj => (World.ownsRow.lt HO.out j hj).1)⟩, by first | (simp [intOf]; done) | (simp [intOf]; omega)⟩
        · have HE2 : Hid _ := spE_go hlt h32 hE
          have hne : (s[k]).toNat ≠ 32 := fun e => h32 (UInt8.toNat.inj (by rw [e]; rfl))
          generalize (s[k]).toNat = C at *
          have i4 : ((C : Int) == 32) = false := by rw [beq_eq_false_iff_ne]; omega
          clear hE HIX HEX HX h32 hne
          go_wp2
          exact ⟨⟨k + 1, t, L, by omega, HE2.out, HO.out, rfl, by go_num, hbel⟩, by first | (simp [intOf]; done) | (simp [intOf]; omega)⟩
    · have hke : k = s.length + 1 := by omega
      have HE2 : Hid _ := hE.c hke
      have i1 : ¬ (k : Int) ≤ S.size := by omega
      clear hE HIX HEX
      go_wp2
      go_ret
      exact ⟨_, rfl, by rw [HE2.out]; exact HO.out, hbel⟩
end Go.Proofs.YtpklboicgjpmeaaDoor.RB
