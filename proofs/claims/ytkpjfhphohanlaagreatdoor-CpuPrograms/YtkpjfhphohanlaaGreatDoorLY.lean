/- cpu: a text of a program, read (the program's Program). -/
import Derived.Test.YtkpjfhphohanlaaGreatDoorLP
import Derived.Test.YtkpjfhphohanlaaGreatDoorLQ
import Derived.Test.YtkpjfhphohanlaaGreatDoorNI
import Derived.Deep.AppendLies
import Derived.Deep.CutRange
set_option linter.unusedVariables false
set_option linter.unusedSimpArgs false
namespace Go.Proofs.YtkpjfhphohanlaaGreatDoor.JC
open Go.RowKit
open Go.Proofs.YtkpjfhphohanlaaGreatDoor.EC (row_lt heap_at rangeAt_below rangeAt_row ret_bool ret_i64 beq_int)

/-- Words in own memory. -/
def FU (base : Nat) (w : World) (v : Value) (ls : List Int) : Prop := w.ownsRow base 36 1 v ls.length (ls.map U)
theorem infoW : (Tryz.prog.info? 36).map (fun i => (i.zero, i.size, i.bytes)) = some (some (.int .u64 0), 1, 8) := by kernel_rfl
theorem FU.keep {base : Nat} {w w' : World} {v : Value} {ls : List Int} (h : FU base w v ls) (hk : ∀ j, v.ownBlock = some j → w'.heap[j]? = w.heap[j]?) : FU base w' v ls := by
  obtain ⟨h1, h2⟩ := h
  refine ⟨h1, ?_⟩
  rcases h2 with h2 | ⟨g, cap, cur, hv, hg, hh, r⟩
  · exact .inl h2
  · exact .inr ⟨g, cap, cur, hv, hg, (hk g (by rw [hv]; rfl)).trans hh, r⟩
theorem FU.below {base : Nat} {w w' : World} {v : Value} {ls : List Int} (h : FU base w v ls) (hb : Below w.heap.size w w') : FU base w' v ls :=
  h.keep fun j hj => hb.block _ (World.ownsRow.lt h j hj).2
theorem FU.form {base : Nat} {w : World} {v : Value} {ls : List Int} (h : FU base w v ls) : ∃ p cap, v = .slice p ls.length cap := by
  rcases h.2 with ⟨h1, h2⟩ | ⟨g, cap, cur, hv, _⟩
  · exact ⟨none, 0, by rw [h1, h2]⟩
  · exact ⟨_, cap, hv⟩
/-- append(s, x). -/
theorem wpList_appU {ops : Array Oper} {rest : List Oper} {o : Oper} {a : Act} {Q : Exit → Act → World → Prop} {W : World} (hgd : o.guard = none) (s x : Operand) (ho : o.op = .call { callee := .builtin .append, args := #[s, x], argTypes := #[22, 22] })
    (base : Nat) (v : Value) (l : List Int) (k : Int) (hs : a.eval s = v) (hx : a.eval x = .slice (some ⟨W.heap.size, 0, none⟩) 1 1) (hown : FU base W v l) (hl : l.length ≤ 1000000) (hbase : base ≤ W.heap.size)
    (h : ∀ b cap w', FU base w' (.slice (some ⟨b, 0, none⟩) (l.length + 1) cap) (l ++ [k]) → (W.alloc (.cells #[.int .u64 k] 36)).grownBy w' v.ownBlock → wpList Tryz.prog ops Q rest (a.put o.dst (.slice (some ⟨b, 0, none⟩) (l.length + 1) cap)) w') :
    wpList Tryz.prog ops Q (o :: rest) a (W.alloc (.cells #[.int .u64 k] 36)) := by
  obtain ⟨i0, hi, hz0, hz1, hz2⟩ := info_parts infoW
  refine wpList_append_lies _ hgd s x 22 ho base 36 i0 (.int .u64 0) 1 8 Tryz.underlying22 hi hz0 hz1 hz2 rfl (by decide) v _ _ hs (World.ownsRow.alloc hown _) ⟨W.heap.size, 0, none⟩ 1 1 [.int .u64 k] hx rfl (fun j u hu => ?_) (fun u hu => by simp at hu; subst hu; rfl) (by decide) (by unfold maxLen; omega) (by omega) (by simp; omega) (W.heap.size + 1) (by simp) ?_
  · rw [show (⟨W.heap.size, 0, none⟩ : Addr).add j = ⟨W.heap.size, 0 + j, none⟩ by unfold Addr.add; split <;> simp_all]
    exact rangeAt_row (cs := [.int .u64 k]) (heap_alloc_new _ _) j u hu
  intro b cap w' h1 h2 h3 h4
  refine h b cap w' ?_ h2
  unfold FU
  rw [List.length_append, List.map_append]
  simpa [U] using h1
/-- What Program answers. -/
structure PgEnd (base : Nat) (s : List UInt8) (w : World) (e : Ending) : Prop where
  big : 512 < (lns s).length → e = .returned (.tuple #[.slice none 0 0, .int .i64 0, .int .i64 3])
  ok : (lns s).length ≤ 512 → okL (lns s) = true → ∃ v, e = .returned (.tuple #[v, .int .i64 0, .int .i64 0]) ∧ FU base w v (gd (lns s))
  bad : (lns s).length ≤ 512 → okL (lns s) = false → e = .returned (.tuple #[.slice none 0 0, .int .i64 ((gd (lns s)).length : Int), .int .i64 4])
/-- How far a text is read. -/
structure Pg (s r : List UInt8) (D : List Int) : Prop where
  g : gd (lns s) = D ++ gd (lns r)
  o : okL (lns s) = okL (lns r)
  n : D.length + (lns r).length = (lns s).length
  l : r.length ≤ s.length
theorem pg_0 (s : List UInt8) : Pg s s [] := ⟨rfl, rfl, by simp, Nat.le_refl _⟩
theorem pg_step {s r : List UInt8} {D : List Int} {i : Ins} (h : Pg s r D) (hr : r ≠ []) (hu : unt (ct1 10 r) = some i) : Pg s (ct2 10 r) (D ++ [wrd i]) := by
  have hc := lns_cut hr
  have hg := h.g
  have ho := h.o
  have hn := h.n
  rw [hc] at hg ho hn
  refine ⟨?_, ?_, ?_, Nat.le_trans (ct2_len 10 r) h.l⟩
  · rw [hg]; show D ++ (match unt (ct1 10 r) with | some i => wrd i :: gd (lns (ct2 10 r)) | none => []) = _; rw [hu]; simp
  · rw [ho]; unfold okL; rw [List.all_cons, hu]; rfl
  · simp at hn ⊢; omega
theorem pg_bad {s r : List UInt8} {D : List Int} (h : Pg s r D) (hr : r ≠ []) (hu : unt (ct1 10 r) = none) : gd (lns s) = D ∧ okL (lns s) = false := by
  have hc := lns_cut hr
  have hg := h.g
  have ho := h.o
  rw [hc] at hg ho
  constructor
  · rw [hg]; show D ++ (match unt (ct1 10 r) with | some i => wrd i :: gd (lns (ct2 10 r)) | none => []) = _; rw [hu]; simp
  · rw [ho]; unfold okL; rw [List.all_cons, hu]; rfl
theorem pg_end {s : List UInt8} {D : List Int} (h : Pg s [] D) : gd (lns s) = D ∧ okL (lns s) = true := by
  have hg := h.g
  have ho := h.o
  constructor
  · rw [hg]; show D ++ [] = D; simp
  · rw [ho]; rfl
theorem unt_wf {s : List UInt8} {i : Ins} (h : unt s = some i) : iwf i := by
  unfold unt at h; split at h
  · cases h; exact rd_wf s
  · cases h
theorem pg_no {base : Nat} {s : List UInt8} {W : World} {D : List Int} (h : (lns s).length ≤ 512) (hg : gd (lns s) = D) (ho : okL (lns s) = false) : PgEnd base s W (.returned (.tuple #[.slice none 0 0, .int .i64 (D.length : Int), .int .i64 4])) :=
  ⟨fun h2 => absurd h2 (by omega), fun _ h2 => absurd (ho.symm.trans h2) (by decide), fun _ _ => by rw [hg]⟩
/-- How long a string is. -/
def slen (v : Value) : Nat := match v with | .string b => b.size | _ => 0
set_option maxHeartbeats 1000000 in
set_option maxRecDepth 100000 in
theorem prog_any (s : List UInt8) (hs : s.length ≤ 1000000) (w : World) (hG : GV w) : Calls Tryz.prog 5 #[sV s] w fun e w' => PgEnd w.heap.size s w' e ∧ Below w.heap.size w w' := by
  have hLN := fun W => linesOf_any s hs W
  have HGV : Hid (∀ W, Below w.heap.size w W → GV W) := fun W hW => hG.below hW
  obtain ⟨S, hS⟩ : ∃ S : ByteArray, S = ⟨s.toArray⟩ := ⟨_, rfl⟩
  unfold sV at hLN ⊢
  rw [← hS] at hLN ⊢
  have HS : Hid _ := hS
  obtain ⟨ZI, hZI⟩ : ∃ ZI : List Value, ZI = iL iZ := ⟨_, rfl⟩
  have hzi : ∀ W, (zeroValue 41).run Tryz.prog W = .ok (.agg ZI.toArray) W := fun W => by rw [hZI]; exact ins_zero W
  have HII : Hid (∀ L : List Value, L.length = 5 → (Tryz.prog.info? 41).map (·.size) = some L.toArray.size) := fun L h => by rw [List.size_toArray, h]; exact ins_info iZ
  have HII2 : Hid (∀ L : List Value, L.length = 5 → (Tryz.prog.info? 41).map (·.size) = some L.length) := fun L h => by rw [h]; exact ins_info iZ
  have HZN : Hid (ZI.length = 5) := by rw [hZI]; rfl
  have HZ1 : Hid (ZI.toArray.all (·.oneCell') = true) := by show _ = _; rw [hZI]; exact iL_one _
  have HZA : Hid _ := hZI
  clear hS hG hZI
  go_enter Tryz.func5, Tryz.ntmps5
  go_wp2
  go_step3
  go_wp2_with fail
  refine Calls.mono (hLN _) ?_
  rintro e wq ⟨rfl, rfl⟩
  clear hLN
  by_cases hbig : 512 < (lns s).length
  · have hbi : (512 : Int) < (lns s).length := by omega
    go_wp2
    try rw [Exit.noGoto_ret]
    go_ret3
    exact ⟨⟨fun _ => rfl, fun h => absurd h (by omega), fun h => absurd h (by omega)⟩, Below.refl _ _⟩
  · have hbi : ¬ (512 : Int) < (lns s).length := by omega
    go_wp2
    go_step3
    go_wp2
    go_loopw [5, 6] (fun v r wr => ∃ (D : List Int) (l : List UInt8), r = .string ⟨l.toArray⟩ ∧ Pg s l D ∧ FU w.heap.size wr v D ∧ Below w.heap.size w wr) (fun _ r _ => slen r)
    case atStart => exact ⟨[], s, by rw [HS.out], pg_0 s, ⟨rfl, .inl ⟨rfl, rfl⟩⟩, Below.refl _ _⟩
    case round =>
      obtain ⟨D, l, rfl, hP, hF, hb⟩ := hrel
      have HF : Hid (FU w.heap.size wr u5 D) := hF
      have HB : Hid (Below w.heap.size w wr) := hb
      have hDL : D.length ≤ 512 := by have := hP.n; omega
      have hll : l.length ≤ 1000000 := by have := hP.l; omega
      by_cases hl : l = []
      · subst hl
        obtain ⟨hg, ho⟩ := pg_end hP
        have HE : Hid (PgEnd w.heap.size s wr (.returned (.tuple #[u5, .int .i64 0, .int .i64 0]))) := ⟨fun h => absurd h hbig, fun _ _ => ⟨_, rfl, by rw [hg]; exact HF.out⟩, fun _ h => by rw [ho] at h; cases h⟩
        clear hP hF hb hg ho hll
        go_wp2
        try rw [Exit.noGoto_ret]
        go_ret3
        exact ⟨HE.out, HB.out⟩
      · have hbn : (l == []) = false := by rw [beq_eq_false_iff_ne]; exact hl
        have HP : Hid _ := hP
        have HSL : Hid ((ct2 10 l).length < l.length) := ct2_lt 10 l hl
        have HL : Hid (l ≠ []) := hl
        have hC := fun W => cut_any l 10 (by omega) W
        have hU := fun W (hW : GV W) => untext_any (ct1 10 l) (by have := ct1_len 10 l; omega) W hW
        unfold sV at hC hU
        clear hP hF hb hll
        go_wp2_with fail
        refine Calls.mono (hC _) ?_
        rintro e wq ⟨⟨cb, rfl⟩, nq, rfl⟩
        have HB1 : Hid (Below w.heap.size w (wr.drewN nq)) := HB.out.trans ((below_drewN wr nq).mono HB.out.size)
        have HF1 : Hid (FU w.heap.size (wr.drewN nq) u5 D) := FU.below HF.out (below_drewN wr nq)
        clear hC HB HF
        generalize wr.drewN nq = w1 at *
        go_wp2_with fail
        refine Calls.mono (hU _ (HGV.out _ HB1.out)) ?_
        rintro e X1 ⟨rfl, hb1⟩
        clear hU
        have HB2 : Hid _ := HB1.out.trans (hb1.mono HB1.out.size)
        have HF2 : Hid (FU w.heap.size X1 u5 D) := FU.below HF1.out hb1
        clear hb1 HB1 HF1
        have HQ : Hid ((X1.alloc (.cells ZI.toArray 41 (0, 0))).heap[X1.heap.size]? = some (.cells ZI.toArray 41 (0, 0))) := heap_alloc_new _ _
        cases hu : unt (ct1 10 l) with
        | none =>
          obtain ⟨hg, ho⟩ := pg_bad HP.out HL.out hu
          have HE : Hid (∀ W, PgEnd w.heap.size s W (.returned (.tuple #[.slice none 0 0, .int .i64 (D.length : Int), .int .i64 4]))) := fun W => pg_no (by omega) hg ho
          have hIR : insRes none = .tuple #[.agg (iL iZ).toArray, .int .i64 4] := rfl
          rw [hIR]
          have HZ5 : Hid ((iL iZ).toArray = ZI.toArray) := by show _ = _; rw [HZA.out]
          rw [HZ5.out]
          obtain ⟨pv5, cap5, hv5⟩ := FU.form HF2.out
          subst hv5
          clear hg ho hu hIR HP HL HSL HF2
          go_upto_region 8 with (refine wpList_strL rfl 41 _ _ rfl X1.heap.size ZI.toArray rfl rfl 41 ZI.toArray HQ.out (HII.out ZI HZN.out) rfl HZ1.out ?_; intro Y eZ; have eY : Hid _ := eZ; clear eZ)
          obtain ⟨pY, rY⟩ := put_row X1 ZI ZI 41
          rw [← eY.out] at pY rY
          have HBY : Hid (Below w.heap.size w Y) := HB2.out.trans (pY.mono HB2.out.size)
          clear eY pY rY HQ HB2
          go_wp2
          try rw [Exit.noGoto_ret]
          go_ret3
          exact ⟨HE.out _, HBY.out⟩
        | some i =>
          have hm := (unt_some hu).1
          have HPS : Hid _ := pg_step HP.out HL.out hu
          have hE := fun W => enc_ok i (unt_wf hu) hm W
          have hIR : insRes (some i) = .tuple #[.agg (iL i).toArray, .int .i64 0] := rfl
          rw [hIR]
          rw [show iV i = .agg (iL i).toArray from rfl] at hE
          have HLN : Hid ((iL i).length = 5) := rfl
          have HL1 : Hid ((iL i).toArray.all (·.oneCell') = true) := iL_one i
          clear hu hIR hm HP HL
          generalize iL i = IL at *
          generalize wrd i = WD at *
          go_upto_region 8 with (refine wpList_strL rfl 41 _ _ rfl X1.heap.size IL.toArray rfl rfl 41 ZI.toArray HQ.out (HII.out IL HLN.out) (by simp [HZN.out, HLN.out]) HL1.out ?_; intro Y eZ; have eY : Hid _ := eZ; clear eZ)
          obtain ⟨pY, rY⟩ := put_row X1 ZI IL 41
          rw [← eY.out] at pY rY
          have HBY : Hid (Below w.heap.size w Y) := HB2.out.trans (pY.mono HB2.out.size)
          have HFY : Hid (FU w.heap.size Y u5 D) := FU.below HF2.out pY
          have HRY : Hid _ := rY
          clear eY pY rY HQ HB2 HF2
          go_wp2_with (refine wpList_load_mid rfl 41 _ rfl X1.heap.size 0 rfl IL _ (rangeAt_row HRY.out) Tryz.underlying41 rfl (HII2.out IL HLN.out) ?_)
          refine Calls.mono (hE _) ?_
          rintro e X3 ⟨rfl, hb3⟩
          have HB3 : Hid _ := HBY.out.trans (hb3.mono HBY.out.size)
          have HF3 : Hid (FU w.heap.size X3 u5 D) := FU.below HFY.out hb3
          have hsz := HB3.out.size
          clear hb3 HBY HFY HRY hE
          go_wp2_with (at_builtin; refine wpList_appU rfl (.tmp 39) (.tmp 41) rfl w.heap.size _ D WD rfl rfl HF3.out (by omega) hsz ?_; intro g3 cap3 w3 hf3 hgr3)
          exact ⟨⟨D ++ [WD], ct2 10 l, rfl, HPS.out, hf3, (HB3.out.alloc hsz _).grown hgr3 (by simp; omega) (fun j hj => (World.ownsRow.lt HF3.out j hj).1)⟩, by have := HSL.out; simp [slen, ByteArray.size]; omega⟩
end Go.Proofs.YtkpjfhphohanlaaGreatDoor.JC
