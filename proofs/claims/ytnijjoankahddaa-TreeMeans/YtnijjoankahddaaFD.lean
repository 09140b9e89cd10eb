/- tree: the program's goUp. -/
import Derived.Test.YtnijjoankahddaaWu
import Derived.Deep.CutRange
set_option linter.unusedVariables false
set_option linter.unusedSimpArgs false
namespace Go.Proofs.Ytnijjoankahddaa.DC
open Go.RowKit

theorem wpList_store_segL {ops : Array Oper} {rest : List Oper} {op : Oper} {a : Act} {w : World} {Q : Exit → Act → World → Prop} (hgd : op.guard = none) (ty : TypeId) (x y : Operand) (ho : op.op = .store ty x y)
    (b o : Nat) (cells : Array Value) (cur : List Value) (t : TypeId) (hx : a.eval x = .pointer (some ⟨b, o, none⟩)) (hy : a.eval y = .agg cells)
    (hg : w.heap[b]? = some (.cells cur.toArray t (0, 0))) (hi : (Try.prog.info? ty).map (·.size) = some cells.size) (hfit : o + cells.size ≤ cur.length) (h1 : cells.all (·.oneCell') = true)
    (h : ∀ W', W' = w.setRow b (splice cur o cells.toList).toArray → wpList Try.prog ops Q rest (a.put op.dst undef) W') : wpList Try.prog ops Q (op :: rest) a w :=
  wpList_plain hgd fun _ hK => MC.wp_store_seg ty x y ho b o cells cur t hx hy hg hi hfit h1 (hK _ _ (h _ rfl))
theorem infoD (L : List Value) (h : L.length = 32) : (Try.prog.info? 23).map (·.size) = some L.length := R5.info32 L h
theorem infoDa (L : List Value) (h : L.length = 32) : (Try.prog.info? 23).map (·.size) = some L.toArray.size := R5.info32a _ (by simpa using h)
theorem bes_lt {j : Nat} (h : j < 256) : bes j < 256 := by unfold bes; split <;> omega
theorem run_stI (w : World) (b k : Nat) (OL : List Value) (t : TypeId) (hrow : w.heap[b]? = some (.cells OL.toArray t (0, 0))) (hk : k < OL.length) (x : Int) : (Instr.storeAt 3 (.pointer (some ⟨b, k, none⟩)) (.int .i64 x)).run Try.prog w = .ok () (w.setCell ⟨b, k, none⟩ (.int .i64 x)) := by
  have hc := cell_of_row w b k _ _ _ hrow
  rw [List.getElem?_toArray, List.getElem?_eq_getElem hk] at hc
  have hf := frozen_of_row _ _ k _ _ hrow
  generalize OL[k] = ov at *
  unfold Instr.storeAt Instr.sureAddr
  go_simp
theorem wp_stI {o : Oper} {a : Act} {w : World} {K : Act → World → Prop} {Q : Exit → Act → World → Prop} (x y : Operand) (ho : o.op = .store 3 x y)
    (b k : Nat) (v : Int) (hx : a.eval x = .pointer (some ⟨b, k, none⟩)) (hy : a.eval y = .int .i64 v) (OL : List Value) (t : TypeId) (hrow : w.heap[b]? = some (.cells OL.toArray t (0, 0))) (hk : k < OL.length)
    (h : K (a.put o.dst undef) (w.setCell ⟨b, k, none⟩ (.int .i64 v))) : o.wp Try.prog a w K Q := by
  unfold Oper.wp execOp
  simp only [ho, hx, hy, Sem.run_bind, run_stI w b k OL t hrow hk v, Result.andThen_ok]
  exact h
theorem wpList_stI {ops : Array Oper} {rest : List Oper} {o : Oper} {a : Act} {w : World} {Q : Exit → Act → World → Prop} (hgd : o.guard = none) (x y : Operand) (ho : o.op = .store 3 x y)
    (b k : Nat) (v : Int) (hx : a.eval x = .pointer (some ⟨b, k, none⟩)) (hy : a.eval y = .int .i64 v) (OL : List Value) (t : TypeId) (hrow : w.heap[b]? = some (.cells OL.toArray t (0, 0))) (hk : k < OL.length)
    (h : ∀ W', W' = w.setCell ⟨b, k, none⟩ (.int .i64 v) → wpList Try.prog ops Q rest (a.put o.dst undef) W') : wpList Try.prog ops Q (o :: rest) a w :=
  wpList_plain hgd fun _ hK => wp_stI x y ho b k v hx hy OL t hrow hk (hK _ _ (h _ rfl))
theorem wpList_store_dL {ops : Array Oper} {rest : List Oper} {o : Oper} {a : Act} {w : World} {Q : Exit → Act → World → Prop} (hgd : o.guard = none) (x y : Operand) (ho : o.op = .store 23 x y)
    (g : Nat) (L Z : List Value) (hx : a.eval x = .pointer (some ⟨g, 0, none⟩)) (hy : a.eval y = .agg L.toArray) (hg : w.heap[g]? = some (.cells Z.toArray 23 (0, 0))) (hL : L.length = 32) (hZ : Z.length = 32) (h1 : L.toArray.all (·.oneCell') = true)
    (h : ∀ W', W' = w.setRow g L.toArray → wpList Try.prog ops Q rest (a.put o.dst undef) W') : wpList Try.prog ops Q (o :: rest) a w :=
  wpList_store_row hgd 23 x y ho g L.toArray hx hy 23 Z.toArray hg (infoDa L hL) (by simp [hL, hZ]) h1 (h _ rfl)
section
variable {w X Y : World} {og mb rg mm gb rm bb n : Nat} {i : Bool} {m : List UInt8} {D : List (List UInt8)} {L L' R R' : Lg} {rows rows' : Rws} {l1 l2 l' A : List UInt8}
set_option maxHeartbeats 4000000 in
set_option maxRecDepth 100000 in
theorem TM.up1 (h : TM w og mb rg i m D L R mm gb rm bb n l1 l2 rows X) (a j qi qn qm qo bi bn bm bo : Nat) (d : List UInt8) (hi : rows[qi]? = some (bi, 3, [.int .i64 (j : Int)])) (hn : rows[qn]? = some (bn, 26, [.int .u64 (a : Int)])) (hm : rows[qm]? = some (bm, 35, [.pointer (some ⟨mm, 0, none⟩)])) (ho : rows[qo]? = some (bo, 34, [.pointer (some ⟨og, 0, none⟩)]))
    (hqn : qn ≠ qi) (hqm : qm ≠ qi) (hqo : qo ≠ qi) (hw : witB n a = true) (hj : j < 256) (hd : d.length = 32) (hll : L.length < 1000000) :
    Calls Try.prog 48 #[.agg (d.map B8).toArray, .pointer (some ⟨bm, 0, none⟩), .pointer (some ⟨bn, 0, none⟩), .pointer (some ⟨bi, 0, none⟩), .pointer (some ⟨bo, 0, none⟩)] X fun e Y => e = .returned (.agg ((nx2 i D L (askUp j d (nodeB l1 a (bes j)))).1.map B8).toArray) ∧ TM w og mb rg i m D (nx2 i D L (askUp j d (nodeB l1 a (bes j)))).2 R mm gb rm bb n l1 l2 (rows.set qi (bi, 3, [.int .i64 ((j / 2 : Nat) : Int)])) Y := by
  have hz := fun W => R5.zero_dig W
  obtain ⟨ZL, hZL⟩ : ∃ L, L = (List.replicate 32 (0 : UInt8)).map B8 := ⟨_, rfl⟩
  rw [← hZL] at hz
  have HZL : Hid (ZL.length = 32) := by show _ = _; rw [hZL]; simp
  clear hZL
  have hbl := nodeB_len h.len1 hw (bes_lt hj)
  have HBES : Hid (∀ W, Calls Try.prog 42 #[.int .i64 (j : Int)] W fun e w' => e = .returned (.int .i64 (bes j : Int)) ∧ w' = W) := fun W => besideOf_any j hj W
  have HLIES : Hid (∀ rws W, TM w og mb rg i m D L R mm gb rm bb n l1 l2 rws W → Calls Try.prog 40 #[.pointer (some ⟨mm, 0, none⟩), .int .u64 (a : Int), .int .i64 (bes j : Int)] W fun e Y => e = .returned (.agg ((nodeB l1 a (bes j)).map B8).toArray) ∧ TM w og mb rg i m D L R mm gb rm bb n l1 l2 rws Y) := fun rws W hW => hW.lies a (bes j) hw (bes_lt hj)
  have HNO : Hid (∀ (x y : List UInt8) rws W, x.length = 32 → y.length = 32 → TM w og mb rg i m D L R mm gb rm bb n l1 l2 rws W → Calls Try.prog 32 #[.pointer (some ⟨og, 0, none⟩), .int .i64 ((j / 2 : Nat) : Int), .agg (x.map B8).toArray, .agg (y.map B8).toArray] W fun e Y => e = .returned (.agg ((nx2 i D L (qNode (j / 2) x y)).1.map B8).toArray) ∧ TM w og mb rg i m D (nx2 i D L (qNode (j / 2) x y)).2 R mm gb rm bb n l1 l2 rws Y) := fun x y rws W hx hy hW => hW.pnodeOf hll (j / 2) x y (by omega) hx hy
  obtain ⟨B, hB⟩ : ∃ B, B = nodeB l1 a (bes j) := ⟨_, rfl⟩
  rw [← hB] at HLIES hbl ⊢
  have HAL : Hid (∀ q, (nx2 i D L q).1.length = 32) := fun q => h.tb.alen q
  have HDD : Hid (d.length = 32) := hd
  have HBB : Hid (B.length = 32) := hbl
  have HDL : Hid ((d.map B8).length = 32) := by show _ = _; simpa using hd
  have HBL : Hid ((B.map B8).length = 32) := by show _ = _; simpa using hbl
  have HD1 : Hid _ := R5.B8_onea d
  have HB1 : Hid _ := R5.B8_onea B
  obtain ⟨DL, hDL⟩ : ∃ L, d.map B8 = L := ⟨_, rfl⟩
  obtain ⟨BL, hBL⟩ : ∃ L, B.map B8 = L := ⟨_, rfl⟩
  have HDLE : Hid (d.map B8 = DL) := hDL
  have HBLE : Hid (B.map B8 = BL) := hBL
  rw [hDL] at HDL HD1 ⊢
  rw [hBL] at HBL HB1 HLIES
  have HI : Hid (rows[qi]? = some (bi, 3, [.int .i64 (j : Int)])) := hi
  have HNN : Hid (rows[qn]? = some (bn, 26, [.int .u64 (a : Int)])) := hn
  have HM : Hid (rows[qm]? = some (bm, 35, [.pointer (some ⟨mm, 0, none⟩)])) := hm
  have HO : Hid (rows[qo]? = some (bo, 34, [.pointer (some ⟨og, 0, none⟩)])) := ho
  have HQ : Hid (qn ≠ qi ∧ qm ≠ qi ∧ qo ≠ qi) := ⟨hqn, hqm, hqo⟩
  have HJ : Hid (j < 256) := hj
  have hT0 := (h.alloc X.heap.size rfl 23 DL).alloc (X.heap.size + 1) (by simp) 23 ZL
  have HT0 : Hid _ := hT0
  obtain ⟨y, hy⟩ : ∃ y : Nat, y = j / 2 := ⟨_, rfl⟩
  rw [← hy] at HNO ⊢
  have HY : Hid (y = j / 2) := hy
  obtain ⟨AN, L2, hr, hAN⟩ : ∃ AN L2, nx2 i D L (askUp j d B) = (AN, L2) ∧ AN.length = 32 := ⟨_, _, rfl, HAL.out _⟩
  rw [hr]
  have HR : Hid (nx2 i D L (askUp j d B) = (AN, L2)) := hr
  have HALN : Hid ((AN.map B8).length = 32) := by show _ = _; simpa using hAN
  have HA1 : Hid _ := R5.B8_onea AN
  obtain ⟨AL, hAL⟩ : ∃ L, AN.map B8 = L := ⟨_, rfl⟩
  have HANE : Hid (AN.map B8 = AL) := hAL
  show Calls _ _ _ _ (fun e Y => e = .returned (.agg (AN.map B8).toArray) ∧ TM w og mb rg i m D L2 R mm gb rm bb n l1 l2 (rows.set qi (bi, 3, [.int .i64 (y : Int)])) Y)
  rw [hAL] at HALN HA1 ⊢
  clear hy hr hAN hAL
  clear hB hbl hi hn hm ho hqn hqm hqo hd hw hll h hDL hBL hT0 hj
  go_enter Try.func48, Try.ntmps48
  go_upto_region 1 with fail
  generalize hb5 : X.heap.size = b5 at *
  generalize hb6 : b5 + 1 = b6 at *
  go_cut [7, 8] from 9 to 14 (fun p q W => ∃ b7 b8 : Nat, p = .pointer (some ⟨b7, 0, none⟩) ∧ q = .pointer (some ⟨b8, 0, none⟩) ∧ TM w og mb rg i m D L R mm gb rm bb n l1 l2 ((b8, 23, BL) :: (b7, 23, DL) :: (b6, 23, ZL) :: (b5, 23, DL) :: rows) W)
  case first =>
    refine wp_region_held_drew (S := fun W => TM w og mb rg i m D L R mm gb rm bb n l1 l2 ((b6, 23, ZL) :: (b5, 23, DL) :: rows) W) (by kernel_rfl) (HT0.out.step (Below.refl _ _).drew) (fun hHeld => ?_)
    clear HT0
    generalize World.drew _ = V0 at *
    have hN := hHeld
    refine wpAnyH_take (i := 0) (oi := { dst := some 9, op := Go.Op.load 23 (Go.Operand.tmp 5), type := 23, pos := _, after := #[], guard := none }) rfl (by kernel_rfl) (by kernel_rfl) (by kernel_rfl) (fun _ _ _ h => h) (yieldsIf_load_mid (by rfl) 23 (.tmp 5) rfl (b5) (0) rfl (DL) _ (fun _ h => MC.rangeAt_row (h.at 1 rfl)) Try.underlying23 rfl (infoD DL HDL.out)) hHeld ?_
    try simp only [Act.put, List.setIfInBounds_toArray, List.set_cons_zero, List.set_cons_succ]
    refine wpAnyH_take (i := 1) (oi := { dst := some 10, op := Go.Op.load 35 (Go.Operand.tmp 1), type := 35, pos := _, after := #[], guard := none }) (v := .pointer (some ⟨mm, 0, none⟩)) rfl (by kernel_rfl) (by kernel_rfl) (by kernel_rfl) (fun _ _ _ h => h) (Or.inl ⟨by rfl, fun w' hw' => ?_⟩) hHeld ?_
    · have hcc := hw'.cell (qm + 2) HM.out 0 rfl; first | (go_simp; done) | (go_simp; rfl)
    try simp only [Act.put, List.setIfInBounds_toArray, List.set_cons_zero, List.set_cons_succ]
    refine wpAnyH_take (i := 2) (oi := { dst := some 11, op := Go.Op.load 26 (Go.Operand.tmp 2), type := 26, pos := _, after := #[], guard := none }) (v := .int .u64 (a : Int)) rfl (by kernel_rfl) (by kernel_rfl) (by kernel_rfl) (fun _ _ _ h => h) (Or.inl ⟨by rfl, fun w' hw' => ?_⟩) hHeld ?_
    · have hcc := hw'.cell (qn + 2) HNN.out 0 rfl; first | (go_simp; done) | (go_simp; rfl)
    try simp only [Act.put, List.setIfInBounds_toArray, List.set_cons_zero, List.set_cons_succ]
    refine wpAnyH_take (i := 3) (oi := { dst := some 12, op := Go.Op.load 3 (Go.Operand.tmp 3), type := 3, pos := _, after := #[], guard := none }) (v := .int .i64 (j : Int)) rfl (by kernel_rfl) (by kernel_rfl) (by kernel_rfl) (fun _ _ _ h => h) (Or.inl ⟨by rfl, fun w' hw' => ?_⟩) hHeld ?_
    · have hcc := hw'.cell (qi + 2) HI.out 0 rfl; first | (go_simp; done) | (go_simp; rfl)
    try simp only [Act.put, List.setIfInBounds_toArray, List.set_cons_zero, List.set_cons_succ]
    refine wpAnyH_ready (rs := [4, 6, 7]) (by kernel_rfl) (by simp) ?_
    refine AllReadyH.cons (o := { dst := some 13, op := Go.Op.call { callee := Go.Callee.value (Go.Operand.func 42), args := #[Go.Operand.tmp 12], argTypes := #[3] }, type := 3, pos := _, after := #[{ on := 3, ground := Go.Ground.data }], guard := none }) rfl (fun K hK => ?_) (AllReadyH.cons (o := { dst := some 7, op := Go.Op.alloc 23, type := 0, pos := _, after := #[], guard := none }) rfl (fun K hK => ?_) (AllReadyH.cons (o := { dst := some 8, op := Go.Op.alloc 23, type := 0, pos := _, after := #[], guard := none }) rfl (fun K hK => ?_) AllReadyH.nil))
    all_goals rw [if_pos (by rfl)]
    · skip
      go_wp2_with fail
      refine Calls.mono (HBES.out _) ?_
      rintro e V1 ⟨rfl, hy⟩
      rw [hy]
      clear hy V1
      refine hK.out _ _ hHeld (fun _ => ?_)
      clear hK K
      try simp only [Act.put, List.setIfInBounds_toArray, List.set_cons_zero, List.set_cons_succ]
      refine wpAnyH_ready (rs := [5, 6, 7]) (by kernel_rfl) (by simp) ?_
      refine AllReadyH.cons (o := { dst := some 14, op := Go.Op.call { callee := Go.Callee.value (Go.Operand.func 40), args := #[Go.Operand.tmp 10, Go.Operand.tmp 11, Go.Operand.tmp 13], argTypes := #[35, 26, 3] }, type := 23, pos := _, after := #[{ on := 1, ground := Go.Ground.data }, { on := 2, ground := Go.Ground.data }, { on := 4, ground := Go.Ground.data }, { on := 4, ground := Go.Ground.chain }], guard := none }) rfl (fun K hK => ?_) (AllReadyH.cons (o := { dst := some 7, op := Go.Op.alloc 23, type := 0, pos := _, after := #[], guard := none }) rfl (fun K hK => ?_) (AllReadyH.cons (o := { dst := some 8, op := Go.Op.alloc 23, type := 0, pos := _, after := #[], guard := none }) rfl (fun K hK => ?_) AllReadyH.nil))
      all_goals rw [if_pos (by rfl)]
      · skip
        go_wp2_with fail
        refine Calls.mono (HLIES.out _ _ hN) ?_
        rintro e V2 ⟨rfl, hT⟩
        clear hN hHeld
        have hN := hT
        clear hT
        have hHeld := hN
        refine hK.out _ _ hHeld (fun _ => ?_)
        clear hK K
        try simp only [Act.put, List.setIfInBounds_toArray, List.set_cons_zero, List.set_cons_succ]
        refine wpAnyH_ready (rs := [6, 7]) (by kernel_rfl) (by simp) ?_
        refine AllReadyH.cons (o := { dst := some 7, op := Go.Op.alloc 23, type := 0, pos := _, after := #[], guard := none }) rfl (fun K hK => ?_) (AllReadyH.cons (o := { dst := some 8, op := Go.Op.alloc 23, type := 0, pos := _, after := #[], guard := none }) rfl (fun K hK => ?_) AllReadyH.nil)
        all_goals rw [if_pos (by rfl)]
        · skip
          go_wp2_with fail
          have hN0 := hN.alloc (V2).heap.size rfl 23 ZL
          clear hN hHeld
          have hN := hN0
          clear hN0
          generalize (V2).alloc (.cells ZL.toArray 23 (0, 0)) = V3 at *
          generalize (V2).heap.size = b7 at *
          have hHeld := hN.drop
          refine hK.out _ _ hHeld (fun _ => ?_)
          clear hK K
          try simp only [Act.put, List.setIfInBounds_toArray, List.set_cons_zero, List.set_cons_succ]
          refine wpAnyH_ready (rs := [7]) (by kernel_rfl) (by simp) ?_
          refine AllReadyH.cons (o := { dst := some 8, op := Go.Op.alloc 23, type := 0, pos := _, after := #[], guard := none }) rfl (fun K hK => ?_) AllReadyH.nil
          rw [if_pos (by rfl)]
          go_wp2_with fail
          have hN0 := hN.alloc (V3).heap.size rfl 23 ZL
          clear hN hHeld
          have hN := hN0
          clear hN0
          generalize (V3).alloc (.cells ZL.toArray 23 (0, 0)) = V4 at *
          generalize (V3).heap.size = b8 at *
          have hHeld := hN.drop.drop
          refine hK.out _ _ hHeld (fun _ => ?_)
          clear hK K
          try simp only [Act.put, List.setIfInBounds_toArray, List.set_cons_zero, List.set_cons_succ]
          refine wpAnyH_ready (rs := [8]) (by kernel_rfl) (by simp) ?_
          refine AllReadyH.cons (o := { dst := none, op := Go.Op.store 23 (Go.Operand.tmp 7) (Go.Operand.tmp 9), type := 0, pos := _, after := #[{ on := 6, ground := Go.Ground.data }, { on := 0, ground := Go.Ground.data }, { on := 5, ground := Go.Ground.chain }, { on := 0, ground := Go.Ground.phase }, { on := 1, ground := Go.Ground.textOnly Go.Departure.lateStores }, { on := 2, ground := Go.Ground.textOnly Go.Departure.lateStores }, { on := 3, ground := Go.Ground.textOnly Go.Departure.lateStores }, { on := 4, ground := Go.Ground.textOnly Go.Departure.lateStoresUnsure }, { on := 5, ground := Go.Ground.textOnly Go.Departure.lateStoresUnsure }, { on := 6, ground := Go.Ground.phase }, { on := 7, ground := Go.Ground.phase }], guard := none }) rfl (fun K hK => ?_) AllReadyH.nil
          rw [if_pos (by rfl)]
          refine wp_store_row 23 _ _ rfl b7 DL.toArray rfl rfl 23 ZL.toArray (hN.at 1 rfl) (infoDa DL HDL.out) (by simp [HDL.out, HZL.out]) HD1.out ?_
          have hN2 := hN.put' 1 rfl DL
          have hH2 := hN2.drop.drop
          refine hK.out _ _ hH2 (fun _ => ?_)
          clear hK K
          try simp only [Act.put, List.setIfInBounds_toArray, List.set_cons_zero, List.set_cons_succ]
          refine wpAnyH_ready (rs := [9]) (by kernel_rfl) (by simp) ?_
          refine AllReadyH.cons (o := { dst := none, op := Go.Op.store 23 (Go.Operand.tmp 8) (Go.Operand.tmp 14), type := 0, pos := _, after := #[{ on := 7, ground := Go.Ground.data }, { on := 5, ground := Go.Ground.data }, { on := 8, ground := Go.Ground.chain }, { on := 0, ground := Go.Ground.phase }, { on := 1, ground := Go.Ground.phase }, { on := 2, ground := Go.Ground.phase }, { on := 3, ground := Go.Ground.phase }, { on := 4, ground := Go.Ground.phase }, { on := 5, ground := Go.Ground.phase }, { on := 6, ground := Go.Ground.phase }, { on := 7, ground := Go.Ground.phase }, { on := 8, ground := Go.Ground.phase }], guard := none }) rfl (fun K hK => ?_) AllReadyH.nil
          rw [if_pos (by rfl)]
          refine wp_store_row 23 _ _ rfl b8 BL.toArray rfl rfl 23 ZL.toArray (hN2.at 0 rfl) (infoDa BL HBL.out) (by simp [HBL.out, HZL.out]) HB1.out ?_
          have hN3 := hN2.put' 0 rfl BL
          have hH3 := hN3.drop.drop
          refine hK.out _ _ hH3 (fun _ => ?_)
          clear hK K
          try simp only [Act.put, List.setIfInBounds_toArray, List.set_cons_zero, List.set_cons_succ]
          refine wpAnyH_done (by kernel_rfl) ?_ _
          go_wp2_with fail
          go_meet
          case rel => exact ⟨_, _, rfl, rfl, hN3⟩
        · skip
          go_wp2_with fail
          have hN0 := hN.alloc (V2).heap.size rfl 23 ZL
          clear hN hHeld
          have hN := hN0
          clear hN0
          generalize (V2).alloc (.cells ZL.toArray 23 (0, 0)) = V5 at *
          generalize (V2).heap.size = b8 at *
          have hHeld := hN.drop
          refine hK.out _ _ hHeld (fun _ => ?_)
          clear hK K
          try simp only [Act.put, List.setIfInBounds_toArray, List.set_cons_zero, List.set_cons_succ]
          refine wpAnyH_ready (rs := [6]) (by kernel_rfl) (by simp) ?_
          refine AllReadyH.cons (o := { dst := some 7, op := Go.Op.alloc 23, type := 0, pos := _, after := #[], guard := none }) rfl (fun K hK => ?_) AllReadyH.nil
          rw [if_pos (by rfl)]
          go_wp2_with fail
          have hN0 := hN.alloc (V5).heap.size rfl 23 ZL
          clear hN hHeld
          have hN := hN0
          clear hN0
          generalize (V5).alloc (.cells ZL.toArray 23 (0, 0)) = V6 at *
          generalize (V5).heap.size = b7 at *
          have hHeld := hN.drop.drop
          refine hK.out _ _ hHeld (fun _ => ?_)
          clear hK K
          try simp only [Act.put, List.setIfInBounds_toArray, List.set_cons_zero, List.set_cons_succ]
          have hN := hN.swap
          refine wpAnyH_ready (rs := [8]) (by kernel_rfl) (by simp) ?_
          refine AllReadyH.cons (o := { dst := none, op := Go.Op.store 23 (Go.Operand.tmp 7) (Go.Operand.tmp 9), type := 0, pos := _, after := #[{ on := 6, ground := Go.Ground.data }, { on := 0, ground := Go.Ground.data }, { on := 5, ground := Go.Ground.chain }, { on := 0, ground := Go.Ground.phase }, { on := 1, ground := Go.Ground.textOnly Go.Departure.lateStores }, { on := 2, ground := Go.Ground.textOnly Go.Departure.lateStores }, { on := 3, ground := Go.Ground.textOnly Go.Departure.lateStores }, { on := 4, ground := Go.Ground.textOnly Go.Departure.lateStoresUnsure }, { on := 5, ground := Go.Ground.textOnly Go.Departure.lateStoresUnsure }, { on := 6, ground := Go.Ground.phase }, { on := 7, ground := Go.Ground.phase }], guard := none }) rfl (fun K hK => ?_) AllReadyH.nil
          rw [if_pos (by rfl)]
          refine wp_store_row 23 _ _ rfl b7 DL.toArray rfl rfl 23 ZL.toArray (hN.at 1 rfl) (infoDa DL HDL.out) (by simp [HDL.out, HZL.out]) HD1.out ?_
          have hN2 := hN.put' 1 rfl DL
          have hH2 := hN2.drop.drop
          refine hK.out _ _ hH2 (fun _ => ?_)
          clear hK K
          try simp only [Act.put, List.setIfInBounds_toArray, List.set_cons_zero, List.set_cons_succ]
          refine wpAnyH_ready (rs := [9]) (by kernel_rfl) (by simp) ?_
          refine AllReadyH.cons (o := { dst := none, op := Go.Op.store 23 (Go.Operand.tmp 8) (Go.Operand.tmp 14), type := 0, pos := _, after := #[{ on := 7, ground := Go.Ground.data }, { on := 5, ground := Go.Ground.data }, { on := 8, ground := Go.Ground.chain }, { on := 0, ground := Go.Ground.phase }, { on := 1, ground := Go.Ground.phase }, { on := 2, ground := Go.Ground.phase }, { on := 3, ground := Go.Ground.phase }, { on := 4, ground := Go.Ground.phase }, { on := 5, ground := Go.Ground.phase }, { on := 6, ground := Go.Ground.phase }, { on := 7, ground := Go.Ground.phase }, { on := 8, ground := Go.Ground.phase }], guard := none }) rfl (fun K hK => ?_) AllReadyH.nil
          rw [if_pos (by rfl)]
          refine wp_store_row 23 _ _ rfl b8 BL.toArray rfl rfl 23 ZL.toArray (hN2.at 0 rfl) (infoDa BL HBL.out) (by simp [HBL.out, HZL.out]) HB1.out ?_
          have hN3 := hN2.put' 0 rfl BL
          have hH3 := hN3.drop.drop
          refine hK.out _ _ hH3 (fun _ => ?_)
          clear hK K
          try simp only [Act.put, List.setIfInBounds_toArray, List.set_cons_zero, List.set_cons_succ]
          refine wpAnyH_done (by kernel_rfl) ?_ _
          go_wp2_with fail
          go_meet
          case rel => exact ⟨_, _, rfl, rfl, hN3⟩
      · skip
        go_wp2_with fail
        have hN0 := hN.alloc (V0).heap.size rfl 23 ZL
        clear hN hHeld
        have hN := hN0
        clear hN0
        generalize (V0).alloc (.cells ZL.toArray 23 (0, 0)) = V7 at *
        generalize (V0).heap.size = b7 at *
        have hHeld := hN.drop
        refine hK.out _ _ hHeld (fun _ => ?_)
        clear hK K
        try simp only [Act.put, List.setIfInBounds_toArray, List.set_cons_zero, List.set_cons_succ]
        refine wpAnyH_ready (rs := [5, 7]) (by kernel_rfl) (by simp) ?_
        refine AllReadyH.cons (o := { dst := some 14, op := Go.Op.call { callee := Go.Callee.value (Go.Operand.func 40), args := #[Go.Operand.tmp 10, Go.Operand.tmp 11, Go.Operand.tmp 13], argTypes := #[35, 26, 3] }, type := 23, pos := _, after := #[{ on := 1, ground := Go.Ground.data }, { on := 2, ground := Go.Ground.data }, { on := 4, ground := Go.Ground.data }, { on := 4, ground := Go.Ground.chain }], guard := none }) rfl (fun K hK => ?_) (AllReadyH.cons (o := { dst := some 8, op := Go.Op.alloc 23, type := 0, pos := _, after := #[], guard := none }) rfl (fun K hK => ?_) AllReadyH.nil)
        all_goals rw [if_pos (by rfl)]
        · skip
          go_wp2_with fail
          refine Calls.mono (HLIES.out _ _ hN) ?_
          rintro e V8 ⟨rfl, hT⟩
          clear hN hHeld
          have hN := hT
          clear hT
          have hHeld := hN.drop
          refine hK.out _ _ hHeld (fun _ => ?_)
          clear hK K
          try simp only [Act.put, List.setIfInBounds_toArray, List.set_cons_zero, List.set_cons_succ]
          refine wpAnyH_ready (rs := [7]) (by kernel_rfl) (by simp) ?_
          refine AllReadyH.cons (o := { dst := some 8, op := Go.Op.alloc 23, type := 0, pos := _, after := #[], guard := none }) rfl (fun K hK => ?_) AllReadyH.nil
          rw [if_pos (by rfl)]
          go_wp2_with fail
          have hN0 := hN.alloc (V8).heap.size rfl 23 ZL
          clear hN hHeld
          have hN := hN0
          clear hN0
          generalize (V8).alloc (.cells ZL.toArray 23 (0, 0)) = V9 at *
          generalize (V8).heap.size = b8 at *
          have hHeld := hN.drop.drop
          refine hK.out _ _ hHeld (fun _ => ?_)
          clear hK K
          try simp only [Act.put, List.setIfInBounds_toArray, List.set_cons_zero, List.set_cons_succ]
          refine wpAnyH_ready (rs := [8]) (by kernel_rfl) (by simp) ?_
          refine AllReadyH.cons (o := { dst := none, op := Go.Op.store 23 (Go.Operand.tmp 7) (Go.Operand.tmp 9), type := 0, pos := _, after := #[{ on := 6, ground := Go.Ground.data }, { on := 0, ground := Go.Ground.data }, { on := 5, ground := Go.Ground.chain }, { on := 0, ground := Go.Ground.phase }, { on := 1, ground := Go.Ground.textOnly Go.Departure.lateStores }, { on := 2, ground := Go.Ground.textOnly Go.Departure.lateStores }, { on := 3, ground := Go.Ground.textOnly Go.Departure.lateStores }, { on := 4, ground := Go.Ground.textOnly Go.Departure.lateStoresUnsure }, { on := 5, ground := Go.Ground.textOnly Go.Departure.lateStoresUnsure }, { on := 6, ground := Go.Ground.phase }, { on := 7, ground := Go.Ground.phase }], guard := none }) rfl (fun K hK => ?_) AllReadyH.nil
          rw [if_pos (by rfl)]
          refine wp_store_row 23 _ _ rfl b7 DL.toArray rfl rfl 23 ZL.toArray (hN.at 1 rfl) (infoDa DL HDL.out) (by simp [HDL.out, HZL.out]) HD1.out ?_
          have hN2 := hN.put' 1 rfl DL
          have hH2 := hN2.drop.drop
          refine hK.out _ _ hH2 (fun _ => ?_)
          clear hK K
          try simp only [Act.put, List.setIfInBounds_toArray, List.set_cons_zero, List.set_cons_succ]
          refine wpAnyH_ready (rs := [9]) (by kernel_rfl) (by simp) ?_
          refine AllReadyH.cons (o := { dst := none, op := Go.Op.store 23 (Go.Operand.tmp 8) (Go.Operand.tmp 14), type := 0, pos := _, after := #[{ on := 7, ground := Go.Ground.data }, { on := 5, ground := Go.Ground.data }, { on := 8, ground := Go.Ground.chain }, { on := 0, ground := Go.Ground.phase }, { on := 1, ground := Go.Ground.phase }, { on := 2, ground := Go.Ground.phase }, { on := 3, ground := Go.Ground.phase }, { on := 4, ground := Go.Ground.phase }, { on := 5, ground := Go.Ground.phase }, { on := 6, ground := Go.Ground.phase }, { on := 7, ground := Go.Ground.phase }, { on := 8, ground := Go.Ground.phase }], guard := none }) rfl (fun K hK => ?_) AllReadyH.nil
          rw [if_pos (by rfl)]
          refine wp_store_row 23 _ _ rfl b8 BL.toArray rfl rfl 23 ZL.toArray (hN2.at 0 rfl) (infoDa BL HBL.out) (by simp [HBL.out, HZL.out]) HB1.out ?_
          have hN3 := hN2.put' 0 rfl BL
          have hH3 := hN3.drop.drop
          refine hK.out _ _ hH3 (fun _ => ?_)
          clear hK K
          try simp only [Act.put, List.setIfInBounds_toArray, List.set_cons_zero, List.set_cons_succ]
          refine wpAnyH_done (by kernel_rfl) ?_ _
          go_wp2_with fail
          go_meet
          case rel => exact ⟨_, _, rfl, rfl, hN3⟩
        · skip
          go_wp2_with fail
          have hN0 := hN.alloc (V7).heap.size rfl 23 ZL
          clear hN hHeld
          have hN := hN0
          clear hN0
          generalize (V7).alloc (.cells ZL.toArray 23 (0, 0)) = V10 at *
          generalize (V7).heap.size = b8 at *
          have hHeld := hN.drop.drop
          refine hK.out _ _ hHeld (fun _ => ?_)
          clear hK K
          try simp only [Act.put, List.setIfInBounds_toArray, List.set_cons_zero, List.set_cons_succ]
          refine wpAnyH_ready (rs := [5]) (by kernel_rfl) (by simp) ?_
          refine AllReadyH.cons (o := { dst := some 14, op := Go.Op.call { callee := Go.Callee.value (Go.Operand.func 40), args := #[Go.Operand.tmp 10, Go.Operand.tmp 11, Go.Operand.tmp 13], argTypes := #[35, 26, 3] }, type := 23, pos := _, after := #[{ on := 1, ground := Go.Ground.data }, { on := 2, ground := Go.Ground.data }, { on := 4, ground := Go.Ground.data }, { on := 4, ground := Go.Ground.chain }], guard := none }) rfl (fun K hK => ?_) AllReadyH.nil
          rw [if_pos (by rfl)]
          go_wp2_with fail
          refine Calls.mono (HLIES.out _ _ hN) ?_
          rintro e V11 ⟨rfl, hT⟩
          clear hN hHeld
          have hN := hT
          clear hT
          have hHeld := hN.drop.drop
          refine hK.out _ _ hHeld (fun _ => ?_)
          clear hK K
          try simp only [Act.put, List.setIfInBounds_toArray, List.set_cons_zero, List.set_cons_succ]
          refine wpAnyH_ready (rs := [8]) (by kernel_rfl) (by simp) ?_
          refine AllReadyH.cons (o := { dst := none, op := Go.Op.store 23 (Go.Operand.tmp 7) (Go.Operand.tmp 9), type := 0, pos := _, after := #[{ on := 6, ground := Go.Ground.data }, { on := 0, ground := Go.Ground.data }, { on := 5, ground := Go.Ground.chain }, { on := 0, ground := Go.Ground.phase }, { on := 1, ground := Go.Ground.textOnly Go.Departure.lateStores }, { on := 2, ground := Go.Ground.textOnly Go.Departure.lateStores }, { on := 3, ground := Go.Ground.textOnly Go.Departure.lateStores }, { on := 4, ground := Go.Ground.textOnly Go.Departure.lateStoresUnsure }, { on := 5, ground := Go.Ground.textOnly Go.Departure.lateStoresUnsure }, { on := 6, ground := Go.Ground.phase }, { on := 7, ground := Go.Ground.phase }], guard := none }) rfl (fun K hK => ?_) AllReadyH.nil
          rw [if_pos (by rfl)]
          refine wp_store_row 23 _ _ rfl b7 DL.toArray rfl rfl 23 ZL.toArray (hN.at 1 rfl) (infoDa DL HDL.out) (by simp [HDL.out, HZL.out]) HD1.out ?_
          have hN2 := hN.put' 1 rfl DL
          have hH2 := hN2.drop.drop
          refine hK.out _ _ hH2 (fun _ => ?_)
          clear hK K
          try simp only [Act.put, List.setIfInBounds_toArray, List.set_cons_zero, List.set_cons_succ]
          refine wpAnyH_ready (rs := [9]) (by kernel_rfl) (by simp) ?_
          refine AllReadyH.cons (o := { dst := none, op := Go.Op.store 23 (Go.Operand.tmp 8) (Go.Operand.tmp 14), type := 0, pos := _, after := #[{ on := 7, ground := Go.Ground.data }, { on := 5, ground := Go.Ground.data }, { on := 8, ground := Go.Ground.chain }, { on := 0, ground := Go.Ground.phase }, { on := 1, ground := Go.Ground.phase }, { on := 2, ground := Go.Ground.phase }, { on := 3, ground := Go.Ground.phase }, { on := 4, ground := Go.Ground.phase }, { on := 5, ground := Go.Ground.phase }, { on := 6, ground := Go.Ground.phase }, { on := 7, ground := Go.Ground.phase }, { on := 8, ground := Go.Ground.phase }], guard := none }) rfl (fun K hK => ?_) AllReadyH.nil
          rw [if_pos (by rfl)]
          refine wp_store_row 23 _ _ rfl b8 BL.toArray rfl rfl 23 ZL.toArray (hN2.at 0 rfl) (infoDa BL HBL.out) (by simp [HBL.out, HZL.out]) HB1.out ?_
          have hN3 := hN2.put' 0 rfl BL
          have hH3 := hN3.drop.drop
          refine hK.out _ _ hH3 (fun _ => ?_)
          clear hK K
          try simp only [Act.put, List.setIfInBounds_toArray, List.set_cons_zero, List.set_cons_succ]
          refine wpAnyH_done (by kernel_rfl) ?_ _
          go_wp2_with fail
          go_meet
          case rel => exact ⟨_, _, rfl, rfl, hN3⟩
      · skip
        go_wp2_with fail
        have hN0 := hN.alloc (V0).heap.size rfl 23 ZL
        clear hN hHeld
        have hN := hN0
        clear hN0
        generalize (V0).alloc (.cells ZL.toArray 23 (0, 0)) = V12 at *
        generalize (V0).heap.size = b8 at *
        have hHeld := hN.drop
        refine hK.out _ _ hHeld (fun _ => ?_)
        clear hK K
        try simp only [Act.put, List.setIfInBounds_toArray, List.set_cons_zero, List.set_cons_succ]
        refine wpAnyH_ready (rs := [5, 6]) (by kernel_rfl) (by simp) ?_
        refine AllReadyH.cons (o := { dst := some 14, op := Go.Op.call { callee := Go.Callee.value (Go.Operand.func 40), args := #[Go.Operand.tmp 10, Go.Operand.tmp 11, Go.Operand.tmp 13], argTypes := #[35, 26, 3] }, type := 23, pos := _, after := #[{ on := 1, ground := Go.Ground.data }, { on := 2, ground := Go.Ground.data }, { on := 4, ground := Go.Ground.data }, { on := 4, ground := Go.Ground.chain }], guard := none }) rfl (fun K hK => ?_) (AllReadyH.cons (o := { dst := some 7, op := Go.Op.alloc 23, type := 0, pos := _, after := #[], guard := none }) rfl (fun K hK => ?_) AllReadyH.nil)
        all_goals rw [if_pos (by rfl)]
        · skip
          go_wp2_with fail
          refine Calls.mono (HLIES.out _ _ hN) ?_
          rintro e V13 ⟨rfl, hT⟩
          clear hN hHeld
          have hN := hT
          clear hT
          have hHeld := hN.drop
          refine hK.out _ _ hHeld (fun _ => ?_)
          clear hK K
          try simp only [Act.put, List.setIfInBounds_toArray, List.set_cons_zero, List.set_cons_succ]
          refine wpAnyH_ready (rs := [6]) (by kernel_rfl) (by simp) ?_
          refine AllReadyH.cons (o := { dst := some 7, op := Go.Op.alloc 23, type := 0, pos := _, after := #[], guard := none }) rfl (fun K hK => ?_) AllReadyH.nil
          rw [if_pos (by rfl)]
          go_wp2_with fail
          have hN0 := hN.alloc (V13).heap.size rfl 23 ZL
          clear hN hHeld
          have hN := hN0
          clear hN0
          generalize (V13).alloc (.cells ZL.toArray 23 (0, 0)) = V14 at *
          generalize (V13).heap.size = b7 at *
          have hHeld := hN.drop.drop
          refine hK.out _ _ hHeld (fun _ => ?_)
          clear hK K
          try simp only [Act.put, List.setIfInBounds_toArray, List.set_cons_zero, List.set_cons_succ]
          have hN := hN.swap
          refine wpAnyH_ready (rs := [8]) (by kernel_rfl) (by simp) ?_
          refine AllReadyH.cons (o := { dst := none, op := Go.Op.store 23 (Go.Operand.tmp 7) (Go.Operand.tmp 9), type := 0, pos := _, after := #[{ on := 6, ground := Go.Ground.data }, { on := 0, ground := Go.Ground.data }, { on := 5, ground := Go.Ground.chain }, { on := 0, ground := Go.Ground.phase }, { on := 1, ground := Go.Ground.textOnly Go.Departure.lateStores }, { on := 2, ground := Go.Ground.textOnly Go.Departure.lateStores }, { on := 3, ground := Go.Ground.textOnly Go.Departure.lateStores }, { on := 4, ground := Go.Ground.textOnly Go.Departure.lateStoresUnsure }, { on := 5, ground := Go.Ground.textOnly Go.Departure.lateStoresUnsure }, { on := 6, ground := Go.Ground.phase }, { on := 7, ground := Go.Ground.phase }], guard := none }) rfl (fun K hK => ?_) AllReadyH.nil
          rw [if_pos (by rfl)]
          refine wp_store_row 23 _ _ rfl b7 DL.toArray rfl rfl 23 ZL.toArray (hN.at 1 rfl) (infoDa DL HDL.out) (by simp [HDL.out, HZL.out]) HD1.out ?_
          have hN2 := hN.put' 1 rfl DL
          have hH2 := hN2.drop.drop
          refine hK.out _ _ hH2 (fun _ => ?_)
          clear hK K
          try simp only [Act.put, List.setIfInBounds_toArray, List.set_cons_zero, List.set_cons_succ]
          refine wpAnyH_ready (rs := [9]) (by kernel_rfl) (by simp) ?_
          refine AllReadyH.cons (o := { dst := none, op := Go.Op.store 23 (Go.Operand.tmp 8) (Go.Operand.tmp 14), type := 0, pos := _, after := #[{ on := 7, ground := Go.Ground.data }, { on := 5, ground := Go.Ground.data }, { on := 8, ground := Go.Ground.chain }, { on := 0, ground := Go.Ground.phase }, { on := 1, ground := Go.Ground.phase }, { on := 2, ground := Go.Ground.phase }, { on := 3, ground := Go.Ground.phase }, { on := 4, ground := Go.Ground.phase }, { on := 5, ground := Go.Ground.phase }, { on := 6, ground := Go.Ground.phase }, { on := 7, ground := Go.Ground.phase }, { on := 8, ground := Go.Ground.phase }], guard := none }) rfl (fun K hK => ?_) AllReadyH.nil
          rw [if_pos (by rfl)]
          refine wp_store_row 23 _ _ rfl b8 BL.toArray rfl rfl 23 ZL.toArray (hN2.at 0 rfl) (infoDa BL HBL.out) (by simp [HBL.out, HZL.out]) HB1.out ?_
          have hN3 := hN2.put' 0 rfl BL
          have hH3 := hN3.drop.drop
          refine hK.out _ _ hH3 (fun _ => ?_)
          clear hK K
          try simp only [Act.put, List.setIfInBounds_toArray, List.set_cons_zero, List.set_cons_succ]
          refine wpAnyH_done (by kernel_rfl) ?_ _
          go_wp2_with fail
          go_meet
          case rel => exact ⟨_, _, rfl, rfl, hN3⟩
        · skip
          go_wp2_with fail
          have hN0 := hN.alloc (V12).heap.size rfl 23 ZL
          clear hN hHeld
          have hN := hN0
          clear hN0
          generalize (V12).alloc (.cells ZL.toArray 23 (0, 0)) = V15 at *
          generalize (V12).heap.size = b7 at *
          have hHeld := hN.drop.drop
          refine hK.out _ _ hHeld (fun _ => ?_)
          clear hK K
          try simp only [Act.put, List.setIfInBounds_toArray, List.set_cons_zero, List.set_cons_succ]
          refine wpAnyH_ready (rs := [5]) (by kernel_rfl) (by simp) ?_
          refine AllReadyH.cons (o := { dst := some 14, op := Go.Op.call { callee := Go.Callee.value (Go.Operand.func 40), args := #[Go.Operand.tmp 10, Go.Operand.tmp 11, Go.Operand.tmp 13], argTypes := #[35, 26, 3] }, type := 23, pos := _, after := #[{ on := 1, ground := Go.Ground.data }, { on := 2, ground := Go.Ground.data }, { on := 4, ground := Go.Ground.data }, { on := 4, ground := Go.Ground.chain }], guard := none }) rfl (fun K hK => ?_) AllReadyH.nil
          rw [if_pos (by rfl)]
          go_wp2_with fail
          refine Calls.mono (HLIES.out _ _ hN) ?_
          rintro e V16 ⟨rfl, hT⟩
          clear hN hHeld
          have hN := hT
          clear hT
          have hHeld := hN.drop.drop
          refine hK.out _ _ hHeld (fun _ => ?_)
          clear hK K
          try simp only [Act.put, List.setIfInBounds_toArray, List.set_cons_zero, List.set_cons_succ]
          have hN := hN.swap
          refine wpAnyH_ready (rs := [8]) (by kernel_rfl) (by simp) ?_
          refine AllReadyH.cons (o := { dst := none, op := Go.Op.store 23 (Go.Operand.tmp 7) (Go.Operand.tmp 9), type := 0, pos := _, after := #[{ on := 6, ground := Go.Ground.data }, { on := 0, ground := Go.Ground.data }, { on := 5, ground := Go.Ground.chain }, { on := 0, ground := Go.Ground.phase }, { on := 1, ground := Go.Ground.textOnly Go.Departure.lateStores }, { on := 2, ground := Go.Ground.textOnly Go.Departure.lateStores }, { on := 3, ground := Go.Ground.textOnly Go.Departure.lateStores }, { on := 4, ground := Go.Ground.textOnly Go.Departure.lateStoresUnsure }, { on := 5, ground := Go.Ground.textOnly Go.Departure.lateStoresUnsure }, { on := 6, ground := Go.Ground.phase }, { on := 7, ground := Go.Ground.phase }], guard := none }) rfl (fun K hK => ?_) AllReadyH.nil
          rw [if_pos (by rfl)]
          refine wp_store_row 23 _ _ rfl b7 DL.toArray rfl rfl 23 ZL.toArray (hN.at 1 rfl) (infoDa DL HDL.out) (by simp [HDL.out, HZL.out]) HD1.out ?_
          have hN2 := hN.put' 1 rfl DL
          have hH2 := hN2.drop.drop
          refine hK.out _ _ hH2 (fun _ => ?_)
          clear hK K
          try simp only [Act.put, List.setIfInBounds_toArray, List.set_cons_zero, List.set_cons_succ]
          refine wpAnyH_ready (rs := [9]) (by kernel_rfl) (by simp) ?_
          refine AllReadyH.cons (o := { dst := none, op := Go.Op.store 23 (Go.Operand.tmp 8) (Go.Operand.tmp 14), type := 0, pos := _, after := #[{ on := 7, ground := Go.Ground.data }, { on := 5, ground := Go.Ground.data }, { on := 8, ground := Go.Ground.chain }, { on := 0, ground := Go.Ground.phase }, { on := 1, ground := Go.Ground.phase }, { on := 2, ground := Go.Ground.phase }, { on := 3, ground := Go.Ground.phase }, { on := 4, ground := Go.Ground.phase }, { on := 5, ground := Go.Ground.phase }, { on := 6, ground := Go.Ground.phase }, { on := 7, ground := Go.Ground.phase }, { on := 8, ground := Go.Ground.phase }], guard := none }) rfl (fun K hK => ?_) AllReadyH.nil
          rw [if_pos (by rfl)]
          refine wp_store_row 23 _ _ rfl b8 BL.toArray rfl rfl 23 ZL.toArray (hN2.at 0 rfl) (infoDa BL HBL.out) (by simp [HBL.out, HZL.out]) HB1.out ?_
          have hN3 := hN2.put' 0 rfl BL
          have hH3 := hN3.drop.drop
          refine hK.out _ _ hH3 (fun _ => ?_)
          clear hK K
          try simp only [Act.put, List.setIfInBounds_toArray, List.set_cons_zero, List.set_cons_succ]
          refine wpAnyH_done (by kernel_rfl) ?_ _
          go_wp2_with fail
          go_meet
          case rel => exact ⟨_, _, rfl, rfl, hN3⟩
    · skip
      go_wp2_with fail
      have hN0 := hN.alloc (V0).heap.size rfl 23 ZL
      clear hN hHeld
      have hN := hN0
      clear hN0
      generalize (V0).alloc (.cells ZL.toArray 23 (0, 0)) = V17 at *
      generalize (V0).heap.size = b7 at *
      have hHeld := hN.drop
      refine hK.out _ _ hHeld (fun _ => ?_)
      clear hK K
      try simp only [Act.put, List.setIfInBounds_toArray, List.set_cons_zero, List.set_cons_succ]
      refine wpAnyH_ready (rs := [4, 7]) (by kernel_rfl) (by simp) ?_
      refine AllReadyH.cons (o := { dst := some 13, op := Go.Op.call { callee := Go.Callee.value (Go.Operand.func 42), args := #[Go.Operand.tmp 12], argTypes := #[3] }, type := 3, pos := _, after := #[{ on := 3, ground := Go.Ground.data }], guard := none }) rfl (fun K hK => ?_) (AllReadyH.cons (o := { dst := some 8, op := Go.Op.alloc 23, type := 0, pos := _, after := #[], guard := none }) rfl (fun K hK => ?_) AllReadyH.nil)
      all_goals rw [if_pos (by rfl)]
      · skip
        go_wp2_with fail
        refine Calls.mono (HBES.out _) ?_
        rintro e V18 ⟨rfl, hy⟩
        rw [hy]
        clear hy V18
        refine hK.out _ _ hHeld (fun _ => ?_)
        clear hK K
        try simp only [Act.put, List.setIfInBounds_toArray, List.set_cons_zero, List.set_cons_succ]
        refine wpAnyH_ready (rs := [5, 7]) (by kernel_rfl) (by simp) ?_
        refine AllReadyH.cons (o := { dst := some 14, op := Go.Op.call { callee := Go.Callee.value (Go.Operand.func 40), args := #[Go.Operand.tmp 10, Go.Operand.tmp 11, Go.Operand.tmp 13], argTypes := #[35, 26, 3] }, type := 23, pos := _, after := #[{ on := 1, ground := Go.Ground.data }, { on := 2, ground := Go.Ground.data }, { on := 4, ground := Go.Ground.data }, { on := 4, ground := Go.Ground.chain }], guard := none }) rfl (fun K hK => ?_) (AllReadyH.cons (o := { dst := some 8, op := Go.Op.alloc 23, type := 0, pos := _, after := #[], guard := none }) rfl (fun K hK => ?_) AllReadyH.nil)
        all_goals rw [if_pos (by rfl)]
        · skip
          go_wp2_with fail
          refine Calls.mono (HLIES.out _ _ hN) ?_
          rintro e V19 ⟨rfl, hT⟩
          clear hN hHeld
          have hN := hT
          clear hT
          have hHeld := hN.drop
          refine hK.out _ _ hHeld (fun _ => ?_)
          clear hK K
          try simp only [Act.put, List.setIfInBounds_toArray, List.set_cons_zero, List.set_cons_succ]
          refine wpAnyH_ready (rs := [7]) (by kernel_rfl) (by simp) ?_
          refine AllReadyH.cons (o := { dst := some 8, op := Go.Op.alloc 23, type := 0, pos := _, after := #[], guard := none }) rfl (fun K hK => ?_) AllReadyH.nil
          rw [if_pos (by rfl)]
          go_wp2_with fail
          have hN0 := hN.alloc (V19).heap.size rfl 23 ZL
          clear hN hHeld
          have hN := hN0
          clear hN0
          generalize (V19).alloc (.cells ZL.toArray 23 (0, 0)) = V20 at *
          generalize (V19).heap.size = b8 at *
          have hHeld := hN.drop.drop
          refine hK.out _ _ hHeld (fun _ => ?_)
          clear hK K
          try simp only [Act.put, List.setIfInBounds_toArray, List.set_cons_zero, List.set_cons_succ]
          refine wpAnyH_ready (rs := [8]) (by kernel_rfl) (by simp) ?_
          refine AllReadyH.cons (o := { dst := none, op := Go.Op.store 23 (Go.Operand.tmp 7) (Go.Operand.tmp 9), type := 0, pos := _, after := #[{ on := 6, ground := Go.Ground.data }, { on := 0, ground := Go.Ground.data }, { on := 5, ground := Go.Ground.chain }, { on := 0, ground := Go.Ground.phase }, { on := 1, ground := Go.Ground.textOnly Go.Departure.lateStores }, { on := 2, ground := Go.Ground.textOnly Go.Departure.lateStores }, { on := 3, ground := Go.Ground.textOnly Go.Departure.lateStores }, { on := 4, ground := Go.Ground.textOnly Go.Departure.lateStoresUnsure }, { on := 5, ground := Go.Ground.textOnly Go.Departure.lateStoresUnsure }, { on := 6, ground := Go.Ground.phase }, { on := 7, ground := Go.Ground.phase }], guard := none }) rfl (fun K hK => ?_) AllReadyH.nil
          rw [if_pos (by rfl)]
          refine wp_store_row 23 _ _ rfl b7 DL.toArray rfl rfl 23 ZL.toArray (hN.at 1 rfl) (infoDa DL HDL.out) (by simp [HDL.out, HZL.out]) HD1.out ?_
          have hN2 := hN.put' 1 rfl DL
          have hH2 := hN2.drop.drop
          refine hK.out _ _ hH2 (fun _ => ?_)
          clear hK K
          try simp only [Act.put, List.setIfInBounds_toArray, List.set_cons_zero, List.set_cons_succ]
          refine wpAnyH_ready (rs := [9]) (by kernel_rfl) (by simp) ?_
          refine AllReadyH.cons (o := { dst := none, op := Go.Op.store 23 (Go.Operand.tmp 8) (Go.Operand.tmp 14), type := 0, pos := _, after := #[{ on := 7, ground := Go.Ground.data }, { on := 5, ground := Go.Ground.data }, { on := 8, ground := Go.Ground.chain }, { on := 0, ground := Go.Ground.phase }, { on := 1, ground := Go.Ground.phase }, { on := 2, ground := Go.Ground.phase }, { on := 3, ground := Go.Ground.phase }, { on := 4, ground := Go.Ground.phase }, { on := 5, ground := Go.Ground.phase }, { on := 6, ground := Go.Ground.phase }, { on := 7, ground := Go.Ground.phase }, { on := 8, ground := Go.Ground.phase }], guard := none }) rfl (fun K hK => ?_) AllReadyH.nil
          rw [if_pos (by rfl)]
          refine wp_store_row 23 _ _ rfl b8 BL.toArray rfl rfl 23 ZL.toArray (hN2.at 0 rfl) (infoDa BL HBL.out) (by simp [HBL.out, HZL.out]) HB1.out ?_
          have hN3 := hN2.put' 0 rfl BL
          have hH3 := hN3.drop.drop
          refine hK.out _ _ hH3 (fun _ => ?_)
          clear hK K
          try simp only [Act.put, List.setIfInBounds_toArray, List.set_cons_zero, List.set_cons_succ]
          refine wpAnyH_done (by kernel_rfl) ?_ _
          go_wp2_with fail
          go_meet
          case rel => exact ⟨_, _, rfl, rfl, hN3⟩
        · skip
          go_wp2_with fail
          have hN0 := hN.alloc (V17).heap.size rfl 23 ZL
          clear hN hHeld
          have hN := hN0
          clear hN0
          generalize (V17).alloc (.cells ZL.toArray 23 (0, 0)) = V21 at *
          generalize (V17).heap.size = b8 at *
          have hHeld := hN.drop.drop
          refine hK.out _ _ hHeld (fun _ => ?_)
          clear hK K
          try simp only [Act.put, List.setIfInBounds_toArray, List.set_cons_zero, List.set_cons_succ]
          refine wpAnyH_ready (rs := [5]) (by kernel_rfl) (by simp) ?_
          refine AllReadyH.cons (o := { dst := some 14, op := Go.Op.call { callee := Go.Callee.value (Go.Operand.func 40), args := #[Go.Operand.tmp 10, Go.Operand.tmp 11, Go.Operand.tmp 13], argTypes := #[35, 26, 3] }, type := 23, pos := _, after := #[{ on := 1, ground := Go.Ground.data }, { on := 2, ground := Go.Ground.data }, { on := 4, ground := Go.Ground.data }, { on := 4, ground := Go.Ground.chain }], guard := none }) rfl (fun K hK => ?_) AllReadyH.nil
          rw [if_pos (by rfl)]
          go_wp2_with fail
          refine Calls.mono (HLIES.out _ _ hN) ?_
          rintro e V22 ⟨rfl, hT⟩
          clear hN hHeld
          have hN := hT
          clear hT
          have hHeld := hN.drop.drop
          refine hK.out _ _ hHeld (fun _ => ?_)
          clear hK K
          try simp only [Act.put, List.setIfInBounds_toArray, List.set_cons_zero, List.set_cons_succ]
          refine wpAnyH_ready (rs := [8]) (by kernel_rfl) (by simp) ?_
          refine AllReadyH.cons (o := { dst := none, op := Go.Op.store 23 (Go.Operand.tmp 7) (Go.Operand.tmp 9), type := 0, pos := _, after := #[{ on := 6, ground := Go.Ground.data }, { on := 0, ground := Go.Ground.data }, { on := 5, ground := Go.Ground.chain }, { on := 0, ground := Go.Ground.phase }, { on := 1, ground := Go.Ground.textOnly Go.Departure.lateStores }, { on := 2, ground := Go.Ground.textOnly Go.Departure.lateStores }, { on := 3, ground := Go.Ground.textOnly Go.Departure.lateStores }, { on := 4, ground := Go.Ground.textOnly Go.Departure.lateStoresUnsure }, { on := 5, ground := Go.Ground.textOnly Go.Departure.lateStoresUnsure }, { on := 6, ground := Go.Ground.phase }, { on := 7, ground := Go.Ground.phase }], guard := none }) rfl (fun K hK => ?_) AllReadyH.nil
          rw [if_pos (by rfl)]
          refine wp_store_row 23 _ _ rfl b7 DL.toArray rfl rfl 23 ZL.toArray (hN.at 1 rfl) (infoDa DL HDL.out) (by simp [HDL.out, HZL.out]) HD1.out ?_
          have hN2 := hN.put' 1 rfl DL
          have hH2 := hN2.drop.drop
          refine hK.out _ _ hH2 (fun _ => ?_)
          clear hK K
          try simp only [Act.put, List.setIfInBounds_toArray, List.set_cons_zero, List.set_cons_succ]
          refine wpAnyH_ready (rs := [9]) (by kernel_rfl) (by simp) ?_
          refine AllReadyH.cons (o := { dst := none, op := Go.Op.store 23 (Go.Operand.tmp 8) (Go.Operand.tmp 14), type := 0, pos := _, after := #[{ on := 7, ground := Go.Ground.data }, { on := 5, ground := Go.Ground.data }, { on := 8, ground := Go.Ground.chain }, { on := 0, ground := Go.Ground.phase }, { on := 1, ground := Go.Ground.phase }, { on := 2, ground := Go.Ground.phase }, { on := 3, ground := Go.Ground.phase }, { on := 4, ground := Go.Ground.phase }, { on := 5, ground := Go.Ground.phase }, { on := 6, ground := Go.Ground.phase }, { on := 7, ground := Go.Ground.phase }, { on := 8, ground := Go.Ground.phase }], guard := none }) rfl (fun K hK => ?_) AllReadyH.nil
          rw [if_pos (by rfl)]
          refine wp_store_row 23 _ _ rfl b8 BL.toArray rfl rfl 23 ZL.toArray (hN2.at 0 rfl) (infoDa BL HBL.out) (by simp [HBL.out, HZL.out]) HB1.out ?_
          have hN3 := hN2.put' 0 rfl BL
          have hH3 := hN3.drop.drop
          refine hK.out _ _ hH3 (fun _ => ?_)
          clear hK K
          try simp only [Act.put, List.setIfInBounds_toArray, List.set_cons_zero, List.set_cons_succ]
          refine wpAnyH_done (by kernel_rfl) ?_ _
          go_wp2_with fail
          go_meet
          case rel => exact ⟨_, _, rfl, rfl, hN3⟩
      · skip
        go_wp2_with fail
        have hN0 := hN.alloc (V17).heap.size rfl 23 ZL
        clear hN hHeld
        have hN := hN0
        clear hN0
        generalize (V17).alloc (.cells ZL.toArray 23 (0, 0)) = V23 at *
        generalize (V17).heap.size = b8 at *
        have hHeld := hN.drop.drop
        refine hK.out _ _ hHeld (fun _ => ?_)
        clear hK K
        try simp only [Act.put, List.setIfInBounds_toArray, List.set_cons_zero, List.set_cons_succ]
        refine wpAnyH_ready (rs := [4]) (by kernel_rfl) (by simp) ?_
        refine AllReadyH.cons (o := { dst := some 13, op := Go.Op.call { callee := Go.Callee.value (Go.Operand.func 42), args := #[Go.Operand.tmp 12], argTypes := #[3] }, type := 3, pos := _, after := #[{ on := 3, ground := Go.Ground.data }], guard := none }) rfl (fun K hK => ?_) AllReadyH.nil
        rw [if_pos (by rfl)]
        go_wp2_with fail
        refine Calls.mono (HBES.out _) ?_
        rintro e V24 ⟨rfl, hy⟩
        rw [hy]
        clear hy V24
        refine hK.out _ _ hHeld (fun _ => ?_)
        clear hK K
        try simp only [Act.put, List.setIfInBounds_toArray, List.set_cons_zero, List.set_cons_succ]
        refine wpAnyH_ready (rs := [5]) (by kernel_rfl) (by simp) ?_
        refine AllReadyH.cons (o := { dst := some 14, op := Go.Op.call { callee := Go.Callee.value (Go.Operand.func 40), args := #[Go.Operand.tmp 10, Go.Operand.tmp 11, Go.Operand.tmp 13], argTypes := #[35, 26, 3] }, type := 23, pos := _, after := #[{ on := 1, ground := Go.Ground.data }, { on := 2, ground := Go.Ground.data }, { on := 4, ground := Go.Ground.data }, { on := 4, ground := Go.Ground.chain }], guard := none }) rfl (fun K hK => ?_) AllReadyH.nil
        rw [if_pos (by rfl)]
        go_wp2_with fail
        refine Calls.mono (HLIES.out _ _ hN) ?_
        rintro e V25 ⟨rfl, hT⟩
        clear hN hHeld
        have hN := hT
        clear hT
        have hHeld := hN.drop.drop
        refine hK.out _ _ hHeld (fun _ => ?_)
        clear hK K
        try simp only [Act.put, List.setIfInBounds_toArray, List.set_cons_zero, List.set_cons_succ]
        refine wpAnyH_ready (rs := [8]) (by kernel_rfl) (by simp) ?_
        refine AllReadyH.cons (o := { dst := none, op := Go.Op.store 23 (Go.Operand.tmp 7) (Go.Operand.tmp 9), type := 0, pos := _, after := #[{ on := 6, ground := Go.Ground.data }, { on := 0, ground := Go.Ground.data }, { on := 5, ground := Go.Ground.chain }, { on := 0, ground := Go.Ground.phase }, { on := 1, ground := Go.Ground.textOnly Go.Departure.lateStores }, { on := 2, ground := Go.Ground.textOnly Go.Departure.lateStores }, { on := 3, ground := Go.Ground.textOnly Go.Departure.lateStores }, { on := 4, ground := Go.Ground.textOnly Go.Departure.lateStoresUnsure }, { on := 5, ground := Go.Ground.textOnly Go.Departure.lateStoresUnsure }, { on := 6, ground := Go.Ground.phase }, { on := 7, ground := Go.Ground.phase }], guard := none }) rfl (fun K hK => ?_) AllReadyH.nil
        rw [if_pos (by rfl)]
        refine wp_store_row 23 _ _ rfl b7 DL.toArray rfl rfl 23 ZL.toArray (hN.at 1 rfl) (infoDa DL HDL.out) (by simp [HDL.out, HZL.out]) HD1.out ?_
        have hN2 := hN.put' 1 rfl DL
        have hH2 := hN2.drop.drop
        refine hK.out _ _ hH2 (fun _ => ?_)
        clear hK K
        try simp only [Act.put, List.setIfInBounds_toArray, List.set_cons_zero, List.set_cons_succ]
        refine wpAnyH_ready (rs := [9]) (by kernel_rfl) (by simp) ?_
        refine AllReadyH.cons (o := { dst := none, op := Go.Op.store 23 (Go.Operand.tmp 8) (Go.Operand.tmp 14), type := 0, pos := _, after := #[{ on := 7, ground := Go.Ground.data }, { on := 5, ground := Go.Ground.data }, { on := 8, ground := Go.Ground.chain }, { on := 0, ground := Go.Ground.phase }, { on := 1, ground := Go.Ground.phase }, { on := 2, ground := Go.Ground.phase }, { on := 3, ground := Go.Ground.phase }, { on := 4, ground := Go.Ground.phase }, { on := 5, ground := Go.Ground.phase }, { on := 6, ground := Go.Ground.phase }, { on := 7, ground := Go.Ground.phase }, { on := 8, ground := Go.Ground.phase }], guard := none }) rfl (fun K hK => ?_) AllReadyH.nil
        rw [if_pos (by rfl)]
        refine wp_store_row 23 _ _ rfl b8 BL.toArray rfl rfl 23 ZL.toArray (hN2.at 0 rfl) (infoDa BL HBL.out) (by simp [HBL.out, HZL.out]) HB1.out ?_
        have hN3 := hN2.put' 0 rfl BL
        have hH3 := hN3.drop.drop
        refine hK.out _ _ hH3 (fun _ => ?_)
        clear hK K
        try simp only [Act.put, List.setIfInBounds_toArray, List.set_cons_zero, List.set_cons_succ]
        refine wpAnyH_done (by kernel_rfl) ?_ _
        go_wp2_with fail
        go_meet
        case rel => exact ⟨_, _, rfl, rfl, hN3⟩
    · skip
      go_wp2_with fail
      have hN0 := hN.alloc (V0).heap.size rfl 23 ZL
      clear hN hHeld
      have hN := hN0
      clear hN0
      generalize (V0).alloc (.cells ZL.toArray 23 (0, 0)) = V26 at *
      generalize (V0).heap.size = b8 at *
      have hHeld := hN.drop
      refine hK.out _ _ hHeld (fun _ => ?_)
      clear hK K
      try simp only [Act.put, List.setIfInBounds_toArray, List.set_cons_zero, List.set_cons_succ]
      refine wpAnyH_ready (rs := [4, 6]) (by kernel_rfl) (by simp) ?_
      refine AllReadyH.cons (o := { dst := some 13, op := Go.Op.call { callee := Go.Callee.value (Go.Operand.func 42), args := #[Go.Operand.tmp 12], argTypes := #[3] }, type := 3, pos := _, after := #[{ on := 3, ground := Go.Ground.data }], guard := none }) rfl (fun K hK => ?_) (AllReadyH.cons (o := { dst := some 7, op := Go.Op.alloc 23, type := 0, pos := _, after := #[], guard := none }) rfl (fun K hK => ?_) AllReadyH.nil)
      all_goals rw [if_pos (by rfl)]
      · skip
        go_wp2_with fail
        refine Calls.mono (HBES.out _) ?_
        rintro e V27 ⟨rfl, hy⟩
        rw [hy]
        clear hy V27
        refine hK.out _ _ hHeld (fun _ => ?_)
        clear hK K
        try simp only [Act.put, List.setIfInBounds_toArray, List.set_cons_zero, List.set_cons_succ]
        refine wpAnyH_ready (rs := [5, 6]) (by kernel_rfl) (by simp) ?_
        refine AllReadyH.cons (o := { dst := some 14, op := Go.Op.call { callee := Go.Callee.value (Go.Operand.func 40), args := #[Go.Operand.tmp 10, Go.Operand.tmp 11, Go.Operand.tmp 13], argTypes := #[35, 26, 3] }, type := 23, pos := _, after := #[{ on := 1, ground := Go.Ground.data }, { on := 2, ground := Go.Ground.data }, { on := 4, ground := Go.Ground.data }, { on := 4, ground := Go.Ground.chain }], guard := none }) rfl (fun K hK => ?_) (AllReadyH.cons (o := { dst := some 7, op := Go.Op.alloc 23, type := 0, pos := _, after := #[], guard := none }) rfl (fun K hK => ?_) AllReadyH.nil)
        all_goals rw [if_pos (by rfl)]
        · skip
          go_wp2_with fail
          refine Calls.mono (HLIES.out _ _ hN) ?_
          rintro e V28 ⟨rfl, hT⟩
          clear hN hHeld
          have hN := hT
          clear hT
          have hHeld := hN.drop
          refine hK.out _ _ hHeld (fun _ => ?_)
          clear hK K
          try simp only [Act.put, List.setIfInBounds_toArray, List.set_cons_zero, List.set_cons_succ]
          refine wpAnyH_ready (rs := [6]) (by kernel_rfl) (by simp) ?_
          refine AllReadyH.cons (o := { dst := some 7, op := Go.Op.alloc 23, type := 0, pos := _, after := #[], guard := none }) rfl (fun K hK => ?_) AllReadyH.nil
          rw [if_pos (by rfl)]
          go_wp2_with fail
          have hN0 := hN.alloc (V28).heap.size rfl 23 ZL
          clear hN hHeld
          have hN := hN0
          clear hN0
          generalize (V28).alloc (.cells ZL.toArray 23 (0, 0)) = V29 at *
          generalize (V28).heap.size = b7 at *
          have hHeld := hN.drop.drop
          refine hK.out _ _ hHeld (fun _ => ?_)
          clear hK K
          try simp only [Act.put, List.setIfInBounds_toArray, List.set_cons_zero, List.set_cons_succ]
          have hN := hN.swap
          refine wpAnyH_ready (rs := [8]) (by kernel_rfl) (by simp) ?_
          refine AllReadyH.cons (o := { dst := none, op := Go.Op.store 23 (Go.Operand.tmp 7) (Go.Operand.tmp 9), type := 0, pos := _, after := #[{ on := 6, ground := Go.Ground.data }, { on := 0, ground := Go.Ground.data }, { on := 5, ground := Go.Ground.chain }, { on := 0, ground := Go.Ground.phase }, { on := 1, ground := Go.Ground.textOnly Go.Departure.lateStores }, { on := 2, ground := Go.Ground.textOnly Go.Departure.lateStores }, { on := 3, ground := Go.Ground.textOnly Go.Departure.lateStores }, { on := 4, ground := Go.Ground.textOnly Go.Departure.lateStoresUnsure }, { on := 5, ground := Go.Ground.textOnly Go.Departure.lateStoresUnsure }, { on := 6, ground := Go.Ground.phase }, { on := 7, ground := Go.Ground.phase }], guard := none }) rfl (fun K hK => ?_) AllReadyH.nil
          rw [if_pos (by rfl)]
          refine wp_store_row 23 _ _ rfl b7 DL.toArray rfl rfl 23 ZL.toArray (hN.at 1 rfl) (infoDa DL HDL.out) (by simp [HDL.out, HZL.out]) HD1.out ?_
          have hN2 := hN.put' 1 rfl DL
          have hH2 := hN2.drop.drop
          refine hK.out _ _ hH2 (fun _ => ?_)
          clear hK K
          try simp only [Act.put, List.setIfInBounds_toArray, List.set_cons_zero, List.set_cons_succ]
          refine wpAnyH_ready (rs := [9]) (by kernel_rfl) (by simp) ?_
          refine AllReadyH.cons (o := { dst := none, op := Go.Op.store 23 (Go.Operand.tmp 8) (Go.Operand.tmp 14), type := 0, pos := _, after := #[{ on := 7, ground := Go.Ground.data }, { on := 5, ground := Go.Ground.data }, { on := 8, ground := Go.Ground.chain }, { on := 0, ground := Go.Ground.phase }, { on := 1, ground := Go.Ground.phase }, { on := 2, ground := Go.Ground.phase }, { on := 3, ground := Go.Ground.phase }, { on := 4, ground := Go.Ground.phase }, { on := 5, ground := Go.Ground.phase }, { on := 6, ground := Go.Ground.phase }, { on := 7, ground := Go.Ground.phase }, { on := 8, ground := Go.Ground.phase }], guard := none }) rfl (fun K hK => ?_) AllReadyH.nil
          rw [if_pos (by rfl)]
          refine wp_store_row 23 _ _ rfl b8 BL.toArray rfl rfl 23 ZL.toArray (hN2.at 0 rfl) (infoDa BL HBL.out) (by simp [HBL.out, HZL.out]) HB1.out ?_
          have hN3 := hN2.put' 0 rfl BL
          have hH3 := hN3.drop.drop
          refine hK.out _ _ hH3 (fun _ => ?_)
          clear hK K
          try simp only [Act.put, List.setIfInBounds_toArray, List.set_cons_zero, List.set_cons_succ]
          refine wpAnyH_done (by kernel_rfl) ?_ _
          go_wp2_with fail
          go_meet
          case rel => exact ⟨_, _, rfl, rfl, hN3⟩
        · skip
          go_wp2_with fail
          have hN0 := hN.alloc (V26).heap.size rfl 23 ZL
          clear hN hHeld
          have hN := hN0
          clear hN0
          generalize (V26).alloc (.cells ZL.toArray 23 (0, 0)) = V30 at *
          generalize (V26).heap.size = b7 at *
          have hHeld := hN.drop.drop
          refine hK.out _ _ hHeld (fun _ => ?_)
          clear hK K
          try simp only [Act.put, List.setIfInBounds_toArray, List.set_cons_zero, List.set_cons_succ]
          refine wpAnyH_ready (rs := [5]) (by kernel_rfl) (by simp) ?_
          refine AllReadyH.cons (o := { dst := some 14, op := Go.Op.call { callee := Go.Callee.value (Go.Operand.func 40), args := #[Go.Operand.tmp 10, Go.Operand.tmp 11, Go.Operand.tmp 13], argTypes := #[35, 26, 3] }, type := 23, pos := _, after := #[{ on := 1, ground := Go.Ground.data }, { on := 2, ground := Go.Ground.data }, { on := 4, ground := Go.Ground.data }, { on := 4, ground := Go.Ground.chain }], guard := none }) rfl (fun K hK => ?_) AllReadyH.nil
          rw [if_pos (by rfl)]
          go_wp2_with fail
          refine Calls.mono (HLIES.out _ _ hN) ?_
          rintro e V31 ⟨rfl, hT⟩
          clear hN hHeld
          have hN := hT
          clear hT
          have hHeld := hN.drop.drop
          refine hK.out _ _ hHeld (fun _ => ?_)
          clear hK K
          try simp only [Act.put, List.setIfInBounds_toArray, List.set_cons_zero, List.set_cons_succ]
          have hN := hN.swap
          refine wpAnyH_ready (rs := [8]) (by kernel_rfl) (by simp) ?_
          refine AllReadyH.cons (o := { dst := none, op := Go.Op.store 23 (Go.Operand.tmp 7) (Go.Operand.tmp 9), type := 0, pos := _, after := #[{ on := 6, ground := Go.Ground.data }, { on := 0, ground := Go.Ground.data }, { on := 5, ground := Go.Ground.chain }, { on := 0, ground := Go.Ground.phase }, { on := 1, ground := Go.Ground.textOnly Go.Departure.lateStores }, { on := 2, ground := Go.Ground.textOnly Go.Departure.lateStores }, { on := 3, ground := Go.Ground.textOnly Go.Departure.lateStores }, { on := 4, ground := Go.Ground.textOnly Go.Departure.lateStoresUnsure }, { on := 5, ground := Go.Ground.textOnly Go.Departure.lateStoresUnsure }, { on := 6, ground := Go.Ground.phase }, { on := 7, ground := Go.Ground.phase }], guard := none }) rfl (fun K hK => ?_) AllReadyH.nil
          rw [if_pos (by rfl)]
          refine wp_store_row 23 _ _ rfl b7 DL.toArray rfl rfl 23 ZL.toArray (hN.at 1 rfl) (infoDa DL HDL.out) (by simp [HDL.out, HZL.out]) HD1.out ?_
          have hN2 := hN.put' 1 rfl DL
          have hH2 := hN2.drop.drop
          refine hK.out _ _ hH2 (fun _ => ?_)
          clear hK K
          try simp only [Act.put, List.setIfInBounds_toArray, List.set_cons_zero, List.set_cons_succ]
          refine wpAnyH_ready (rs := [9]) (by kernel_rfl) (by simp) ?_
          refine AllReadyH.cons (o := { dst := none, op := Go.Op.store 23 (Go.Operand.tmp 8) (Go.Operand.tmp 14), type := 0, pos := _, after := #[{ on := 7, ground := Go.Ground.data }, { on := 5, ground := Go.Ground.data }, { on := 8, ground := Go.Ground.chain }, { on := 0, ground := Go.Ground.phase }, { on := 1, ground := Go.Ground.phase }, { on := 2, ground := Go.Ground.phase }, { on := 3, ground := Go.Ground.phase }, { on := 4, ground := Go.Ground.phase }, { on := 5, ground := Go.Ground.phase }, { on := 6, ground := Go.Ground.phase }, { on := 7, ground := Go.Ground.phase }, { on := 8, ground := Go.Ground.phase }], guard := none }) rfl (fun K hK => ?_) AllReadyH.nil
          rw [if_pos (by rfl)]
          refine wp_store_row 23 _ _ rfl b8 BL.toArray rfl rfl 23 ZL.toArray (hN2.at 0 rfl) (infoDa BL HBL.out) (by simp [HBL.out, HZL.out]) HB1.out ?_
          have hN3 := hN2.put' 0 rfl BL
          have hH3 := hN3.drop.drop
          refine hK.out _ _ hH3 (fun _ => ?_)
          clear hK K
          try simp only [Act.put, List.setIfInBounds_toArray, List.set_cons_zero, List.set_cons_succ]
          refine wpAnyH_done (by kernel_rfl) ?_ _
          go_wp2_with fail
          go_meet
          case rel => exact ⟨_, _, rfl, rfl, hN3⟩
      · skip
        go_wp2_with fail
        have hN0 := hN.alloc (V26).heap.size rfl 23 ZL
        clear hN hHeld
        have hN := hN0
        clear hN0
        generalize (V26).alloc (.cells ZL.toArray 23 (0, 0)) = V32 at *
        generalize (V26).heap.size = b7 at *
        have hHeld := hN.drop.drop
        refine hK.out _ _ hHeld (fun _ => ?_)
        clear hK K
        try simp only [Act.put, List.setIfInBounds_toArray, List.set_cons_zero, List.set_cons_succ]
        refine wpAnyH_ready (rs := [4]) (by kernel_rfl) (by simp) ?_
        refine AllReadyH.cons (o := { dst := some 13, op := Go.Op.call { callee := Go.Callee.value (Go.Operand.func 42), args := #[Go.Operand.tmp 12], argTypes := #[3] }, type := 3, pos := _, after := #[{ on := 3, ground := Go.Ground.data }], guard := none }) rfl (fun K hK => ?_) AllReadyH.nil
        rw [if_pos (by rfl)]
        go_wp2_with fail
        refine Calls.mono (HBES.out _) ?_
        rintro e V33 ⟨rfl, hy⟩
        rw [hy]
        clear hy V33
        refine hK.out _ _ hHeld (fun _ => ?_)
        clear hK K
        try simp only [Act.put, List.setIfInBounds_toArray, List.set_cons_zero, List.set_cons_succ]
        refine wpAnyH_ready (rs := [5]) (by kernel_rfl) (by simp) ?_
        refine AllReadyH.cons (o := { dst := some 14, op := Go.Op.call { callee := Go.Callee.value (Go.Operand.func 40), args := #[Go.Operand.tmp 10, Go.Operand.tmp 11, Go.Operand.tmp 13], argTypes := #[35, 26, 3] }, type := 23, pos := _, after := #[{ on := 1, ground := Go.Ground.data }, { on := 2, ground := Go.Ground.data }, { on := 4, ground := Go.Ground.data }, { on := 4, ground := Go.Ground.chain }], guard := none }) rfl (fun K hK => ?_) AllReadyH.nil
        rw [if_pos (by rfl)]
        go_wp2_with fail
        refine Calls.mono (HLIES.out _ _ hN) ?_
        rintro e V34 ⟨rfl, hT⟩
        clear hN hHeld
        have hN := hT
        clear hT
        have hHeld := hN.drop.drop
        refine hK.out _ _ hHeld (fun _ => ?_)
        clear hK K
        try simp only [Act.put, List.setIfInBounds_toArray, List.set_cons_zero, List.set_cons_succ]
        have hN := hN.swap
        refine wpAnyH_ready (rs := [8]) (by kernel_rfl) (by simp) ?_
        refine AllReadyH.cons (o := { dst := none, op := Go.Op.store 23 (Go.Operand.tmp 7) (Go.Operand.tmp 9), type := 0, pos := _, after := #[{ on := 6, ground := Go.Ground.data }, { on := 0, ground := Go.Ground.data }, { on := 5, ground := Go.Ground.chain }, { on := 0, ground := Go.Ground.phase }, { on := 1, ground := Go.Ground.textOnly Go.Departure.lateStores }, { on := 2, ground := Go.Ground.textOnly Go.Departure.lateStores }, { on := 3, ground := Go.Ground.textOnly Go.Departure.lateStores }, { on := 4, ground := Go.Ground.textOnly Go.Departure.lateStoresUnsure }, { on := 5, ground := Go.Ground.textOnly Go.Departure.lateStoresUnsure }, { on := 6, ground := Go.Ground.phase }, { on := 7, ground := Go.Ground.phase }], guard := none }) rfl (fun K hK => ?_) AllReadyH.nil
        rw [if_pos (by rfl)]
        refine wp_store_row 23 _ _ rfl b7 DL.toArray rfl rfl 23 ZL.toArray (hN.at 1 rfl) (infoDa DL HDL.out) (by simp [HDL.out, HZL.out]) HD1.out ?_
        have hN2 := hN.put' 1 rfl DL
        have hH2 := hN2.drop.drop
        refine hK.out _ _ hH2 (fun _ => ?_)
        clear hK K
        try simp only [Act.put, List.setIfInBounds_toArray, List.set_cons_zero, List.set_cons_succ]
        refine wpAnyH_ready (rs := [9]) (by kernel_rfl) (by simp) ?_
        refine AllReadyH.cons (o := { dst := none, op := Go.Op.store 23 (Go.Operand.tmp 8) (Go.Operand.tmp 14), type := 0, pos := _, after := #[{ on := 7, ground := Go.Ground.data }, { on := 5, ground := Go.Ground.data }, { on := 8, ground := Go.Ground.chain }, { on := 0, ground := Go.Ground.phase }, { on := 1, ground := Go.Ground.phase }, { on := 2, ground := Go.Ground.phase }, { on := 3, ground := Go.Ground.phase }, { on := 4, ground := Go.Ground.phase }, { on := 5, ground := Go.Ground.phase }, { on := 6, ground := Go.Ground.phase }, { on := 7, ground := Go.Ground.phase }, { on := 8, ground := Go.Ground.phase }], guard := none }) rfl (fun K hK => ?_) AllReadyH.nil
        rw [if_pos (by rfl)]
        refine wp_store_row 23 _ _ rfl b8 BL.toArray rfl rfl 23 ZL.toArray (hN2.at 0 rfl) (infoDa BL HBL.out) (by simp [HBL.out, HZL.out]) HB1.out ?_
        have hN3 := hN2.put' 0 rfl BL
        have hH3 := hN3.drop.drop
        refine hK.out _ _ hH3 (fun _ => ?_)
        clear hK K
        try simp only [Act.put, List.setIfInBounds_toArray, List.set_cons_zero, List.set_cons_succ]
        refine wpAnyH_done (by kernel_rfl) ?_ _
        go_wp2_with fail
        go_meet
        case rel => exact ⟨_, _, rfl, rfl, hN3⟩
  case rest =>
    obtain ⟨b7, b8, rfl, rfl, hT⟩ := hcut
    generalize wc = V20 at *
    have HT : Hid _ := hT
    clear HT0 HLIES HBES hT hb5 hb6
    have hy := HY.out
    have hq2 : IntKind.i64.wrap (y : Int) = (y : Int) := by have := HJ.out; rw [IntKind.wrap_i64]; omega
    have htd : ((j : Int).tdiv 2) = (y : Int) := by rw [hy]; rfl
    by_cases hev : j % 2 = 1
    · have hm2 : ((j : Int) % 2 == 1) = true := by rw [beq_iff_eq]; omega
      have hm3 : ((j : Int).tmod 2 == 1) = true := by show (((j % 2 : Nat) : Int) == 1) = true; rw [hev]; rfl
      have hq : nx2 i D L (qNode y B d) = (AN, L2) := by rw [← HR.out]; unfold askUp; rw [if_pos hev, ← hy]
      have HC : Hid (∀ rws W, TM w og mb rg i m D L R mm gb rm bb n l1 l2 rws W → Calls Try.prog 32 #[.pointer (some ⟨og, 0, none⟩), .int .i64 (y : Int), .agg BL.toArray, .agg DL.toArray] W fun e Y => e = .returned (.agg (AN.map B8).toArray) ∧ TM w og mb rg i m D L2 R mm gb rm bb n l1 l2 rws Y) := fun rws W hW => by have q := HNO.out B d rws W HBB.out HDD.out hW; rw [hq, HBLE.out, HDLE.out] at q; exact q
      rw [HANE.out] at HC
      have hci := HT.out.cell (qi + 4) HI.out 0 rfl
      clear hq hev HNO hy
      go_upto_region 4 with (first
        | (refine wpList_load_mid rfl 23 (.tmp 8) rfl b8 0 rfl BL _ (MC.rangeAt_row (HT.out.at 0 rfl)) Try.underlying23 rfl (infoD BL HBL.out) ?_)
        | (refine wpList_load_mid rfl 23 (.tmp 7) rfl b7 0 rfl DL _ (MC.rangeAt_row (HT.out.at 1 rfl)) Try.underlying23 rfl (infoD DL HDL.out) ?_)
        | (refine wpList_store_dL rfl (.tmp 7) (.tmp 18) rfl b7 BL DL rfl rfl (HT.out.at 1 rfl) HBL.out HDL.out HB1.out ?_
           intro W1 e1
           have HT1 : Hid _ := HT.out.put' 1 rfl BL
           rw [← e1] at HT1)
        | (refine wpList_store_dL rfl (.tmp 8) (.tmp 19) rfl b8 DL BL rfl rfl (HT1.out.at 0 rfl) HDL.out HBL.out HD1.out ?_
           intro W2 e2
           have HT2 : Hid _ := HT1.out.put' 0 rfl DL
           rw [← e2] at HT2))
      clear HT hci e1 e2 HT1
      have HT : Hid (TM w og mb rg i m D L R mm gb rm bb n l1 l2 ((b8, 23, DL) :: (b7, 23, BL) :: (b6, 23, ZL) :: (b5, 23, DL) :: rows) W2) := HT2.out
      clear HT2
      have hci := HT.out.cell (qi + 4) HI.out 0 rfl
      have HIL : Hid (rows.length > qi) := (List.getElem?_eq_some_iff.1 HI.out).1
      go_upto_region 5 with (refine wpList_stI rfl (.tmp 3) (.tmp 21) rfl bi 0 (y : Int) rfl rfl [.int .i64 (j : Int)] 3 (HT.out.at (qi + 4) HI.out) (by simp) ?_; intro W3 e3)
      have HT3 : Hid (TM w og mb rg i m D L R mm gb rm bb n l1 l2 ((b8, 23, DL) :: (b7, 23, BL) :: (b6, 23, ZL) :: (b5, 23, DL) :: rows.set qi (bi, 3, [.int .i64 (y : Int)])) W3) := by rw [e3]; exact HT.out.poke (qi + 4) HI.out 0 (.int .i64 (y : Int)) rfl
      have hci3 := HT3.out.cell (qi + 4) (show (rows.set qi (bi, 3, [.int .i64 (y : Int)]))[qi]? = some (bi, 3, [.int .i64 (y : Int)]) by rw [List.getElem?_set_self HIL.out]) 0 rfl
      have hco3 := HT3.out.cell (qo + 4) (show (rows.set qi (bi, 3, [.int .i64 (y : Int)]))[qo]? = some (bo, 34, [.pointer (some ⟨og, 0, none⟩)]) by rw [List.getElem?_set_ne HQ.out.2.2.symm]; exact HO.out) 0 rfl
      clear e3 HT hci
      go_wp2_with (first
        | (refine wpList_load_mid rfl 23 (.tmp 7) rfl b7 0 rfl BL _ (MC.rangeAt_row (HT3.out.at 1 rfl)) Try.underlying23 rfl (infoD BL HBL.out) ?_)
        | (refine wpList_load_mid rfl 23 (.tmp 8) rfl b8 0 rfl DL _ (MC.rangeAt_row (HT3.out.at 0 rfl)) Try.underlying23 rfl (infoD DL HDL.out) ?_))
      refine Calls.mono (HC.out _ _ HT3.out) ?_
      rintro e W4 ⟨rfl, hT4⟩
      have HT4 : Hid _ := hT4
      have HT5 : Hid _ := hT4.put' 2 rfl AL
      clear hT4 HT3 hci3 hco3 HC
      go_wp2_with (refine wpList_store_dL rfl (.tmp 6) (.tmp 26) rfl b6 AL ZL rfl rfl (HT4.out.at 2 rfl) HALN.out HZL.out HA1.out ?_; intro W5 e5)
      subst e5
      refine bodyPost_ret (v := .agg AL.toArray) ?_ rfl ⟨rfl, HT5.out.drop.drop.drop.drop⟩
      exact results_cell_row Try.results48 _ _ b6 23 _ (0, 0) _ rfl (setRow_heap _ _ _ _ _ _ (HT4.out.at 2 rfl)) Try.underlying23 rfl (infoDa AL HALN.out)
    · have hm2 : ((j : Int) % 2 == 1) = false := by rw [beq_eq_false_iff_ne]; omega
      have hm3 : ((j : Int).tmod 2 == 1) = false := by show (((j % 2 : Nat) : Int) == 1) = false; rw [show j % 2 = 0 by omega]; rfl
      have hq : nx2 i D L (qNode y d B) = (AN, L2) := by rw [← HR.out]; unfold askUp; rw [if_neg hev, ← hy]
      have HC : Hid (∀ rws W, TM w og mb rg i m D L R mm gb rm bb n l1 l2 rws W → Calls Try.prog 32 #[.pointer (some ⟨og, 0, none⟩), .int .i64 (y : Int), .agg DL.toArray, .agg BL.toArray] W fun e Y => e = .returned (.agg (AN.map B8).toArray) ∧ TM w og mb rg i m D L2 R mm gb rm bb n l1 l2 rws Y) := fun rws W hW => by have q := HNO.out d B rws W HDD.out HBB.out hW; rw [hq, HBLE.out, HDLE.out] at q; exact q
      rw [HANE.out] at HC
      have hci := HT.out.cell (qi + 4) HI.out 0 rfl
      clear hq hev HNO hy
      go_upto_region 4 with fail
      clear hci
      have hci := HT.out.cell (qi + 4) HI.out 0 rfl
      have HIL : Hid (rows.length > qi) := (List.getElem?_eq_some_iff.1 HI.out).1
      go_upto_region 5 with (refine wpList_stI rfl (.tmp 3) (.tmp 21) rfl bi 0 (y : Int) rfl rfl [.int .i64 (j : Int)] 3 (HT.out.at (qi + 4) HI.out) (by simp) ?_; intro W3 e3)
      have HT3 : Hid (TM w og mb rg i m D L R mm gb rm bb n l1 l2 ((b8, 23, BL) :: (b7, 23, DL) :: (b6, 23, ZL) :: (b5, 23, DL) :: rows.set qi (bi, 3, [.int .i64 (y : Int)])) W3) := by rw [e3]; exact HT.out.poke (qi + 4) HI.out 0 (.int .i64 (y : Int)) rfl
      have hci3 := HT3.out.cell (qi + 4) (show (rows.set qi (bi, 3, [.int .i64 (y : Int)]))[qi]? = some (bi, 3, [.int .i64 (y : Int)]) by rw [List.getElem?_set_self HIL.out]) 0 rfl
      have hco3 := HT3.out.cell (qo + 4) (show (rows.set qi (bi, 3, [.int .i64 (y : Int)]))[qo]? = some (bo, 34, [.pointer (some ⟨og, 0, none⟩)]) by rw [List.getElem?_set_ne HQ.out.2.2.symm]; exact HO.out) 0 rfl
      clear e3 HT hci
      go_wp2_with (first
        | (refine wpList_load_mid rfl 23 (.tmp 7) rfl b7 0 rfl DL _ (MC.rangeAt_row (HT3.out.at 1 rfl)) Try.underlying23 rfl (infoD DL HDL.out) ?_)
        | (refine wpList_load_mid rfl 23 (.tmp 8) rfl b8 0 rfl BL _ (MC.rangeAt_row (HT3.out.at 0 rfl)) Try.underlying23 rfl (infoD BL HBL.out) ?_))
      refine Calls.mono (HC.out _ _ HT3.out) ?_
      rintro e W4 ⟨rfl, hT4⟩
      have HT4 : Hid _ := hT4
      have HT5 : Hid _ := hT4.put' 2 rfl AL
      clear hT4 HT3 hci3 hco3 HC
      go_wp2_with (refine wpList_store_dL rfl (.tmp 6) (.tmp 26) rfl b6 AL ZL rfl rfl (HT4.out.at 2 rfl) HALN.out HZL.out HA1.out ?_; intro W5 e5)
      subst e5
      refine bodyPost_ret (v := .agg AL.toArray) ?_ rfl ⟨rfl, HT5.out.drop.drop.drop.drop⟩
      exact results_cell_row Try.results48 _ _ b6 23 _ (0, 0) _ rfl (setRow_heap _ _ _ _ _ _ (HT4.out.at 2 rfl)) Try.underlying23 rfl (infoDa AL HALN.out)
end
end Go.Proofs.Ytnijjoankahddaa.DC
