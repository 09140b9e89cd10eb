import Derived.Test.YtekbppfocnbhbaaGreatRs
import Derived.Deep.AppendLies
import Derived.Stop.BytesEq
import Derived.Test.YtekbppfocnbhbaaGreatQr
import Derived.Test.YtekbppfocnbhbaaGreatQn
set_option linter.unusedVariables false
set_option linter.unusedSimpArgs false
set_option maxHeartbeats 16000000
set_option maxRecDepth 100000
namespace Go.Proofs.YtekbppfocnbhbaaGreat.XC
open Go.RowKit
section
variable {c : Cx} {rb tn last last' : Nat} {L R R' L' : Lg} {C C2 D I J : Nat → Prop} {X Y Y' Z W w : World} {rl rl' l l' a b : List En} {av av' : Value} {rd root : Int} {r r' : Rm} {lv : Value} {s s' : Am} {k : Int} {N pb q : Nat} {sv : Value} {ms : List Nat}
def FV (base : Nat) (w : World) (v : Value) (ls : List Nat) : Prop := w.ownsRow base 34 1 v ls.length (ls.map PC.U8)
theorem FV.nil (base : Nat) (w : World) : FV base w (.slice none 0 0) [] := World.ownsRow_nil _ _ _ _
theorem FV.keep {base : Nat} {w w' : World} {v : Value} {ls : List Nat} (h : FV base w v ls) (hk : ∀ j, v.ownBlock = some j → w'.heap[j]? = w.heap[j]?) : FV base w' v ls := R5.own_keep h (fun j e _ => hk j e)
theorem FV.lt {base : Nat} {w : World} {v : Value} {ls : List Nat} (h : FV base w v ls) {j : Nat} (e : v.ownBlock = some j) : base ≤ j ∧ j < w.heap.size := World.ownsRow.lt h j e
structure ST (w : World) (c : Cx) (rb : Nat) (s : Am) (C : Nat → Prop) (pb : Nat) (sv : Value) (ms : List Nat) (X : World) : Prop where
  ja : JA c rb s C X
  cw : c.w = w
  cp : C pb
  cn : ∀ k, C k → c.n ≤ k
  pr : X.heap[pb]? = some (.cells (prL c rb).toArray 29 (0, 0))
  fu : FV (pb + 1) X sv ms
  so : ∀ k, sv.ownBlock = some k → C k
theorem ST.bel (h : ST w c rb s C pb sv ms X) : Below w.heap.size w X := by
  have := h.ja.bel
  rwa [h.cw] at this
theorem ST.step (h : ST w c rb s C pb sv ms X) (hb : Below X.heap.size X Y) : ST w c rb s C pb sv ms Y :=
  ⟨h.ja.below hb, h.cw, h.cp, h.cn, (hb.block pb (h.ja.lt h.cp)).trans h.pr, h.fu.keep (fun j e => hb.block j (h.fu.lt e).2), h.so⟩
theorem ST.call (h : ST w c rb s C pb sv ms X) (ja : JA c rb s' C Y) (hk : ∀ k, C k → Y.heap[k]? = X.heap[k]?) : ST w c rb s' C pb sv ms Y :=
  ⟨ja, h.cw, h.cp, h.cn, (hk pb h.cp).trans h.pr, h.fu.keep (fun j e => hk j (h.so j e)), h.so⟩
theorem ST.sub (h : ST w c rb s C pb sv ms X) (hD : ∀ k, D k → C k) (dp : D pb) (ds : ∀ k, sv.ownBlock = some k → D k) : ST w c rb s D pb sv ms X :=
  ⟨h.ja.sub hD, h.cw, dp, fun k hk => h.cn k (hD k hk), h.pr, h.fu, ds⟩
theorem ST.new (h : ST w c rb s C pb sv ms X) (hb : Below X.heap.size X Y) (h2 : ∀ k, C2 k → X.heap.size ≤ k ∧ k < Y.heap.size) : ST w c rb s (fun k => C k ∨ C2 k) pb sv ms Y := by
  have h1 := h.step hb
  refine ⟨(h.ja.new hb).sub (fun k hk => hk.elim .inl (fun e => .inr (h2 k e))), h.cw, .inl h.cp, fun k hk => ?_, h1.pr, h1.fu, fun k e => .inl (h.so k e)⟩
  rcases hk with hk | hk
  · exact h.cn k hk
  · have := h.ja.low; have := (h2 k hk).1; omega
theorem ST.sa {g o : Nat} {a : Ac} (h : ST w c rb s C pb sv ms X) (hr : w.rangeAt g o (acL a)) : SA c rb pb g o (acL a) X := ⟨h.pr, R5.rangeAt_below hr h.bel⟩
theorem st_start {w X : World} {c : Cx} {rb tn : Nat} {I : Nat → Prop} (hcw : c.w = w) (hsn : c.Sn = []) (hJR : JR c rb tn [] I X [] [] 0 (.slice none 0 0)) {Y : World} {PA : Array Value} (hPA : PA = (prL c rb).toArray) (hY : Y = X.alloc (.cells PA 29 (0, 0))) :
    ST w c rb ⟨[], 0, []⟩ (fun k => k = X.heap.size ∨ (Value.slice none 0 0).ownBlock = some k) X.heap.size (.slice none 0 0) [] Y := by
  have hb : Below X.heap.size X Y := by rw [hY]; exact (Below.refl _ _).alloc (Nat.le_refl _) _
  have hs : Y.heap.size = X.heap.size + 1 := by rw [hY]; simp
  have h0 : JA c rb ⟨[], 0, []⟩ (fun _ => False) X := ⟨I, [], [], _, tn, hJR, rfl, fun k hk => hk.elim, fun x hx => by rw [hsn] at hx; cases hx⟩
  have hno : ∀ k, (Value.slice none 0 0).ownBlock ≠ some k := fun k e => by simp [Value.ownBlock] at e
  refine ⟨(h0.new hb).sub (fun k hk => .inr ?_), hcw, .inl rfl, fun k hk => ?_, ?_, FV.nil _ _, fun k e => absurd e (hno k)⟩
  · rcases hk with rfl | hk
    · omega
    · exact absurd hk (hno k)
  · have := h0.low
    rcases hk with rfl | hk
    · exact this
    · exact absurd hk (hno k)
  · rw [hY, ← hPA]; exact heap_alloc_new _ _
end
def cFind (t : Code → Bool) : Code → Option Code
  | .seq a b => match cFind t a with
    | some c => some c
    | none => cFind t b
  | .cond o a b => if t (.cond o a b) then some (.cond o a b) else match cFind t a with
    | some c => some c
    | none => cFind t b
  | .block i c => if t (.block i c) then some (.block i c) else cFind t c
  | .loop c => cFind t c
  | .scope c => cFind t c
  | .region i ops d => if t (.region i ops d) then some (.region i ops d) else none
  | _ => none
def isRegion (n : Nat) : Code → Bool
  | .region m _ _ => m == n
  | _ => false
def isBlock (n : Nat) : Code → Bool
  | .block m _ => m == n
  | _ => false
def rfB : Code → Option Code
  | .block _ (.rangeFunc _ _ _ b) => some b
  | _ => none
def sFind (n : Nat) : Code → Option Code
  | .seq a b => if isRegion n a then some (.seq a b) else match sFind n a with
    | some c => some c
    | none => sFind n b
  | .block _ c => sFind n c
  | .loop c => sFind n c
  | _ => none
section
variable {W0 W V w1 : World} {B q11 q12 n ka kb cx cr : Nat} {r : Rm} {vx vr : Value}
theorem li_start {ZL : Array Value} {T : TypeId} (hB : B ≤ W0.heap.size) (h11 : W0.heap[q11]? = some (.cells (rmL r vr).toArray 47 (0, 0))) (hown : W0.ownsRow B 69 172 vr r.log.length (lgC r.log)) (hne : vr.ownBlock ≠ some q11)
    (hox : w1.ownsRow W0.heap.size 69 172 vx r.log.length (lgC r.log)) (hb : Below W0.heap.size W0 w1) (hW : W = (w1.alloc (.cells ZL T (0, 0))).setRow w1.heap.size (rmL r vx).toArray) (hT : T = 47) : LI W0 B q11 w1.heap.size r vx vr 0 0 W := by
  subst hT
  have hs := hb.size
  have hbW : Below w1.heap.size w1 W := by rw [hW]; exact below_setRow ((Below.refl _ _).alloc (Nat.le_refl _) _) (Nat.le_refl _) _
  have hb0 : Below W0.heap.size W0 W := hb.trans (hbW.mono hs)
  have hq := PC.row_lt h11
  refine ⟨hb0.mono hB, (hb0.block _ hq).trans h11, by rw [hW]; exact setRow_heap _ _ _ _ _ _ (heap_alloc_new _ _), ?_, ?_, fun k e => ?_, fun k e => ?_⟩
  · rw [bmp_zero]; exact R5.own_lower (R5.own_keep hox (fun k e hl => hbW.block k hl)) hB
  · rw [bmp_zero]; exact R5.own_keep hown (fun k e hl => hb0.block k hl)
  · have h1 := World.ownsRow.lt hox k e
    refine ⟨by omega, by omega, fun e2 => ?_⟩
    have h2 := World.ownsRow.lt hown k e2
    omega
  · have h2 := World.ownsRow.lt hown k e
    exact ⟨fun e2 => hne (e2 ▸ e), by omega⟩
end
def PCE (X : World) (e : Ending) (Y : World) : Prop := ∃ og2 mo2, e = .returned (.pointer (some ⟨og2, 0, none⟩)) ∧ Y.cell? ⟨og2, 35, none⟩ = some (.map (some mo2)) ∧ X.heap.size ≤ og2 ∧ Below X.heap.size X Y
def RCE (X : World) (sl : List (Int × Rm)) (last og2 mo2 : Nat) (e : Ending) (Y : World) : Prop := ∃ xb2 mb2 l2, e = .returned (.pointer (some ⟨xb2, 0, none⟩)) ∧ KX og2 xb2 mo2 mb2 last Y l2 ∧ X.heap.size ≤ xb2 ∧ X.heap.size ≤ mb2 ∧ (∀ x ∈ l2, ∀ k, x.2.2.ownBlock = some k → X.heap.size ≤ k) ∧ (∀ z r, (z, r) ∈ sl → ∃ lv, (z, r, lv) ∈ l2) ∧ Below X.heap.size X Y
section
variable {w X Y : World} {c c' : Cx} {rb pb N : Nat} {s : Am} {C : Nat → Prop} {sv : Value} {ms : List Nat}
theorem JA.pcopy (h : JA c rb s C X) (hB : Bd N s) (hN : N ≤ 1000) : Calls Tryz.prog 20 #[.pointer (some ⟨c.og, 0, none⟩)] X fun e Y => PCE X e Y := by
  obtain ⟨I, l, rl, av, tn, h⟩ := h
  have hL := hB.L
  obtain ⟨S, dv, ov, T, dr, lvR, lds, hpo, _⟩ := h.jr.jp.mm.ex
  refine Calls.mono (R5.pcopy_any hpo (by show s.L.length < 1000000; omega)) ?_
  rintro e Y ⟨og, mb, ov', rfl, hp, hb⟩
  exact ⟨og, mb, rfl, hp.cells.2.2.2.1, hp.sog.1, hb⟩
theorem JA.rcopy (h : JA c rb s C X) (hB : Bd N s) (hN : N ≤ 1000) {og2 mo2 : Nat} (ho : X.cell? ⟨og2, 35, none⟩ = some (.map (some mo2))) : Calls Tryz.prog 19 #[.pointer (some ⟨c.xb, 0, none⟩), .pointer (some ⟨og2, 0, none⟩)] X fun e Y => RCE X s.l s.last og2 mo2 e Y := by
  obtain ⟨I, l, rl, av, tn, h⟩ := h
  have hmem : ∀ x ∈ l, (x.1, x.2.1) ∈ s.l := fun x hx => by rw [← h.ab]; exact List.mem_map.2 ⟨x, hx, rfl⟩
  refine Calls.mono (copy_any h.jr.jp (fun x hx => ?_) ho) ?_
  · have := (hB.r _ (hmem x hx)).1
    have : x.2.1.log.length ≤ N + 1 := this
    omega
  rintro e Y ⟨xb2, mb2, l2, rfl, h1, h2, h3, h4, h5, h6⟩
  refine ⟨xb2, mb2, l2, rfl, h1, h2, h3, h4, fun z r hz => ?_, h6⟩
  rw [← h.ab] at hz
  obtain ⟨x, hx, e⟩ := List.mem_map.1 hz
  obtain ⟨x1, x2, x3⟩ := x
  simp only [Prod.mk.injEq] at e
  obtain ⟨rfl, rfl⟩ := e
  exact h5 _ hx
theorem JA.copyNil (h : JA c rb s C X) : Calls Tryz.prog 19 #[.pointer (some ⟨c.xb, 0, none⟩), .pointer none] X fun e Y => e = .returned (.pointer none) ∧ Below X.heap.size X Y := by
  obtain ⟨I, l, rl, av, tn, h⟩ := h
  exact copy_nil h.jr.jp
structure AF (c c' : Cx) (rb : Nat) (s : Am) (C : Nat → Prop) (X : World) (l : List En) : Prop where
  ab : ab l = s.l
  all : Calls Tryz.prog 21 #[.pointer (some ⟨c.xb, 0, none⟩)] X fun e Y => AllEnd X l e Y
  w : c'.w = c.w
  n : c'.n = c.n
  pr : prL c' rb = prL c rb
  ja : JA c' rb s C X
  hr : ∀ W s' C', JA c' rb s' C' W → ∀ x ∈ l, HR W x.2.2 x.2.1.log
  ok : ∀ x ∈ l, x.2.1.ok ∧ x.2.1.log.length < 1000000 ∧ iOk x.1 ∧ ∀ k, x.2.2.ownBlock = some k → k < X.heap.size
  n1 : l.length ≤ 1000000
  nd : (l.map (·.1)).Nodup
theorem JA.all2 (h : JA c rb s C X) (hB : Bd N s) (hN : N ≤ 1000) : ∃ c' l, AF c c' rb s C X l := by
  obtain ⟨I, l, rl, av, tn, h⟩ := h
  have hln := h.rln hB
  have hmem : ∀ x ∈ l, (x.1, x.2.1) ∈ s.l := fun x hx => by rw [← h.ab]; exact List.mem_map.2 ⟨x, hx, rfl⟩
  have hlen : rl.length = l.length := hln.1.symm
  have hn : l.length ≤ 1000000 := by omega
  have hS : SnOk { c with Sn := l.map fun x => (x.2.2, x.2.1.log) } rb C I X l rl av := fun x hx => by
    obtain ⟨y, hy, rfl⟩ := List.mem_map.1 hx
    exact ⟨h.jr.jp.px.hr hy, (h.jr.jp.px.ok y hy).l, fun g hg => .inl ⟨y, hy, hg, Nat.le_refl _⟩⟩
  refine ⟨{ c with Sn := l.map fun x => (x.2.2, x.2.1.log) }, l, h.ab, all_any h.jr.jp hn, rfl, rfl, rfl, ⟨I, l, rl, av, tn, ⟨⟨⟨h.jr.jp.mm, h.jr.jp.px⟩, ⟨h.jr.rx.row, h.jr.rx.own, h.jr.rx.ok, h.jr.rx.logs, h.jr.rx.lI, h.jr.rx.fI, h.jr.rx.aI⟩, h.jr.ab, h.jr.d1, h.jr.d2, h.jr.d3⟩, h.ab, h.cc, hS⟩⟩, fun W s' C' hW x hx => ?_, fun x hx => ⟨h.jr.jp.px.ok x hx, ?_, h.jr.jp.px.map.iok x hx, fun k e => HO.lt (h.jr.jp.px.own x hx) k e⟩, hn, h.jr.jp.px.map.once⟩
  · obtain ⟨I', l', rl', av', tn', hw⟩ := hW
    exact (hw.sn (x.2.2, x.2.1.log) (List.mem_map.2 ⟨x, hx, rfl⟩)).1
  · have := (hB.r _ (hmem x hx)).1
    have : x.2.1.log.length ≤ N + 1 := this
    omega
theorem ST.to (h : ST w c rb s C pb sv ms X) (hw : c'.w = c.w) (hn : c'.n = c.n) (hp : prL c' rb = prL c rb) (ja : JA c' rb s C X) : ST w c' rb s C pb sv ms X :=
  ⟨ja, hw.trans h.cw, h.cp, fun k hk => by rw [hn]; exact h.cn k hk, by rw [hp]; exact h.pr, h.fu, h.so⟩
structure KC (N0 cb : Nat) (sl : List (Int × Rm)) (og2 xb2 mo2 mb2 last : Nat) (l2 : List En) (X : World) : Prop where
  cell : X.cell? ⟨cb, 0, none⟩ = some (.pointer (some ⟨xb2, 0, none⟩))
  kx : KX og2 xb2 mo2 mb2 last X l2
  fr : KXF N0 og2 xb2 mb2 l2
  cb : N0 ≤ cb
  mem : ∀ z r, (z, r) ∈ sl → ∃ lv, (z, r, lv) ∈ l2
variable {N0 cb og2 xb2 mo2 mb2 last : Nat} {sl : List (Int × Rm)} {l2 : List En}
theorem KC.keep (h : KC N0 cb sl og2 xb2 mo2 mb2 last l2 X) (hk : ∀ k, N0 ≤ k → k < X.heap.size → Y.heap[k]? = X.heap[k]?) : KC N0 cb sl og2 xb2 mo2 mb2 last l2 Y :=
  ⟨(World.cell?_of_block (a := ⟨cb, 0, none⟩) (hk cb h.cb (cell_lt h.cell))).trans h.cell, h.kx.keep h.fr hk, h.fr, h.cb, h.mem⟩
theorem KC.step (h : KC N0 cb sl og2 xb2 mo2 mb2 last l2 X) (hb : Below X.heap.size X Y) : KC N0 cb sl og2 xb2 mo2 mb2 last l2 Y := h.keep (fun k _ hl => hb.block k hl)
theorem xl_cell {x : Nat} (hr : X.heap[cb]? = some (.cells #[.pointer (some ⟨x, 0, none⟩)] 26 (0, 0))) : X.cell? ⟨cb, 0, none⟩ = some (.pointer (some ⟨x, 0, none⟩)) := by rw [cell_of_row _ _ 0 _ _ _ hr]; rfl
end
theorem ap_tail {V0 X2 W : World} {lp cb q11 q12 k cx cr xb2 B : Nat} {px pr : Option Addr} {z : Int} {r : Rm} {t0 t1 t2 t3 t4 t5 t6 t8 t9 t13 t14 t15 t16 t17 t18 t19 t20 t21 t22 t23 t24 t25 t26 t27 t28 t29 t30 t31 t32 t33 t34 t35 t36 t37 t38 t39 t40 t41 t42 t43 t44 t45 t46 t47 t48 t49 t50 t51 t52 t53 t54 t55 t56 t57 t58 t59 t60 t61 t62 t63 t64 t65 t66 t67 t68 t69 t70 t71 t72 t73 t74 t75 t76 t77 t78 t79 t80 t81 t82 t83 t84 t85 t86 t87 t88 t89 t90 t91 t92 t93 t94 t95 t96 t97 t98 t99 t100 t101 t102 t103 t104 t105 t106 t107 t108 t109 t110 t111 t112 t113 t114 t115 t116 t117 t118 t119 t120 t121 t122 t123 t124 t125 t126 t127 t128 t129 t130 t131 t132 t133 t134 t135 t136 t137 : Value}
    (HGT : Hid (∀ V, Below V0.heap.size V0 V → Calls Tryz.prog 12 #[.pointer (some ⟨xb2, 0, none⟩), .int .i64 z] V fun e Y => GEnd V r 0 e Y)) (HCB : Hid (∀ V, Below V0.heap.size V0 V → V.cell? ⟨cb, 0, none⟩ = some (.pointer (some ⟨xb2, 0, none⟩))))
    (HBV : Hid (V0.heap.size ≤ B)) (HB0 : Hid (Below V0.heap.size V0 X2)) (hBW : B ≤ W.heap.size) (HOK : Hid r.ok) (HN : Hid (k = r.log.length)) (HLL : Hid (k < 1000000)) (HLI : Hid (LI X2 B q11 q12 r (.slice px k cx) (.slice pr k cr) k k W)) :
    Code.wpIn (Fence.wide.inRound lp) 7 Tryz.prog ((((Tryz.f5.body.bind (cFind (isBlock 4))).bind rfB).bind (sFind 29)).getD .skip) (fun e _ X3 => e = .normal ∧ Below B X2 X3) ⟨List.toArray (t0 :: t1 :: t2 :: t3 :: t4 :: t5 :: t6 :: (.pointer (some ⟨cb, 0, none⟩)) :: t8 :: t9 :: (.int .i64 z) :: (.pointer (some ⟨q11, 0, none⟩)) :: (.pointer (some ⟨q12, 0, none⟩)) :: t13 :: t14 :: t15 :: t16 :: t17 :: t18 :: t19 :: t20 :: t21 :: t22 :: t23 :: t24 :: t25 :: t26 :: t27 :: t28 :: t29 :: t30 :: t31 :: t32 :: t33 :: t34 :: t35 :: t36 :: t37 :: t38 :: t39 :: t40 :: t41 :: t42 :: t43 :: t44 :: t45 :: t46 :: t47 :: t48 :: t49 :: t50 :: t51 :: t52 :: t53 :: t54 :: t55 :: t56 :: t57 :: t58 :: t59 :: t60 :: t61 :: t62 :: t63 :: t64 :: t65 :: t66 :: t67 :: t68 :: t69 :: t70 :: t71 :: t72 :: t73 :: t74 :: t75 :: t76 :: t77 :: t78 :: t79 :: t80 :: t81 :: t82 :: t83 :: t84 :: t85 :: t86 :: t87 :: t88 :: t89 :: t90 :: t91 :: t92 :: t93 :: t94 :: t95 :: t96 :: t97 :: t98 :: t99 :: t100 :: t101 :: t102 :: t103 :: t104 :: t105 :: t106 :: t107 :: t108 :: t109 :: t110 :: t111 :: t112 :: t113 :: t114 :: t115 :: t116 :: t117 :: t118 :: t119 :: t120 :: t121 :: t122 :: t123 :: t124 :: t125 :: t126 :: t127 :: t128 :: t129 :: t130 :: t131 :: t132 :: t133 :: t134 :: t135 :: t136 :: t137 :: []), []⟩ W := by
  have hz0 := fun W => zero_rm W
  obtain ⟨ZL, hZL⟩ : ∃ L, L = rmL zR (.slice none 0 0) := ⟨_, rfl⟩
  rw [← hZL] at hz0
  have HZS : Hid (ZL.toArray.size = 103) := by show _ = _; rw [hZL]; simpa using rmL_len zR_ok _
  clear hZL
  conv => arg 4; whnf
  have HLF : Hid (LI X2 B q11 q12 r (.slice px k cx) (.slice pr k cr) k k W) := HLI.out
  have hbv : Below V0.heap.size V0 W := HB0.out.trans (HLF.out.bel.mono HBV.out)
  have hc1 := HCB.out W hbv
  have HG2 : Hid _ := HGT.out W hbv
  have HBW : Hid _ := hBW
  clear hbv hBW HLI
  refine wpIn_seq ?_
  refine region_plain (by kernel_rfl) (fun h => by obtain ⟨_, _, h1, _⟩ := h; cases h1) ?_
  go_wp2_with fail
  refine Calls.mono HG2.out ?_
  rintro e w3 ⟨vy, rfl, hown3, hb3⟩
  obtain ⟨py, cy, hvy⟩ : ∃ p c, vy = .slice p r.log.length c := (HO.hr hown3).form
  obtain ⟨W4, hW4⟩ : ∃ W, W = (w3.alloc (.cells ZL.toArray 47 (0, 0))).setRow w3.heap.size (rmL r vy).toArray := ⟨_, rfl⟩
  have hb34 : Below w3.heap.size w3 W4 := by rw [hW4]; exact below_setRow ((Below.refl _ _).alloc (Nat.le_refl _) _) (Nat.le_refl _) _
  have HB4 : Hid (Below W.heap.size W W4) := hb3.trans (hb34.mono hb3.size)
  have HL5 : Hid (LI X2 B q11 q12 r (.slice px k cx) (.slice pr k cr) k k W4) := HLF.out.below HBW.out HB4.out
  have HOY : Hid (HR W4 vy r.log) := (HO.hr hown3).below hb34
  have hry : W4.heap[w3.heap.size]? = some (.cells (rmL r vy).toArray 47 (0, 0)) := by rw [hW4]; exact setRow_heap _ _ _ _ _ _ (heap_alloc_new _ _)
  have HC15 : Hid (W4.cell? ⟨w3.heap.size, 36, none⟩ = some vy) := by show _ = _; rw [cell_of_row _ _ 36 _ _ _ hry, List.getElem?_toArray]; exact rmL_36 HOK.out _
  have HC12 : Hid _ := HL5.out.c12 HOK.out
  have HYN : Hid ((rmL r vy).length = 103) := rmL_len HOK.out _
  have HY1 : Hid ((rmL r vy).toArray.all (·.oneCell') = true) := rmL_onea r (HO.hr hown3)
  rw [← HN.out] at hvy
  subst hvy
  obtain ⟨YL, hYL⟩ : ∃ YL, YL = rmL r (.slice py k cy) := ⟨_, rfl⟩
  rw [← hYL] at HYN HY1 hW4 ⊢
  have HYS : Hid (YL.toArray.size = 103) := by show _ = _; simpa using HYN.out
  have HYI : Hid ((Tryz.prog.info? 47).map (·.size) = some YL.toArray.size) := info103a _ HYS.out
  have HYM : Hid (ZL.toArray.size = YL.toArray.size) := HZS.out.trans HYS.out.symm
  have HRB : Hid ((w3.alloc (.cells ZL.toArray 47 (0, 0))).heap[w3.heap.size]? = some (.cells ZL.toArray 47 (0, 0))) := heap_alloc_new _ _
  have HEND : Hid (Below B X2 W4) := HL5.out.bel
  have HS4 : Hid (B ≤ W4.heap.size) := by have := HBW.out; have := HB4.out.size; show _ ≤ _; omega
  clear hown3 hb3 hb34 hry hYL hc1 HG2 HLF HB4
  go_wp2_with (refine wpList_store_row rfl 47 _ _ rfl w3.heap.size YL.toArray rfl rfl 47 ZL.toArray HRB.out HYI.out HYM.out HY1.out ?_; rw [← hW4]; clear hW4)
  change Code.wpIn _ _ _ _ _ _ _
  generalize w3.heap.size = q15 at *
  have hc15 := HC15.out
  have hc12 := HC12.out
  refine wpIn_seq ?_
  refine region_plain (by kernel_rfl) (fun h => by obtain ⟨_, _, h1, _⟩ := h; cases h1) ?_
  by_cases hn0 : k = 0
  · subst hn0
    go_wp2_with fail
    change Code.wpIn _ _ _ _ _ _ _
    refine wpIn_cond_false (by rfl) (wpIn_skip ?_)
    first | exact ⟨rfl, HEND.out⟩ | exact ⟨trivial, HEND.out⟩
  · have hnI : (0 : Int) < (k : Int) := by omega
    obtain ⟨x, xs, hxs⟩ := List.exists_cons_of_ne_nil (l := r.log) (fun e => by have h := HN.out; rw [e] at h; exact hn0 h)
    have e : bmp k r.log = bR x :: xs.map bR := by rw [HN.out, hxs]; exact bmp_all x xs
    have h1 := HL5.out.ox
    rw [← bmp_len k r.log] at h1
    have h2 := HO.hr h1
    rw [e] at h2
    have h3 := HOY.out
    rw [hxs] at h3
    have HSL : Hid (Calls Tryz.prog 22 #[.slice py k cy, .slice px k cx] W4 fun e Y => e = .returned (.bool false) ∧ Below W4.heap.size W4 Y) := samelog_ne _ _ x xs (xs.map bR) W4 (by rw [← hxs, ← HN.out]; exact HLL.out) (by simp) (by rw [← hxs]; exact HOK.out.l) (by rw [← e]; exact bmp_ok k HOK.out.l) h3 h2
    clear e h1 h2 h3 hxs
    go_wp2_with (go_at_call 22; fail)
    refine Calls.mono HSL.out ?_
    rintro e W5 ⟨rfl, hb5⟩
    have HE5 : Hid (Below B X2 W5) := HEND.out.trans (hb5.mono HS4.out)
    clear hb5 HSL hc15 hc12
    go_wp2_with fail
    change Code.wpIn _ _ _ _ _ _ _
    refine wpIn_cond_false (by rfl) (wpIn_skip ?_)
    first | exact ⟨rfl, HE5.out⟩ | exact ⟨trivial, HE5.out⟩
theorem ap_loop {X2 W2 : World} {lp cb q11 q12 n cx cr B : Nat} {px pr : Option Addr} {z : Int} {r : Rm} {K : Act → World → Prop} {t0 t1 t2 t3 t4 t5 t6 t8 t9 t13 t15 t16 t17 t18 t19 t20 t21 t22 t23 t24 t25 t26 t27 t28 t29 t30 t31 t32 t33 t34 t35 t36 t37 t38 t39 t40 t41 t42 t43 t44 t45 t46 t47 t48 t49 t50 t51 t52 t53 t54 t55 t56 t57 t58 t59 t60 t61 t62 t63 t64 t65 t66 t67 t68 t69 t70 t71 t72 t73 t74 t75 t76 t77 t78 t79 t80 t81 t82 t83 t84 t85 t86 t87 t88 t89 t90 t91 t92 t93 t94 t95 t96 t97 t98 t99 t100 t101 t102 t103 t104 t105 t106 t107 t108 t109 t110 t111 t112 t113 t114 t115 t116 t117 t118 t119 t120 t121 t122 t123 t124 t125 t126 t127 t128 t129 t130 t131 t132 t133 t134 t135 t136 t137 : Value} (HOK : Hid r.ok) (HN : Hid (n = r.log.length)) (HLL : Hid (n < 1000000)) (HL2 : Hid (LI X2 B q11 q12 r (.slice px n cx) (.slice pr n cr) 0 0 W2))
    (hK : ∀ {u14 u87 u88 u89 u90 u91 u92 u93 u94 u95 u96 u97 u98 u99 u100 u101 u102 u103 u104 u105 u106 u107 u108 u109 u110 u111 : Value} (W : World), LI X2 B q11 q12 r (.slice px n cx) (.slice pr n cr) n n W → W2.heap.size = W.heap.size → K ⟨List.toArray (t0 :: t1 :: t2 :: t3 :: t4 :: t5 :: t6 :: (.pointer (some ⟨cb, 0, none⟩)) :: t8 :: t9 :: (.int .i64 z) :: (.pointer (some ⟨q11, 0, none⟩)) :: (.pointer (some ⟨q12, 0, none⟩)) :: t13 :: u14 :: t15 :: t16 :: t17 :: t18 :: t19 :: t20 :: t21 :: t22 :: t23 :: t24 :: t25 :: t26 :: t27 :: t28 :: t29 :: t30 :: t31 :: t32 :: t33 :: t34 :: t35 :: t36 :: t37 :: t38 :: t39 :: t40 :: t41 :: t42 :: t43 :: t44 :: t45 :: t46 :: t47 :: t48 :: t49 :: t50 :: t51 :: t52 :: t53 :: t54 :: t55 :: t56 :: t57 :: t58 :: t59 :: t60 :: t61 :: t62 :: t63 :: t64 :: t65 :: t66 :: t67 :: t68 :: t69 :: t70 :: t71 :: t72 :: t73 :: t74 :: t75 :: t76 :: t77 :: t78 :: t79 :: t80 :: t81 :: t82 :: t83 :: t84 :: t85 :: t86 :: u87 :: u88 :: u89 :: u90 :: u91 :: u92 :: u93 :: u94 :: u95 :: u96 :: u97 :: u98 :: u99 :: u100 :: u101 :: u102 :: u103 :: u104 :: u105 :: u106 :: u107 :: u108 :: u109 :: u110 :: u111 :: t112 :: t113 :: t114 :: t115 :: t116 :: t117 :: t118 :: t119 :: t120 :: t121 :: t122 :: t123 :: t124 :: t125 :: t126 :: t127 :: t128 :: t129 :: t130 :: t131 :: t132 :: t133 :: t134 :: t135 :: t136 :: t137 :: []), []⟩ W) :
    Code.wpIn (Fence.wide.inRound lp) 7 Tryz.prog ((((Tryz.f5.body.bind (cFind (isBlock 4))).bind rfB).bind (cFind (isBlock 6))).getD .skip) (Exit.then K (fun _ _ _ => False)) ⟨List.toArray (t0 :: t1 :: t2 :: t3 :: t4 :: t5 :: t6 :: (.pointer (some ⟨cb, 0, none⟩)) :: t8 :: t9 :: (.int .i64 z) :: (.pointer (some ⟨q11, 0, none⟩)) :: (.pointer (some ⟨q12, 0, none⟩)) :: t13 :: (.int .i64 0) :: t15 :: t16 :: t17 :: t18 :: t19 :: t20 :: t21 :: t22 :: t23 :: t24 :: t25 :: t26 :: t27 :: t28 :: t29 :: t30 :: t31 :: t32 :: t33 :: t34 :: t35 :: t36 :: t37 :: t38 :: t39 :: t40 :: t41 :: t42 :: t43 :: t44 :: t45 :: t46 :: t47 :: t48 :: t49 :: t50 :: t51 :: t52 :: t53 :: t54 :: t55 :: t56 :: t57 :: t58 :: t59 :: t60 :: t61 :: t62 :: t63 :: t64 :: t65 :: t66 :: t67 :: t68 :: t69 :: t70 :: t71 :: t72 :: t73 :: t74 :: t75 :: t76 :: t77 :: t78 :: t79 :: t80 :: t81 :: t82 :: t83 :: t84 :: t85 :: t86 :: t87 :: t88 :: t89 :: t90 :: t91 :: t92 :: t93 :: t94 :: t95 :: t96 :: t97 :: t98 :: t99 :: t100 :: t101 :: t102 :: t103 :: t104 :: t105 :: t106 :: t107 :: t108 :: t109 :: t110 :: t111 :: t112 :: t113 :: t114 :: t115 :: t116 :: t117 :: t118 :: t119 :: t120 :: t121 :: t122 :: t123 :: t124 :: t125 :: t126 :: t127 :: t128 :: t129 :: t130 :: t131 :: t132 :: t133 :: t134 :: t135 :: t136 :: t137 :: []), []⟩ W2 := by
  have HK : Hid _ := @hK
  clear hK
  conv => arg 4; whnf
  refine wpIn_block ?_
  gi_loopw [14] (fun i wr => ∃ k : Nat, k ≤ n ∧ i = .int .i64 (k : Int) ∧ LI X2 B q11 q12 r (.slice px n cx) (.slice pr n cr) k k wr ∧ W2.heap.size = wr.heap.size) (fun i _ => n - (intOf i).toNat)
  case atStart => exact ⟨0, Nat.zero_le _, rfl, HL2.out, rfl⟩
  case round =>
    clear HL2
    obtain ⟨k, hk, rfl, hLI, hsz⟩ := hrel
    have HLI : Hid _ := hLI
    have HSZ : Hid _ := hsz
    generalize wr = W at *
    have hc12 := hLI.c12 HOK.out
    clear hLI hsz
    refine wpIn_seq (wpIn_seq ?_)
    refine region_plain (by kernel_rfl) (fun h => by obtain ⟨_, _, h1⟩ := h; exact h1) ?_
    by_cases hlt : k < n
    · have hkI : (k : Int) < (n : Int) := by omega
      have hnn : n < 1000000 := HLL.out
      obtain ⟨x, hx⟩ : ∃ x, r.log[k]? = some x := ⟨_, List.getElem?_eq_getElem (by rw [← HN.out]; exact hlt)⟩
      obtain ⟨gx, hpx, hcx, hfx, hL3⟩ := LI.bx HLI.out HN.out HOK.out hx
      subst hpx
      obtain ⟨gr, hpr, hcr, hfr, hL4⟩ := LI.br hL3 HN.out HOK.out hx
      subst hpr
      have HC11 : Hid _ := hL3.c11 HOK.out
      have HL4 : Hid _ := hL4
      have HCR : Hid _ := hcr
      have HFR : Hid _ := hfr
      have HLT : Hid (k < n) := hlt
      clear hL3 hL4 hcr hfr hx HLI
      go_wp2_with fail
      change Code.wpIn _ _ _ _ _ _ _
      refine wpIn_cond_true (by rfl) (wpIn_skip ?_)
      change Code.wpIn _ _ _ _ _ _ _
      refine wpIn_seq (wpIn_block (wpIn_seq ?_))
      refine region_plain (by kernel_rfl) (fun h => by obtain ⟨_, _, h1⟩ := h; exact h1) ?_
      go_wp2_with fail
      change Code.wpIn _ _ _ _ _ _ _
      have hc11 := HC11.out
      have hcr := HCR.out
      have hfr := HFR.out
      generalize hW3 : W.setCell ⟨gx, k * 172 + 33, none⟩ (.int .i64 (wrap64 (x.page + 1))) = W3 at *
      clear hc12 hcx hfx HC11 HCR HFR
      refine region_plain (by kernel_rfl) (fun h => by obtain ⟨_, _, h1⟩ := h; exact h1) ?_
      go_wp2_with fail
      change Code.wpIn _ _ _ _ _ _ _
      refine region_plain (by kernel_rfl) (fun h => by obtain ⟨_, _, h1⟩ := h; exact h1) ?_
      go_wp2_with fail
      go_roundw
      case rel => exact ⟨k + 1, by have := HLT.out; omega, by go_num, HL4.out, by have := HSZ.out; rw [← hW3]; simpa using this⟩
      case measure => simp [intOf]; omega
    · have hkI : ¬ (k : Int) < (n : Int) := by omega
      have hke : k = n := by omega
      subst hke
      go_wp2_with fail
      change Code.wpIn _ _ _ _ _ _ _
      refine wpIn_cond_false (by rfl) (wpIn_exit ?_)
      exact HK.out _ HLI.out HSZ.out
theorem ap_round {V0 X2 : World} {lp cb q11 og2 xb2 mo2 mb2 last B : Nat} {l2 : List En} {z : Int} {r : Rm} {v' : Value} {t0 t1 t2 t3 t4 t5 t6 t8 t9 t12 t13 t14 t15 t16 t17 t18 t19 t20 t21 t22 t23 t24 t25 t26 t27 t28 t29 t30 t31 t32 t33 t34 t35 t36 t37 t38 t39 t40 t41 t42 t43 t44 t45 t46 t47 t48 t49 t50 t51 t52 t53 t54 t55 t56 t57 t58 t59 t60 t61 t62 t63 t64 t65 t66 t67 t68 t69 t70 t71 t72 t73 t74 t75 t76 t77 t78 t79 t80 t81 t82 t83 t84 t85 t86 t87 t88 t89 t90 t91 t92 t93 t94 t95 t96 t97 t98 t99 t100 t101 t102 t103 t104 t105 t106 t107 t108 t109 t110 t111 t112 t113 t114 t115 t116 t117 t118 t119 t120 t121 t122 t123 t124 t125 t126 t127 t128 t129 t130 t131 t132 t133 t134 t135 t136 t137 : Value}
    (hz : iOk z) (hok : r.ok) (hll : r.log.length < 1000000) (hkx : KX og2 xb2 mo2 mb2 last V0 l2) (hmem : ∃ lv, (z, r, lv) ∈ l2) (hcb : V0.cell? ⟨cb, 0, none⟩ = some (.pointer (some ⟨xb2, 0, none⟩))) (hB : V0.heap.size ≤ B) (hb0 : Below V0.heap.size V0 X2)
    (h11 : X2.heap[q11]? = some (.cells (rmL r v').toArray 47 (0, 0))) (hBq : B ≤ q11) (hown : X2.ownsRow B 69 172 v' r.log.length (lgC r.log)) (hne : v'.ownBlock ≠ some q11) :
    Code.wpIn (Fence.wide.inRound lp) 7 Tryz.prog (((Tryz.f5.body.bind (cFind (isBlock 4))).bind rfB).getD .skip) (fun e _ X3 => e = .normal ∧ Below B X2 X3) ⟨List.toArray (t0 :: t1 :: t2 :: t3 :: t4 :: t5 :: t6 :: (.pointer (some ⟨cb, 0, none⟩)) :: t8 :: t9 :: (.int .i64 z) :: (.pointer (some ⟨q11, 0, none⟩)) :: t12 :: t13 :: t14 :: t15 :: t16 :: t17 :: t18 :: t19 :: t20 :: t21 :: t22 :: t23 :: t24 :: t25 :: t26 :: t27 :: t28 :: t29 :: t30 :: t31 :: t32 :: t33 :: t34 :: t35 :: t36 :: t37 :: t38 :: t39 :: t40 :: t41 :: t42 :: t43 :: t44 :: t45 :: t46 :: t47 :: t48 :: t49 :: t50 :: t51 :: t52 :: t53 :: t54 :: t55 :: t56 :: t57 :: t58 :: t59 :: t60 :: t61 :: t62 :: t63 :: t64 :: t65 :: t66 :: t67 :: t68 :: t69 :: t70 :: t71 :: t72 :: t73 :: t74 :: t75 :: t76 :: t77 :: t78 :: t79 :: t80 :: t81 :: t82 :: t83 :: t84 :: t85 :: t86 :: t87 :: t88 :: t89 :: t90 :: t91 :: t92 :: t93 :: t94 :: t95 :: t96 :: t97 :: t98 :: t99 :: t100 :: t101 :: t102 :: t103 :: t104 :: t105 :: t106 :: t107 :: t108 :: t109 :: t110 :: t111 :: t112 :: t113 :: t114 :: t115 :: t116 :: t117 :: t118 :: t119 :: t120 :: t121 :: t122 :: t123 :: t124 :: t125 :: t126 :: t127 :: t128 :: t129 :: t130 :: t131 :: t132 :: t133 :: t134 :: t135 :: t136 :: t137 :: []), []⟩ X2 := by
  obtain ⟨lv, hm⟩ := hmem
  have HGT : Hid (∀ V, Below V0.heap.size V0 V → Calls Tryz.prog 12 #[.pointer (some ⟨xb2, 0, none⟩), .int .i64 z] V fun e Y => GEnd V r 0 e Y) := fun V hb => KX.get (hkx.step hb) hz r lv (List.append_of_mem hm)
  have HCB : Hid (∀ V, Below V0.heap.size V0 V → V.cell? ⟨cb, 0, none⟩ = some (.pointer (some ⟨xb2, 0, none⟩))) := fun V hb => (hb.cell (p := ⟨cb, 0, none⟩) (cell_lt hcb)).trans hcb
  have hq11 := PC.row_lt h11
  have HBX : Hid (B ≤ X2.heap.size) := by show _ ≤ _; omega
  have HB0 : Hid _ := hb0
  have HOK : Hid r.ok := hok
  have HLL : Hid (r.log.length < 1000000) := hll
  have HBV : Hid (V0.heap.size ≤ B) := hB
  have HLS : Hid (∀ (w1 W : World) (vx : Value) (ZL : Array Value), w1.ownsRow X2.heap.size 69 172 vx r.log.length (lgC r.log) → Below X2.heap.size X2 w1 → W = (w1.alloc (.cells ZL 47 (0, 0))).setRow w1.heap.size (rmL r vx).toArray → LI X2 B q11 w1.heap.size r vx v' 0 0 W) := fun w1 W vx ZL h1 h2 h3 => li_start HBX.out h11 hown hne h1 h2 h3 rfl
  obtain ⟨pr, cr, hvr⟩ : ∃ p c, v' = .slice p r.log.length c := (HO.hr hown).form
  subst hvr
  have hz0 := fun W => zero_rm W
  obtain ⟨ZL, hZL⟩ : ∃ L, L = rmL zR (.slice none 0 0) := ⟨_, rfl⟩
  rw [← hZL] at hz0
  have HZS : Hid (ZL.toArray.size = 103) := by show _ = _; rw [hZL]; simpa using rmL_len zR_ok _
  have hc1 := HCB.out X2 hb0
  clear hZL hz hkx hm hcb hown hne h11 hBq hB hok hll hb0 hq11
  conv => arg 4; whnf
  refine wpIn_block (wpIn_seq ?_)
  refine region_plain (by kernel_rfl) (fun h => by obtain ⟨_, _, h1, _⟩ := h; cases h1) ?_
  go_wp2_with fail
  refine Calls.mono (HGT.out X2 HB0.out) ?_
  rintro e w1 ⟨vx, rfl, hown1, hb1⟩
  obtain ⟨px, cx, hvx⟩ : ∃ p c, vx = .slice p r.log.length c := (HO.hr hown1).form
  obtain ⟨W1, hW1⟩ : ∃ W, W = (w1.alloc (.cells ZL.toArray 47 (0, 0))).setRow w1.heap.size (rmL r vx).toArray := ⟨_, rfl⟩
  have HL1 : Hid (LI X2 B q11 w1.heap.size r vx (.slice pr r.log.length cr) 0 0 W1) := HLS.out w1 W1 vx ZL.toArray hown1 hb1 hW1
  have HBW : Hid (Below X2.heap.size X2 W1) := by
    show Below _ _ _
    rw [hW1]; exact below_setRow (hb1.alloc hb1.size _) hb1.size _
  have HNN : Hid ((rmL r vx).length = 103) := rmL_len HOK.out _
  have HN1 : Hid ((rmL r vx).toArray.all (·.oneCell') = true) := rmL_onea r (HO.hr hown1)
  subst hvx
  have hw1 : w1.heap.size < W1.heap.size := PC.row_lt HL1.out.r12
  obtain ⟨NL, hNL⟩ : ∃ NL, NL = rmL r (.slice px r.log.length cx) := ⟨_, rfl⟩
  rw [← hNL] at HNN HN1 hW1 ⊢
  have HNS : Hid (NL.toArray.size = 103) := by show _ = _; simpa using HNN.out
  have HNI : Hid ((Tryz.prog.info? 47).map (·.size) = some NL.toArray.size) := info103a _ HNS.out
  have HNJ : Hid _ := info103 NL HNN.out
  have HZM : Hid (ZL.toArray.size = NL.toArray.size) := HZS.out.trans HNS.out.symm
  have HRA : Hid ((w1.alloc (.cells ZL.toArray 47 (0, 0))).heap[w1.heap.size]? = some (.cells ZL.toArray 47 (0, 0))) := heap_alloc_new _ _
  have HNL : Hid (NL = rmL r (.slice px r.log.length cx)) := hNL
  clear hown1 hb1 hNL hc1 HLS
  go_wp2_with (refine wpList_store_row rfl 47 _ _ rfl w1.heap.size NL.toArray rfl rfl 47 ZL.toArray HRA.out HNI.out HZM.out HN1.out ?_; rw [← hW1]; clear hW1)
  change Code.wpIn _ _ _ _ _ _ _
  generalize w1.heap.size = q12 at *
  have HR12 : Hid (W1.rangeAt q12 0 NL) := by show World.rangeAt _ _ _ _; rw [HNL.out]; exact PC.rangeAt_row HL1.out.r12
  obtain ⟨ML, hML⟩ : ∃ ML, ML = rmL r (.slice pr r.log.length cr) := ⟨_, rfl⟩
  have HR11 : Hid (W1.rangeAt q11 0 ML) := by show World.rangeAt _ _ _ _; rw [hML]; exact PC.rangeAt_row HL1.out.r11
  have HMJ : Hid _ := info103 ML (by rw [hML]; exact rmL_len HOK.out _)
  have HSM : Hid (Calls Tryz.prog 14 #[.agg NL.toArray, .agg ML.toArray] W1 fun e Y => e = .returned (.bool true) ∧ Below W1.heap.size W1 Y) := by
    show Calls _ _ _ _ _
    rw [HNL.out, hML]
    have h1 := HL1.out.ox
    have h2 := HL1.out.orr
    rw [bmp_zero] at h1 h2
    exact same_eq r _ _ W1 HOK.out HLL.out (HO.hr h1) (HO.hr h2)
  clear hML
  refine wpIn_seq (wpIn_seq ?_)
  refine region_plain (by kernel_rfl) (fun h => by obtain ⟨_, _, h1, _⟩ := h; cases h1) ?_
  go_wp2_with (first
    | (refine load_mid_g (by first | rfl | simp) 47 (.tmp 12) rfl q12 0 rfl NL _ HR12.out Tryz.underlying47 rfl HNJ.out ?_)
    | (refine load_mid_g (by first | rfl | simp) 47 (.tmp 11) rfl q11 0 rfl ML _ HR11.out Tryz.underlying47 rfl HMJ.out ?_)
    | (go_at_call 14; fail))
  refine Calls.mono HSM.out ?_
  rintro e W2 ⟨rfl, hb2⟩
  have HL2 : Hid (LI X2 B q11 q12 r (.slice px r.log.length cx) (.slice pr r.log.length cr) 0 0 W2) := HL1.out.below (by have := HBX.out; have := HBW.out.size; omega) hb2
  have HS2 : Hid (X2.heap.size ≤ W2.heap.size) := by have := HBW.out.size; have := hb2.size; show _ ≤ _; omega
  have HQ2 : Hid (q12 < W2.heap.size) := PC.row_lt HL2.out.r12
  clear hb2 HSM HL1 HBW HR12 HR11 hw1
  go_wp2_with fail
  change Code.wpIn _ _ _ _ _ _ _
  refine wpIn_cond_false (by rfl) (wpIn_skip ?_)
  change Code.wpIn _ _ _ _ _ _ _
  refine wpIn_seq (wpIn_seq ?_)
  refine region_plain (by kernel_rfl) (fun h => by obtain ⟨_, _, h1, _⟩ := h; cases h1) ?_
  go_wp2_with fail
  change Code.wpIn _ _ _ _ _ _ _
  obtain ⟨n, hn⟩ : ∃ n, n = r.log.length := ⟨_, rfl⟩
  rw [← hn] at HL2 HNL HLL
  have HN : Hid (n = r.log.length) := hn
  refine Code.wpIn_mono (Q := Exit.then (fun a X => Code.wpIn (Fence.wide.inRound lp) 7 Tryz.prog ((((Tryz.f5.body.bind (cFind (isBlock 4))).bind rfB).bind (sFind 29)).getD .skip) (fun e _ X3 => e = .normal ∧ Below B X2 X3) a X) (fun _ _ _ => False)) (fun e a X h => ?_) (ap_loop HOK HN HLL HL2 (fun W hW hsz => ?_))
  · cases e <;> first | exact h.elim | skip
    exact Code.wpIn_mono (fun e a X h => by obtain ⟨rfl, h⟩ := h; exact ⟨rfl, h⟩) h
  · exact ap_tail HGT HCB HBV HB0 (by have := HBX.out; have := HS2.out; omega) HOK HN HLL hW
end Go.Proofs.YtekbppfocnbhbaaGreat.XC
