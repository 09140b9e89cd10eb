import Derived.Test.YtekbppfocnbhbaaGreatXL
set_option linter.unusedVariables false
set_option linter.unusedSimpArgs false
set_option maxHeartbeats 16000000
set_option maxRecDepth 100000
namespace Go.Proofs.YtekbppfocnbhbaaGreat.XC
open Go.RowKit
theorem run_app_keep {P : Program} (w : World) (t ty : TypeId) (base : Nat) (e : TypeId) (i : TypeInfo) (z : Value) (size bytes : Nat) (ht : P.underlying t = some (.slice e)) (hi : P.info? e = some i) (hz : i.zero = some z)
    (hsize : i.size = size) (hby : i.bytes = bytes) (hzs : z.cells.size = size) (hsz : 0 < size)
    (v : Value) (n : Nat) (xs : List Value) (hown : w.ownsRow base e size v n xs)
    (ad : Addr) (m c : Nat) (news : List Value) (hl : news.length = m * size) (hnews : ∀ j u, news[j]? = some u → w.cell? (ad.add j) = some u) (h1 : ∀ u ∈ news, u.oneCell' = true)
    (hm : 0 < m) (h63 : n + m ≤ maxLen) (hbytes : (n + m) * bytes ≤ 140737488355328) (hbase : base ≤ w.heap.size) :
    ∃ g cap w', (Builtin.append_ #[t, t] ty #[v, .slice (some ad) m c]).run P w = .ok (.slice (some ⟨g, 0, none⟩) (n + m) cap) w' ∧
      w'.ownsRow base e size (.slice (some ⟨g, 0, none⟩) (n + m) cap) (n + m) (xs ++ news) ∧ w.grownBy w' v.ownBlock ∧ (v.ownBlock = some g ∨ (g = w.heap.size ∧ ∀ k, k < w.heap.size → w'.heap[k]? = w.heap[k]?)) ∧ g < w'.heap.size := by
  obtain ⟨g, cap, w', hr, h2, h3, h4, h5⟩ := run_append_lies (P := P) w t ty base e i z size bytes ht hi hz hsize hby hzs hsz v n xs hown ad m c news hl hnews h1 hm h63 hbytes hbase _ rfl
  refine ⟨g, cap, w', hr, h2, h3, ?_, h5⟩
  rcases h4 with h4 | h4
  · exact .inl h4
  · subst hsize
    rcases hown.2 with ⟨e1, _⟩ | ⟨g0, cap0, cur, e1, _, hg, hnc, hcm, hcs, htake⟩
    · subst e1
      exact .inr ⟨h4, fun k hk => h3.block k hk (by simp [Value.ownBlock])⟩
    · subst e1
      by_cases hroom : n + m ≤ cap0
      · have hfit : n * i.size + news.length ≤ cur.size := by rw [hl, hcs, ← Nat.add_mul]; exact Nat.mul_le_mul_right _ hroom
        have hr2 := run_append_room (P := P) w t ty e i ht hi g0 n cap0 cur hg ad m c news hl hnews h1 hroom hfit
        rw [hr] at hr2
        simp only [Result.ok.injEq, Value.slice.injEq, Option.some.injEq, Addr.mk.injEq] at hr2
        left
        show some g0 = some g
        rw [hr2.1.1.1]
      · have holds : ∀ j u, xs[j]? = some u → w.cell? ((⟨g0, 0, none⟩ : Addr).add j) = some u := hown.cells (g := g0) rfl
        have h63' : ((n + m : Nat) : Int) ≤ 9223372036854775807 := by simp only [maxLen] at h63; omega
        subst hby
        have hr2 := run_append_grow (P := P) w t ty e i z ht hi hz ⟨g0, 0, none⟩ n cap0 xs hown.1 holds ad m c news hl hnews (by omega) h63' (growslice_fits (by omega) hbytes)
        rw [hr] at hr2
        simp only [Result.ok.injEq] at hr2
        refine .inr ⟨h4, fun k hk => ?_⟩
        rw [hr2.2]
        exact heap_alloc_old w.drew _ hk
theorem wp_app_keep {P : Program} {o : Oper} {a : Act} {K : Act → World → Prop} {Q : Exit → Act → World → Prop} (w : World) (s x : Operand) (t : TypeId)
    (ho : o.op = .call { callee := .builtin .append, args := #[s, x], argTypes := #[t, t] })
    (base : Nat) (e : TypeId) (i : TypeInfo) (z : Value) (size bytes : Nat) (ht : P.underlying t = some (.slice e)) (hi : P.info? e = some i) (hz : i.zero = some z)
    (hsize : i.size = size) (hby : i.bytes = bytes) (hzs : z.cells.size = size) (hsz : 0 < size)
    (v : Value) (n : Nat) (xs : List Value) (hs : a.eval s = v) (hown : w.ownsRow base e size v n xs)
    (ad : Addr) (m c : Nat) (news : List Value) (hx : a.eval x = .slice (some ad) m c) (hl : news.length = m * size) (hnews : ∀ j u, news[j]? = some u → w.cell? (ad.add j) = some u) (h1 : ∀ u ∈ news, u.oneCell' = true)
    (hm : 0 < m) (h63 : n + m ≤ maxLen) (hbytes : (n + m) * bytes ≤ 140737488355328) (hbase : base ≤ w.heap.size)
    (h : ∀ g cap w', w'.ownsRow base e size (.slice (some ⟨g, 0, none⟩) (n + m) cap) (n + m) (xs ++ news) → w.grownBy w' v.ownBlock → (v.ownBlock = some g ∨ (g = w.heap.size ∧ ∀ k, k < w.heap.size → w'.heap[k]? = w.heap[k]?)) → g < w'.heap.size → K (a.put o.dst (.slice (some ⟨g, 0, none⟩) (n + m) cap)) w') : o.wp P a w K Q := by
  obtain ⟨g, cap, w', hr, h2, h3, h4, h5⟩ := run_app_keep (P := P) w t o.type base e i z size bytes ht hi hz hsize hby hzs hsz v n xs hown ad m c news hl hnews h1 hm h63 hbytes hbase
  unfold Oper.wp execOp
  simp only [ho, resolve, invoke, builtin, Sem.run_bind, Sem.run_pure, Result.andThen_ok, List.map_toArray, List.map_cons, List.map_nil, hs, hx, hr]
  exact h g cap w' h2 h3 h4 h5
theorem fill_rd (AL : List Value) (h : AL.length = 172) : Instr.fill (fun i => some (i * 172, 172)) ((Array.range (1 * 172)).map ((Value.agg zRd).cells[· % (Value.agg zRd).cells.size]!)) [(0, .agg AL.toArray)] = some AL.toArray := by
  iterate 172 (obtain ⟨_, _, e, g⟩ := R5.cons_of h; clear h; subst e; have h := g; clear g)
  obtain rfl := List.eq_nil_of_length_eq_zero h
  show _ = _
  kernel_rfl
section
variable {c : Cx} {tn last : Nat} {L L' R : Lg} {I : Nat → Prop} {X Y Z W W' : World} {l : List En} {r : Rm} {lv : Value} {bb : Nat}
def MsEnd (c : Cx) (tn : Nat) (L' R : Lg) (I : Nat → Prop) (W : World) (bb : Nat) (lg : List Rd) (lv : Value) (r' : Rm) (e : Ending) (W' : World) : Prop := ∃ lv', e = .returned (.tuple #[]) ∧ CD c tn L' R I W W' bb (fun _ => False) lg lv r' lv'
structure Ms (c : Cx) (tn : Nat) (L R : Lg) (I : Nat → Prop) (W : World) (xb bb last : Nat) (r : Rm) (lv : Value) : Prop where
  mm : R5.MM c.w c.n tn c.og c.mo c.rg c.m c.D L R I W W
  x : W.heap[xb]? = some (.cells (xL c.og c.mb last).toArray 80 (0, 0))
  xI : I xb
  row : W.heap[bb]? = some (.cells (rmL r lv).toArray 47 (0, 0))
  bI : I bb ∧ c.n ≤ bb
  ok : r.ok
  own : HO W lv r.log
  lI : ∀ k, lv.ownBlock = some k → I k ∧ c.n ≤ k ∧ k ≠ bb
def SM (b0 : Nat) (AL : List Value) (Y : World) : Prop := Y.heap[b0]? = some (.cells AL.toArray 69 (0, 0))
theorem ms_fin {xb g cap2 : Nat} {rec : Rd} {A : List UInt8} {U UA w' : World} (h : Ms c tn L R I W xb bb last r lv) (hrec : rec.ok) (hA : A.length = 32) (hY : R5.MM c.w c.n tn c.og c.mo c.rg c.m c.D L' R (up I W (W.alloc (.cells (rdL rec).toArray 69 (0, 0)))) (W.alloc (.cells (rdL rec).toArray 69 (0, 0))) Y)
    (hU : U = (Y.setRow bb (rmL { r with meas := A } lv).toArray).drew) (hUA : UA = U.alloc (.cells (rdL rec).toArray 69 (0, 0)))
    (hown : w'.ownsRow 0 69 172 (.slice (some ⟨g, 0, none⟩) (r.log.length + 1) cap2) (r.log.length + 1) (lgC r.log ++ rdL rec)) (hgr : UA.grownBy w' lv.ownBlock) (hgl : lv.ownBlock = some g ∨ (g = UA.heap.size ∧ ∀ k, k < UA.heap.size → w'.heap[k]? = UA.heap[k]?)) (hgw : g < w'.heap.size) :
    CD c tn L' R I W (w'.setCell ⟨bb, 36, none⟩ (.slice (some ⟨g, 0, none⟩) (r.log.length + 1) cap2)) bb (fun _ => False) r.log lv { r with meas := A, log := r.log ++ [rec] } (.slice (some ⟨g, 0, none⟩) (r.log.length + 1) cap2) := by
  obtain ⟨W1, hW1⟩ : ∃ W1, W1 = W.alloc (.cells (rdL rec).toArray 69 (0, 0)) := ⟨_, rfl⟩
  rw [← hW1] at hY
  have hs1 : W1.heap.size = W.heap.size + 1 := by rw [hW1]; simp
  have hb1 : Below W.heap.size W W1 := by rw [hW1]; exact (Below.refl _ _).alloc (Nat.le_refl _) _
  have hs2 : W1.heap.size ≤ Y.heap.size := by have := hY.ilt (k := W.heap.size) (.inr ⟨Nat.le_refl _, by omega⟩); omega
  have hsU : U.heap.size = Y.heap.size := by rw [hU]; show (Y.setRow bb _).heap.size = _; simp
  have hsA : UA.heap.size = Y.heap.size + 1 := by rw [hUA]; simp [hsU]
  have hsw := hgr.size
  have hbl := PC.row_lt h.row
  have hlvW := HO.lt h.own
  have hUk : ∀ k, k ≠ bb → U.heap[k]? = Y.heap[k]? := fun k hk => by rw [hU]; exact setRow_other _ _ _ _ hk
  have hUAk : ∀ k, k < Y.heap.size → UA.heap[k]? = U.heap[k]? := fun k hk => by rw [hUA]; exact heap_alloc_old _ _ (by omega)
  have hYk : ∀ k, k < W.heap.size → I k → Y.heap[k]? = W.heap[k]? := fun k hk hI => (hY.same k (.inl hI)).trans (hb1.block k hk)
  have hrowY : Y.heap[bb]? = some (.cells (rmL r lv).toArray 47 (0, 0)) := (hYk bb hbl h.bI.1).trans h.row
  have hok1 : ({ r with meas := A } : Rm).ok := ⟨hA, h.ok.k, h.ok.t, h.ok.l⟩
  have hrowU : U.heap[bb]? = some (.cells (rmL { r with meas := A } lv).toArray 47 (0, 0)) := by rw [hU]; exact setRow_heap _ _ _ _ _ _ hrowY
  have hlb : lv.ownBlock ≠ some bb := fun e => (h.lI bb e).2.2 rfl
  have hrowW : w'.heap[bb]? = some (.cells (rmL { r with meas := A } lv).toArray 47 (0, 0)) := (hgr.block bb (by omega) (fun e => hlb e.symm)).trans ((hUAk bb (by omega)).trans hrowU)
  have hgb : g ≠ bb := by rcases hgl with e | e; exact fun e2 => hlb (e2 ▸ e); omega
  have hsz : (w'.setCell ⟨bb, 36, none⟩ (.slice (some ⟨g, 0, none⟩) (r.log.length + 1) cap2)).heap.size = w'.heap.size := by simp
  have hZk : ∀ k, k ≠ bb → (w'.setCell ⟨bb, 36, none⟩ (.slice (some ⟨g, 0, none⟩) (r.log.length + 1) cap2)).heap[k]? = w'.heap[k]? := fun k hk => heap_setCell_other _ _ _ _ hk
  have hfr : ∀ k, k < W.heap.size → I k → k ≠ bb → lv.ownBlock ≠ some k → (w'.setCell ⟨bb, 36, none⟩ (.slice (some ⟨g, 0, none⟩) (r.log.length + 1) cap2)).heap[k]? = W.heap[k]? := fun k hk hI hkb hkl =>
    (hZk k hkb).trans ((hgr.block k (by omega) (fun e => hkl e.symm)).trans ((hUAk k (by omega)).trans ((hUk k hkb).trans (hYk k hk hI))))
  refine ⟨by omega, ?_, ?_, ⟨hA, h.ok.k, h.ok.t, fun x hx => ?_⟩, ?_, ?_, fun k hk hI hkb _ hkl => hfr k hk hI hkb hkl, ?_, by simp⟩
  · refine ⟨fun k => up I W W1 k ∨ (Y.heap.size ≤ k ∧ k < (w'.setCell ⟨bb, 36, none⟩ (.slice (some ⟨g, 0, none⟩) (r.log.length + 1) cap2)).heap.size), (hY.fix).go ⟨?_, ?_, ?_, by omega, fun k hk hn => ?_⟩ (fun k hk => hk), fun k hk => .inl (.inl hk), fun k e => ?_⟩
    · show w'.os = Y.os; rw [hgr.os, hUA, hU]; rfl
    · show w'.tape = Y.tape; rw [hgr.tape, hUA, hU]; rfl
    · show w'.output = Y.output; rw [hgr.output, hUA, hU]; rfl
    · have hkb : k ≠ bb := fun e => hn ⟨e ▸ h.bI.2, .inl (e ▸ h.bI.1)⟩
      have hkl : lv.ownBlock ≠ some k := fun e => hn ⟨(h.lI k e).2.1, .inl (h.lI k e).1⟩
      exact (hZk k hkb).trans ((hgr.block k (by omega) (fun e => hkl e.symm)).trans ((hUAk k hk).trans (hUk k hkb)))
    · have e' : g = k := by simpa [Value.ownBlock] using e
      subst e'
      rcases hgl with hg | hg
      · exact .inl (.inl (h.lI g hg).1)
      · exact .inr ⟨by omega, by omega⟩
  · rw [heap_setCell_same _ _ 36 _ _ _ hrowW, List.setIfInBounds_toArray, rmL_set36 hok1]; rfl
  · rcases List.mem_append.1 hx with hx | hx
    · exact h.ok.l x hx
    · obtain rfl : x = rec := by simpa using hx
      exact hrec
  · unfold HO
    show World.ownsRow _ 0 _ 172 _ (r.log ++ [rec]).length (lgC (r.log ++ [rec]))
    rw [lgC_snoc, List.length_append]
    exact R5.own_keep hown (fun k e _ => hZk k (by have e' : g = k := (by simpa [Value.ownBlock] using e); exact e' ▸ hgb))
  · intro k e
    have e' : g = k := by simpa [Value.ownBlock] using e
    subst e'
    rcases hgl with hg | hg
    · exact .inl hg
    · exact .inr (by omega)
  · intro k e j hj
    have hkb : k ≠ bb := (h.lI k e).2.2
    have hkW := hlvW k e
    refine (World.cell?_of_block (a := ⟨k, j, none⟩) (hZk k hkb)).trans ?_
    have hWU : UA.heap[k]? = W.heap[k]? := (hUAk k (by omega)).trans ((hUk k hkb).trans (hYk k hkW (h.lI k e).1))
    rcases hgl with hg | hg
    · have hgk : g = k := by rw [hg] at e; simpa using e
      subst hgk
      have hlen := lgC_len h.ok.l
      have hj2 : j < (lgC r.log).length := by omega
      have hx : (lgC r.log)[j]? = some (lgC r.log)[j] := List.getElem?_eq_getElem hj2
      have h1 : w'.cell? ((⟨g, 0, none⟩ : Addr).add j) = some (lgC r.log)[j] := hown.cells (g := g) rfl j _ (by rw [List.getElem?_append_left hj2]; exact hx)
      rw [PC.add_none, Nat.zero_add] at h1
      have h2 : W.cell? ((⟨g, 0, none⟩ : Addr).add j) = some (lgC r.log)[j] := World.ownsRow.cells h.own (g := g) e j _ hx
      rw [PC.add_none, Nat.zero_add] at h2
      exact h1.trans h2.symm
    · exact World.cell?_of_block (a := ⟨k, j, none⟩) ((hg.2 k (by omega)).trans hWU)
end
section
variable {c : Cx} {tn last : Nat} {L L' R : Lg} {I : Nat → Prop} {X Y Z W W' : World} {l : List En} {r : Rm} {lv : Value} {bb : Nat}
theorem msr_any {xb : Nat} (h : Ms c tn L R I W xb bb last r lv) (rec : Rd) (hrec : rec.ok) (d : Int) (pv : Value) (ls : List (List UInt8)) (hp : R5.HP W pv ls) (hll : ls.length ≤ 1048576) (hfl : ls.flatten.length ≤ 1099511627776) (hq : R5.kOk ⟨1, List.replicate 32 0, d, ls.flatten⟩) (hak : R5.askB ⟨1, List.replicate 32 0, d, ls.flatten⟩ = true) (hL : L.length < 1000000) (hlog : r.log.length < 100000) :
    Calls Tryz.prog 47 #[.pointer (some ⟨xb, 0, none⟩), .pointer (some ⟨bb, 0, none⟩), .agg (rdL rec).toArray, .int .i64 d, pv] W fun e W' =>
      MsEnd c tn (R5.nx c.D L ⟨1, List.replicate 32 0, d, ls.flatten⟩).2 R I W bb r.log lv { r with meas := (R5.nx c.D L ⟨1, List.replicate 32 0, d, ls.flatten⟩).1, log := r.log ++ [rec] } e W' := by
  obtain ⟨p, cap, hlv⟩ := (HO.hr h.own).form
  obtain ⟨W1, hW1⟩ : ∃ W1, W1 = W.alloc (.cells (rdL rec).toArray 69 (0, 0)) := ⟨_, rfl⟩
  have hb1 : Below W.heap.size W W1 := by rw [hW1]; exact (Below.refl _ _).alloc (Nat.le_refl _) _
  have hs1 : W1.heap.size = W.heap.size + 1 := by rw [hW1]; simp
  have hm1 := h.mm.go (J := up I W W1) (R5.Fr.ofBelow hb1) (fun k hk => hk)
  have hAl := h.mm.alen ⟨1, List.replicate 32 0, d, ls.flatten⟩
  have HD : Hid (Calls Tryz.prog 78 #[.pointer (some ⟨c.og, 0, none⟩), .int .i64 d, pv] W1 fun e Y => e = .returned (R5.okV (R5.nx c.D L ⟨1, List.replicate 32 0, d, ls.flatten⟩).1) ∧ R5.MM c.w c.n tn c.og c.mo c.rg c.m c.D (R5.nx c.D L ⟨1, List.replicate 32 0, d, ls.flatten⟩).2 R (up I W W1) W1 Y) := hm1.dig hL pv d ls hq (R5.hp_below hp hb1) hll hfl hak
  have HMS : Hid (Ms c tn L R I W xb bb last r lv) := h
  have hx0 : W1.cell? ⟨xb, 0, none⟩ = some (.pointer (some ⟨c.og, 0, none⟩)) := by rw [cell_of_row _ _ 0 _ _ _ ((hb1.block _ (PC.row_lt h.x)).trans h.x)]; rfl
  have hbl := PC.row_lt h.row
  have HAN : Hid ((rdL rec).length = 1 * 172) := by show _ = _; rw [rdL_len hrec]
  have HAI : Hid _ := info172 (rdL rec) (rdL_len hrec)
  have HA1 : Hid (∀ u ∈ rdL rec, u.oneCell' = true) := rdL_one rec
  have HFA : Hid _ := fill_rd (rdL rec) (rdL_len hrec)
  have HREC : Hid rec.ok := hrec
  have HBX : Hid (W1.heap[W.heap.size]? = some (.cells (rdL rec).toArray 69 (0, 0))) := by rw [hW1]; exact heap_alloc_new _ _
  obtain ⟨A, hA⟩ : ∃ A, A = (R5.nx c.D L ⟨1, List.replicate 32 0, d, ls.flatten⟩).1 := ⟨_, rfl⟩
  rw [← hA] at hAl
  have HALE : Hid (A = (R5.nx c.D L ⟨1, List.replicate 32 0, d, ls.flatten⟩).1) := hA
  have HALN : Hid (A.length = 32) := hAl
  have HOKV : Hid (R5.okV (R5.nx c.D L ⟨1, List.replicate 32 0, d, ls.flatten⟩).1 = .tuple #[.agg (A.map B8).toArray, .int .i64 0]) := by show _ = _; rw [hA]; rfl
  have HW1 : Hid (W1 = W.alloc (.cells (rdL rec).toArray 69 (0, 0))) := hW1
  have HLV : Hid (lv = .slice p r.log.length cap) := hlv
  have HB1 : Hid (Below W.heap.size W W1) := hb1
  have HS1 : Hid (W1.heap.size = W.heap.size + 1) := hs1
  have HLVW : Hid (∀ k, lv.ownBlock = some k → k < W.heap.size) := HO.lt h.own
  have HLB : Hid (lv.ownBlock ≠ some bb) := fun e => (h.lI bb e).2.2 rfl
  obtain ⟨i0, hi, hz0, hz1, hz2⟩ := info_parts infoRd
  have HI0 : Hid _ := hi
  have HIZ : Hid _ := hz0
  have HI2 : Hid _ := hz1
  have HI3 : Hid _ := hz2
  rw [hW1] at HD hx0
  obtain ⟨AL, hALd⟩ : ∃ AL, AL = rdL rec := ⟨_, rfl⟩
  rw [← hALd] at HAN HAI HA1 HFA HBX HW1 HD hx0 ⊢
  have HALD : Hid (AL = rdL rec) := hALd
  clear hi hz0 hz1 hz2 hW1 hb1 hs1 hm1 hlv h hrec hA hAl hALd hp hq hak
  go_enter Tryz.func47, Tryz.ntmps47
  go_wp2_with fail
  refine Calls.mono HD.out ?_
  rintro e Y ⟨rfl, hY⟩
  rw [HOKV.out]
  rw [← HW1.out] at hY
  have hIb : up I W W1 bb := .inl HMS.out.bI.1
  have hrY : Y.heap[bb]? = some (.cells (rmL r lv).toArray 47 (0, 0)) := (hY.same bb hIb).trans ((HB1.out.block bb hbl).trans HMS.out.row)
  have hxY : Y.heap[W.heap.size]? = some (.cells AL.toArray 69 (0, 0)) := (hY.same W.heap.size (.inr ⟨Nat.le_refl _, by have := HS1.out; omega⟩)).trans HBX.out
  have HRY : Hid _ := hrY
  have HTA : Hid ((Tryz.prog.info? 33).map (·.size) = some (A.map B8).toArray.size) := R5.info32a _ (by simpa using HALN.out)
  have HT1 : Hid _ := R5.B8_onea A
  have HFIT : Hid (4 + (A.map B8).toArray.size ≤ (rmL r lv).length) := by show _ ≤ _; rw [rmL_len HMS.out.ok]; simp [HALN.out]
  obtain ⟨V, hV⟩ : ∃ V, V = Y.setRow bb (splice (rmL r lv) 4 (A.map B8).toArray.toList).toArray := ⟨_, rfl⟩
  have hV2 : V = Y.setRow bb (rmL { r with meas := A } lv).toArray := by rw [hV]; simp [rmL_splM HMS.out.ok lv A HALN.out]
  have hok1 : ({ r with meas := A } : Rm).ok := ⟨HALN.out, HMS.out.ok.k, HMS.out.ok.t, HMS.out.ok.l⟩
  have hrU : V.drew.heap[bb]? = some (.cells (rmL { r with meas := A } lv).toArray 47 (0, 0)) := by rw [hV2]; exact setRow_heap _ _ _ _ _ _ hrY
  have hxU : V.drew.heap[W.heap.size]? = some (.cells AL.toArray 69 (0, 0)) := by rw [hV2]; exact (setRow_other _ _ _ _ (by omega)).trans hxY
  have hlU : ∀ k, lv.ownBlock = some k → V.drew.heap[k]? = W.heap[k]? := fun k e => by
    rw [hV2]
    exact (setRow_other _ _ _ _ (HMS.out.lI k e).2.2).trans ((hY.same k (.inl (HMS.out.lI k e).1)).trans (HB1.out.block k (HLVW.out k e)))
  have hoU : V.drew.ownsRow 0 69 172 lv r.log.length (lgC r.log) := R5.own_keep HMS.out.own (fun k e _ => hlU k e)
  have HML36 : Hid ((rmL { r with meas := A } lv)[36]? = some (.slice p r.log.length cap)) := by show _ = _; rw [rmL_36 hok1, HLV.out]
  have HFIN : Hid (∀ g cap2 w', w'.ownsRow 0 69 172 (.slice (some ⟨g, 0, none⟩) (r.log.length + 1) cap2) (r.log.length + 1) (lgC r.log ++ AL) → (V.drew.alloc (.cells AL.toArray 69 (0, 0))).grownBy w' (Value.slice p r.log.length cap).ownBlock → ((Value.slice p r.log.length cap).ownBlock = some g ∨ (g = (V.drew.alloc (.cells AL.toArray 69 (0, 0))).heap.size ∧ ∀ k, k < (V.drew.alloc (.cells AL.toArray 69 (0, 0))).heap.size → w'.heap[k]? = (V.drew.alloc (.cells AL.toArray 69 (0, 0))).heap[k]?)) → g < w'.heap.size → MsEnd c tn (R5.nx c.D L ⟨1, List.replicate 32 0, d, ls.flatten⟩).2 R I W bb r.log lv { r with meas := (R5.nx c.D L ⟨1, List.replicate 32 0, d, ls.flatten⟩).1, log := r.log ++ [rec] } (.returned (.tuple #[])) (w'.setCell ⟨bb, 36, none⟩ (.slice (some ⟨g, 0, none⟩) (r.log.length + 1) cap2))) := by
    intro g cap2 w' h1 h2 h3 h4
    rw [← HLV.out] at h2 h3
    refine ⟨.slice (some ⟨g, 0, none⟩) (r.log.length + 1) cap2, rfl, ?_⟩
    rw [← HALE.out]
    rw [HALD.out] at h1 h2 h3
    rw [HW1.out, HALD.out] at hY
    exact ms_fin HMS.out HREC.out HALN.out hY (by rw [hV2]) rfl h1 h2 h3 h4
  have HV : Hid (V = Y.setRow bb (splice (rmL r lv) 4 (A.map B8).toArray.toList).toArray) := hV
  have HSMU : Hid (SM W.heap.size AL V.drew) := hxU
  have HRU : Hid (V.drew.heap[bb]? = some (.cells (rmL { r with meas := A } lv).toArray 47 (0, 0))) := hrU
  have HOU : Hid (V.drew.ownsRow 0 69 172 (.slice p r.log.length cap) r.log.length (lgC r.log)) := HLV.out ▸ hoU
  have hbU : bb < V.drew.heap.size := PC.row_lt hrU
  generalize rmL r lv = RL at *
  generalize A.map B8 = DL at *
  clear hY hV hV2 hrU hxU hlU hoU hok1 hrY hxY hIb HD
  go_wp2_with (refine wpList_store_seg rfl 33 _ _ rfl bb 4 DL.toArray RL 47 rfl rfl HRY.out HTA.out HFIT.out HT1.out V HV.out ?_)
  refine wp_region_held_drew (S := SM W.heap.size AL) (by kernel_rfl) HSMU.out (fun hHeld => ?_)
  clear HV HSMU HRY
  generalize V.drew = U at *
  generalize rmL { r with meas := A } lv = ML at *
  have HLN : Hid (∃ N, N = r.log.length) := ⟨_, rfl⟩
  generalize hN : r.log.length = N at *
  clear HLN
  have hcU : U.cell? ⟨bb, 36, none⟩ = some (.slice p N cap) := by have := PC.rangeAt_row HRU.out 36 _ HML36.out; rwa [Nat.zero_add] at this
  have hHA : SM W.heap.size AL (U.alloc (.cells AL.toArray 69 (0, 0))) := (heap_alloc_old _ _ (PC.row_lt hHeld)).trans hHeld
  have hcA : (U.alloc (.cells AL.toArray 69 (0, 0))).cell? ⟨bb, 36, none⟩ = some (.slice p N cap) := (Below.cell ((Below.refl _ U).alloc (Nat.le_refl _) _) (show (⟨bb, 36, none⟩ : Addr).block < U.heap.size from hbU)).trans hcU
  have HOWN : Hid ((U.alloc (.cells AL.toArray 69 (0, 0))).ownsRow 0 69 172 (.slice p N cap) N (lgC r.log)) := World.ownsRow.alloc HOU.out _
  have HNEW : Hid (∀ j u, AL[j]? = some u → (U.alloc (.cells AL.toArray 69 (0, 0))).cell? ((⟨U.heap.size, 0, none⟩ : Addr).add j) = some u) := fun j u hu => by
    have h := PC.rangeAt_row (heap_alloc_new U (.cells AL.toArray 69 (0, 0))) j u hu
    rw [PC.add_none]; exact h
  clear hN
  refine qzI 0 ⟨some 23, .move (.tmp 1), 104, _, #[], none⟩ (.pointer (some ⟨bb, 0, none⟩)) rfl (by kernel_rfl) (fun _ _ _ h => h) (by rfl) (fun w' hw' => ?_) hHeld ?_
  · go_simp <;> rfl
  try simp only [Act.put, qT, q0, qS]
  refine qzI 1 ⟨some 24, .move (.tmp 1), 104, _, #[], none⟩ (.pointer (some ⟨bb, 0, none⟩)) rfl (by kernel_rfl) (fun _ _ _ h => h) (by rfl) (fun w' hw' => ?_) hHeld ?_
  · go_simp <;> rfl
  try simp only [Act.put, qT, q0, qS]
  refine qzI 2 ⟨some 25, .nilCheck (.tmp 24), 0, _, #[⟨1, .data⟩], none⟩ (.pointer (some ⟨bb, 0, none⟩)) rfl (by kernel_rfl) (fun _ _ _ h => h) (by rfl) (fun w' hw' => ?_) hHeld ?_
  · go_simp <;> rfl
  try simp only [Act.put, qT, q0, qS]
  refine qzI 3 ⟨some 26, .fieldAddr 47 (.tmp 25) 5, 0, _, #[⟨2, .data⟩], none⟩ (.pointer (some ⟨bb, 36, none⟩)) rfl (by kernel_rfl) (fun _ _ _ h => h) (by rfl) (fun w' hw' => ?_) hHeld ?_
  · go_simp <;> rfl
  try simp only [Act.put, qT, q0, qS]
  refine qzK 5 ⟨some 28, .load 69 (.tmp 7), 69, _, #[], none⟩ _ rfl (by kernel_rfl) (fun _ _ _ h => h) (yieldsIf_load_mid (by rfl) 69 (.tmp 7) rfl (W.heap.size) (0) rfl (AL) _ (fun _ h => PC.rangeAt_row h) Tryz.underlying69 rfl HAI.out) hHeld ?_
  try simp only [Act.put, qT, q0, qS]
  refine wpAnyH_ready (rs := [4, 6]) (by kernel_rfl) (by simp) ?_
  refine AllReadyH.cons (o := ⟨some 27, .load 45 (.tmp 26), 45, _, #[⟨3, .data⟩], none⟩) rfl (fun K hK => ?_) (AllReadyH.cons (o := ⟨some 29, .buildSlice 45 1 #[(0, .tmp 28)], 45, _, #[⟨5, .data⟩], none⟩) rfl (fun K hK => ?_) AllReadyH.nil)
  all_goals rw [if_pos (by rfl)]
  · go_wp2_with fail
    refine hK.out _ _ hHeld (fun _ => ?_)
    clear hK K
    try simp only [Act.put, qT, q0, qS]
    refine qzR 6 ⟨some 29, .buildSlice 45 1 #[(0, .tmp 28)], 45, _, #[⟨5, .data⟩], none⟩ (by kernel_rfl) rfl (by rfl) (fun K hK => ?_)
    refine wp_buildSlice 45 69 1 _ rfl AL.toArray i0 (.agg zRd) Tryz.underlying45 HI0.out HIZ.out (by rw [HI2.out]; decide) (by rw [HI2.out]; decide) (by rw [HI2.out]; refine (congrArg (Instr.fill _ _) ?_).trans HFA.out; simp; rfl) ?_
    refine hK.out _ _ hHA (fun _ => ?_)
    clear hK K
    try simp only [Act.put, qT, q0, qS]
    refine qzR 7 ⟨some 30, .call ⟨.builtin Go.Builtin.append, #[.tmp 27, .tmp 29], #[45, 45]⟩, 45, _, #[⟨4, .data⟩, ⟨6, .data⟩], none⟩ (by kernel_rfl) rfl (by rfl) (fun K hK => ?_)
    refine wp_app_keep _ (.tmp 27) (.tmp 29) 45 rfl 0 69 i0 (.agg zRd) 172 256 Tryz.underlying45 HI0.out HIZ.out HI2.out HI3.out rfl (by decide) (.slice p N cap) N (lgC r.log) rfl HOWN.out ⟨U.heap.size, 0, none⟩ 1 1 AL rfl HAN.out HNEW.out HA1.out (by decide) (by unfold maxLen; omega) (by omega) (by omega) ?_
    intro g cap2 w' hown hgr hgl hgw
    have hHW : SM W.heap.size AL w' := (hgr.block _ (PC.row_lt hHA) (fun e => by have := HLVW.out _ (show lv.ownBlock = some W.heap.size from by rw [HLV.out]; exact e.symm); omega)).trans hHA
    have hrw : w'.heap[bb]? = some (.cells ML.toArray 47 (0, 0)) := (hgr.block bb (by simp; omega) (fun e => HLB.out (by rw [HLV.out]; exact e.symm))).trans ((heap_alloc_old _ _ hbU).trans HRU.out)
    have cW : w'.cell? ⟨bb, 36, none⟩ = some (.slice p N cap) := (by have := PC.rangeAt_row hrw 36 _ HML36.out; rwa [Nat.zero_add] at this)
    have fW := frozen_of_row _ _ 36 _ _ hrw
    have HEND : Hid (MsEnd c tn (R5.nx c.D L ⟨1, List.replicate 32 0, d, ls.flatten⟩).2 R I W bb r.log lv { r with meas := (R5.nx c.D L ⟨1, List.replicate 32 0, d, ls.flatten⟩).1, log := r.log ++ [rec] } (.returned (.tuple #[])) (w'.setCell ⟨bb, 36, none⟩ (.slice (some ⟨g, 0, none⟩) (N + 1) cap2))) := HFIN.out g cap2 w' hown hgr hgl hgw
    have hHZ : SM W.heap.size AL (w'.setCell ⟨bb, 36, none⟩ (.slice (some ⟨g, 0, none⟩) (N + 1) cap2)) := (heap_setCell_other _ _ _ _ (show W.heap.size ≠ bb by omega)).trans hHW
    clear hown hgl hgw hgr hrw
    refine hK.out _ _ hHW (fun _ => ?_)
    clear hK K
    try simp only [Act.put, qT, q0, qS]
    have hHeld := hHW
    refine qzI 8 ⟨some 31, .nilCheck (.tmp 23), 0, _, #[⟨0, .data⟩, ⟨0, .phase⟩, ⟨1, .phase⟩, ⟨2, .phase⟩, ⟨3, .phase⟩, ⟨4, .phase⟩, ⟨5, .phase⟩, ⟨6, .phase⟩, ⟨7, .phase⟩], none⟩ (.pointer (some ⟨bb, 0, none⟩)) rfl (by kernel_rfl) (fun _ _ _ h => h) (by rfl) (fun w' hw' => ?_) hHeld ?_
    · go_simp <;> rfl
    try simp only [Act.put, qT, q0, qS]
    refine qzI 9 ⟨some 32, .fieldAddr 47 (.tmp 31) 5, 0, _, #[⟨8, .data⟩, ⟨0, .phase⟩, ⟨1, .phase⟩, ⟨2, .phase⟩, ⟨3, .phase⟩, ⟨4, .phase⟩, ⟨5, .phase⟩, ⟨6, .phase⟩, ⟨7, .phase⟩], none⟩ (.pointer (some ⟨bb, 36, none⟩)) rfl (by kernel_rfl) (fun _ _ _ h => h) (by rfl) (fun w' hw' => ?_) hHeld ?_
    · go_simp <;> rfl
    try simp only [Act.put, qT, q0, qS]
    refine qzR 10 ⟨none, .store 45 (.tmp 32) (.tmp 30), 0, _, #[⟨9, .data⟩, ⟨7, .data⟩, ⟨7, .chain⟩, ⟨0, .phase⟩, ⟨1, .phase⟩, ⟨2, .phase⟩, ⟨3, .phase⟩, ⟨4, .phase⟩, ⟨5, .phase⟩, ⟨6, .phase⟩, ⟨7, .phase⟩], none⟩ (by kernel_rfl) rfl (by rfl) (fun K hK => ?_)
    go_wp2_with fail
    refine hK.out _ _ hHZ (fun _ => ?_)
    clear hK K
    try simp only [Act.put, qT, q0, qS]
    refine wpAnyH_done (by kernel_rfl) ?_ _
    clear hHeld hHZ hHW cW fW
    go_end0
    exact HEND.out
  · have hHB := hHA
    refine wp_buildSlice 45 69 1 _ rfl AL.toArray i0 (.agg zRd) Tryz.underlying45 HI0.out HIZ.out (by rw [HI2.out]; decide) (by rw [HI2.out]; decide) (by rw [HI2.out]; refine (congrArg (Instr.fill _ _) ?_).trans HFA.out; simp; rfl) ?_
    refine hK.out _ _ hHA (fun _ => ?_)
    clear hK K
    try simp only [Act.put, qT, q0, qS]
    have hHeld := hHA
    refine qzR 4 ⟨some 27, .load 45 (.tmp 26), 45, _, #[⟨3, .data⟩], none⟩ (by kernel_rfl) rfl (by rfl) (fun K hK => ?_)
    go_wp2_with fail
    refine hK.out _ _ hHA (fun _ => ?_)
    clear hK K
    try simp only [Act.put, qT, q0, qS]
    refine qzR 7 ⟨some 30, .call ⟨.builtin Go.Builtin.append, #[.tmp 27, .tmp 29], #[45, 45]⟩, 45, _, #[⟨4, .data⟩, ⟨6, .data⟩], none⟩ (by kernel_rfl) rfl (by rfl) (fun K hK => ?_)
    refine wp_app_keep _ (.tmp 27) (.tmp 29) 45 rfl 0 69 i0 (.agg zRd) 172 256 Tryz.underlying45 HI0.out HIZ.out HI2.out HI3.out rfl (by decide) (.slice p N cap) N (lgC r.log) rfl HOWN.out ⟨U.heap.size, 0, none⟩ 1 1 AL rfl HAN.out HNEW.out HA1.out (by decide) (by unfold maxLen; omega) (by omega) (by omega) ?_
    intro g cap2 w' hown hgr hgl hgw
    have hHW : SM W.heap.size AL w' := (hgr.block _ (PC.row_lt hHA) (fun e => by have := HLVW.out _ (show lv.ownBlock = some W.heap.size from by rw [HLV.out]; exact e.symm); omega)).trans hHA
    have hrw : w'.heap[bb]? = some (.cells ML.toArray 47 (0, 0)) := (hgr.block bb (by simp; omega) (fun e => HLB.out (by rw [HLV.out]; exact e.symm))).trans ((heap_alloc_old _ _ hbU).trans HRU.out)
    have cW : w'.cell? ⟨bb, 36, none⟩ = some (.slice p N cap) := (by have := PC.rangeAt_row hrw 36 _ HML36.out; rwa [Nat.zero_add] at this)
    have fW := frozen_of_row _ _ 36 _ _ hrw
    have HEND : Hid (MsEnd c tn (R5.nx c.D L ⟨1, List.replicate 32 0, d, ls.flatten⟩).2 R I W bb r.log lv { r with meas := (R5.nx c.D L ⟨1, List.replicate 32 0, d, ls.flatten⟩).1, log := r.log ++ [rec] } (.returned (.tuple #[])) (w'.setCell ⟨bb, 36, none⟩ (.slice (some ⟨g, 0, none⟩) (N + 1) cap2))) := HFIN.out g cap2 w' hown hgr hgl hgw
    have hHZ : SM W.heap.size AL (w'.setCell ⟨bb, 36, none⟩ (.slice (some ⟨g, 0, none⟩) (N + 1) cap2)) := (heap_setCell_other _ _ _ _ (show W.heap.size ≠ bb by omega)).trans hHW
    clear hown hgl hgw hgr hrw
    refine hK.out _ _ hHW (fun _ => ?_)
    clear hK K
    try simp only [Act.put, qT, q0, qS]
    have hHeld := hHW
    refine qzI 8 ⟨some 31, .nilCheck (.tmp 23), 0, _, #[⟨0, .data⟩, ⟨0, .phase⟩, ⟨1, .phase⟩, ⟨2, .phase⟩, ⟨3, .phase⟩, ⟨4, .phase⟩, ⟨5, .phase⟩, ⟨6, .phase⟩, ⟨7, .phase⟩], none⟩ (.pointer (some ⟨bb, 0, none⟩)) rfl (by kernel_rfl) (fun _ _ _ h => h) (by rfl) (fun w' hw' => ?_) hHeld ?_
    · go_simp <;> rfl
    try simp only [Act.put, qT, q0, qS]
    refine qzI 9 ⟨some 32, .fieldAddr 47 (.tmp 31) 5, 0, _, #[⟨8, .data⟩, ⟨0, .phase⟩, ⟨1, .phase⟩, ⟨2, .phase⟩, ⟨3, .phase⟩, ⟨4, .phase⟩, ⟨5, .phase⟩, ⟨6, .phase⟩, ⟨7, .phase⟩], none⟩ (.pointer (some ⟨bb, 36, none⟩)) rfl (by kernel_rfl) (fun _ _ _ h => h) (by rfl) (fun w' hw' => ?_) hHeld ?_
    · go_simp <;> rfl
    try simp only [Act.put, qT, q0, qS]
    refine qzR 10 ⟨none, .store 45 (.tmp 32) (.tmp 30), 0, _, #[⟨9, .data⟩, ⟨7, .data⟩, ⟨7, .chain⟩, ⟨0, .phase⟩, ⟨1, .phase⟩, ⟨2, .phase⟩, ⟨3, .phase⟩, ⟨4, .phase⟩, ⟨5, .phase⟩, ⟨6, .phase⟩, ⟨7, .phase⟩], none⟩ (by kernel_rfl) rfl (by rfl) (fun K hK => ?_)
    go_wp2_with fail
    refine hK.out _ _ hHZ (fun _ => ?_)
    clear hK K
    try simp only [Act.put, qT, q0, qS]
    refine wpAnyH_done (by kernel_rfl) ?_ _
    clear hHeld hHZ hHW cW fW
    go_end0
    exact HEND.out
end
def rec1 (V : List UInt8) : Rd := ⟨1, V, 0, PC.Z128, 0, PC.Z8, false⟩
def rec2 (pg : Nat) (g : List UInt8) : Rd := ⟨2, PC.Z32, (pg : Int), g, 0, PC.Z8, false⟩
def rec3 (pc : Nat) (rs : List Nat) (run : Bool) : Rd := ⟨3, PC.Z32, 0, PC.Z128, pc, rs, run⟩
theorem rec1_ok {V : List UInt8} (h : V.length = 32) : (rec1 V).ok := ⟨h, PC.z128_len, PC.z8_len⟩
theorem rec2_ok (pg : Nat) {g : List UInt8} (h : g.length = 128) : (rec2 pg g).ok := ⟨PC.z32_len, h, PC.z8_len⟩
theorem rec3_ok (pc : Nat) {rs : List Nat} (run : Bool) (h : rs.length = 8) : (rec3 pc rs run).ok := ⟨PC.z32_len, PC.z128_len, h⟩
theorem build_rd1 (w : World) (VL : List Value) (h : VL.length = 32) : (Instr.build 69 #[(0, .int .i64 1), (1, .agg VL.toArray)]).run Tryz.prog w = .ok (.agg (.int .i64 1 :: (VL ++ (.int .i64 0 :: (PC.Z128.map B8 ++ PC.rcL 0 PC.Z8 false)))).toArray) w := by
  iterate 32 (obtain ⟨_, _, e, g⟩ := R5.cons_of h; clear h; subst e; have h := g; clear g)
  obtain rfl := List.eq_nil_of_length_eq_zero h
  show _ = _
  kernel_rfl
theorem build_rd2 (w : World) (P : Int) (GL : List Value) (h : GL.length = 128) : (Instr.build 69 #[(0, .int .i64 2), (2, .int .i64 P), (3, .agg GL.toArray)]).run Tryz.prog w = .ok (.agg (.int .i64 2 :: (PC.Z32.map B8 ++ (.int .i64 P :: (GL ++ PC.rcL 0 PC.Z8 false)))).toArray) w := by
  iterate 128 (obtain ⟨_, _, e, g⟩ := R5.cons_of h; clear h; subst e; have h := g; clear g)
  obtain rfl := List.eq_nil_of_length_eq_zero h
  show _ = _
  kernel_rfl
theorem build_rd3 (w : World) (PL : List Value) (h : PL.length = 10) : (Instr.build 69 #[(0, .int .i64 3), (4, .agg PL.toArray)]).run Tryz.prog w = .ok (.agg (.int .i64 3 :: (PC.Z32.map B8 ++ (.int .i64 0 :: (PC.Z128.map B8 ++ PL)))).toArray) w := by
  iterate 10 (obtain ⟨_, _, e, g⟩ := R5.cons_of h; clear h; subst e; have h := g; clear g)
  obtain rfl := List.eq_nil_of_length_eq_zero h
  show _ = _
  kernel_rfl
def Z0 : List UInt8 := List.replicate 32 0
def qOf (m : List UInt8) (rec : Rd) : R5.Qn :=
  if rec.kind = 1 then ⟨1, Z0, 1, rec.value⟩ else if rec.kind = 2 then ⟨1, Z0, 2, m ++ (W1.le 8 rec.page.toNat ++ rec.data)⟩ else ⟨1, Z0, 3, m ++ PC.cbL rec.pc rec.rs rec.run⟩
theorem qOf2 (m : List UInt8) (pg : Nat) (g : List UInt8) : qOf m (rec2 pg g) = ⟨1, Z0, 2, m ++ (W1.le 8 pg ++ g)⟩ := by
  unfold qOf rec2
  simp
theorem qOf3 (m : List UInt8) (pc : Nat) (rs : List Nat) (run : Bool) : qOf m (rec3 pc rs run) = ⟨1, Z0, 3, m ++ PC.cbL pc rs run⟩ := by
  unfold qOf rec3
  simp
theorem kOk_d {d : Int} {data : List UInt8} (hd : (Lit.int .i64 d).wf = true) (h : data.length ≤ 1000) : R5.kOk ⟨1, List.replicate 32 0, d, data⟩ := ⟨by simp, rfl, hd, by show data.length ≤ _; omega⟩
theorem askB_d {d : Int} {data : List UInt8} (h1 : 1 ≤ d) (h2 : d ≤ 16) : R5.askB ⟨1, List.replicate 32 0, d, data⟩ = true := by
  unfold R5.askB R5.mayQ
  simp [h1, h2]
section
variable {c : Cx} {tn last last' : Nat} {L L' R : Lg} {I J : Nat → Prop} {X Y Z W W' W2 : World} {l l' a b : List En} {E : Nat → Prop} {rd : Int} {r r' : Rm} {lv lv' : Value} {bb : Nat} {lg : List Rd}
theorem CD.ahead (hb : Below W.heap.size W W2) (hbb : bb < W.heap.size) (hlv : ∀ k, lv.ownBlock = some k → k < W.heap.size) (hd : CD c tn L' R (up I W W2) W2 W' bb E lg lv r' lv') : CD c tn L' R I W W' bb E lg lv r' lv' := by
  have hs := hb.size
  obtain ⟨J, h1, h2, h3⟩ := hd.mm
  refine ⟨Nat.le_trans hs hd.size, ⟨J, h1, fun k hk => h2 k (.inl hk), h3⟩, hd.row, hd.ok, hd.own, fun k e => (hd.lies k e).imp id (fun h => by omega), fun k hk hI hkb hE hkl => (hd.fr k (by omega) (.inl hI) hkb hE hkl).trans (hb.block k hk), fun k e j hj => (hd.pre k e j hj).trans (World.cell?_of_block (a := ⟨k, j, none⟩) (hb.block k (hlv k e))), hd.len⟩
theorem Ahd.ms (hA : Ahd c tn L R I X W l last bb (rmL r lv)) (hm : (rd, r, lv) ∈ l) (hlX : ∀ k, lv.ownBlock = some k → k < X.heap.size) (hb : Below W.heap.size W W2) : Ms c tn L R (up (up I X W) W W2) W2 c.xb bb last r lv := by
  have hbl := PC.row_lt hA.row
  have hj := hA.jp.grow hb
  have hX := hA.low
  refine ⟨hj.mm, hj.px.row, (hj.px.fI _ (.inl rfl)).1, (hb.block bb hbl).trans hA.row, ⟨.inl (.inr ⟨hA.low, hbl⟩), by have := hA.nlow; omega⟩, hj.px.ok _ hm, hj.px.own _ hm, fun k e => ⟨(hj.px.fI k (.inr (.inr ⟨_, hm, e⟩))).1, (hj.px.fI k (.inr (.inr ⟨_, hm, e⟩))).2, by have := hlX k e; omega⟩⟩
structure SD (s p q t : Nat) (xb : Nat) (PV : Value) (tp tq : TypeId) (GL AL : List Value) (Y : World) : Prop where
  s : Y.heap[s]? = some (.cells #[.pointer (some ⟨xb, 0, none⟩)] 26 (0, 0))
  p : Y.heap[p]? = some (.cells #[PV] tp (0, 0))
  q : Y.heap[q]? = some (.cells GL.toArray tq (0, 0))
  t : Y.heap[t]? = some (.cells AL.toArray 69 (0, 0))
theorem SD.keep {s p q t : Nat} {xb : Nat} {PV : Value} {tp tq : TypeId} {GL AL : List Value} {Y Y' : World} (h : SD s p q t xb PV tp tq GL AL Y) (hk : ∀ k, k = s ∨ k = p ∨ k = q ∨ k = t → k < Y.heap.size → Y'.heap[k]? = Y.heap[k]?) : SD s p q t xb PV tp tq GL AL Y' :=
  ⟨(hk s (.inl rfl) (PC.row_lt h.s)).trans h.s, (hk p (.inr (.inl rfl)) (PC.row_lt h.p)).trans h.p, (hk q (.inr (.inr (.inl rfl))) (PC.row_lt h.q)).trans h.q, (hk t (.inr (.inr (.inr rfl))) (PC.row_lt h.t)).trans h.t⟩
theorem hp3 (X : World) (a b c : Value) (la lb lc : List UInt8) (ha : HB X a la) (hb : HB X b lb) (hc : HB X c lc) : R5.HP (X.alloc (.cells #[a, b, c] 106 (0, 0))) (.slice (some ⟨X.heap.size, 0, none⟩) 3 3) [la, lb, lc] := by
  refine ⟨_, 3, rfl, fun i hi => ?_⟩
  have hbel : Below X.heap.size X (X.alloc (.cells #[a, b, c] 106 (0, 0))) := (Below.refl _ _).alloc (Nat.le_refl _) _
  have : i = 0 ∨ i = 1 ∨ i = 2 := by simp at hi; omega
  rcases this with rfl | rfl | rfl
  · exact ⟨_, a, rfl, by rw [cell_of_row _ _ 0 _ _ _ (heap_alloc_new _ _)]; rfl, ha.below hbel⟩
  · exact ⟨_, b, rfl, by rw [cell_of_row _ _ 1 _ _ _ (heap_alloc_new _ _)]; rfl, hb.below hbel⟩
  · exact ⟨_, c, rfl, by rw [cell_of_row _ _ 2 _ _ _ (heap_alloc_new _ _)]; rfl, hc.below hbel⟩
theorem hp2 (X : World) (a b : Value) (la lb : List UInt8) (ha : HB X a la) (hb : HB X b lb) : R5.HP (X.alloc (.cells #[a, b] 106 (0, 0))) (.slice (some ⟨X.heap.size, 0, none⟩) 2 2) [la, lb] := by
  refine ⟨_, 2, rfl, fun i hi => ?_⟩
  have hbel : Below X.heap.size X (X.alloc (.cells #[a, b] 106 (0, 0))) := (Below.refl _ _).alloc (Nat.le_refl _) _
  have : i = 0 ∨ i = 1 := by simp at hi; omega
  rcases this with rfl | rfl
  · exact ⟨_, a, rfl, by rw [cell_of_row _ _ 0 _ _ _ (heap_alloc_new _ _)]; rfl, ha.below hbel⟩
  · exact ⟨_, b, rfl, by rw [cell_of_row _ _ 1 _ _ _ (heap_alloc_new _ _)]; rfl, hb.below hbel⟩
theorem hp1 (X : World) (a : Value) (la : List UInt8) (ha : HB X a la) : R5.HP (X.alloc (.cells #[a] 106 (0, 0))) (.slice (some ⟨X.heap.size, 0, none⟩) 1 1) [la] := by
  refine ⟨_, 1, rfl, fun i hi => ?_⟩
  have hbel : Below X.heap.size X (X.alloc (.cells #[a] 106 (0, 0))) := (Below.refl _ _).alloc (Nat.le_refl _) _
  have : i = 0 := by simp at hi; omega
  subst this
  exact ⟨_, a, rfl, by rw [cell_of_row _ _ 0 _ _ _ (heap_alloc_new _ _)]; rfl, ha.below hbel⟩
theorem bs3 (w : World) (a b c : Value) (pa pb pc : Option Addr) (na nb nc ca cb cc : Nat) (ha : a = .slice pa na ca) (hb : b = .slice pb nb cb) (hc : c = .slice pc nc cc) : (Instr.buildSlice 144 3 #[(0, a), (1, b), (2, c)]).run Tryz.prog w = .ok (.slice (some ⟨w.heap.size, 0, none⟩) 3 3) (w.alloc (.cells #[a, b, c] 106 (0, 0))) := by
  subst ha hb hc; kernel_rfl
theorem bs2 (w : World) (a b : Value) (pa pb : Option Addr) (na nb ca cb : Nat) (ha : a = .slice pa na ca) (hb : b = .slice pb nb cb) : (Instr.buildSlice 144 2 #[(0, a), (1, b)]).run Tryz.prog w = .ok (.slice (some ⟨w.heap.size, 0, none⟩) 2 2) (w.alloc (.cells #[a, b] 106 (0, 0))) := by
  subst ha hb; kernel_rfl
theorem bs1 (w : World) (a : Value) (pa : Option Addr) (na ca : Nat) (ha : a = .slice pa na ca) : (Instr.buildSlice 144 1 #[(0, a)]).run Tryz.prog w = .ok (.slice (some ⟨w.heap.size, 0, none⟩) 1 1) (w.alloc (.cells #[a] 106 (0, 0))) := by
  subst ha; kernel_rfl
theorem wp_bslice {o : Oper} {a : Act} {K : Act → World → Prop} {Q : Exit → Act → World → Prop} {w w' : World} (t : TypeId) (n : Nat) (parts : Array (Nat × Operand)) (ho : o.op = .buildSlice t n parts) (vals : Array (Nat × Value)) (v : Value) (hp : (parts.map fun (i, x) => (i, a.eval x)) = vals)
    (hr : (Instr.buildSlice t n vals).run Tryz.prog w = .ok v w') (h : K (a.put o.dst v) w') : o.wp Tryz.prog a w K Q := by
  unfold Oper.wp execOp
  simp only [ho, Sem.run_bind, hp, hr, Result.andThen_ok]
  exact h
end
end Go.Proofs.YtekbppfocnbhbaaGreat.XC
