import Derived.Test.YtekbppfocnbhbaaGreatRf
set_option linter.unusedVariables false
set_option linter.unusedSimpArgs false
namespace Go.Proofs.YtekbppfocnbhbaaGreat.XC
open Go.RowKit
section
variable {c : Cx} {rb tn last last' : Nat} {L R R' L' : Lg} {C I J : Nat → Prop} {X Y Y' Z : World} {rl rl' l l' a b : List En} {av av' : Value} {rd root : Int} {r r' : Rm} {lv : Value} {s s' : Am} {k : Int} {N : Nat}
theorem do_kil (h : JB c rb s C I X l rl av tn) (hB : Bd N s) (hN : N ≤ 1000) (hrd : iOk rd) :
    Calls Tryz.prog 29 #[.pointer (some ⟨c.xb, 0, none⟩), .int .i64 rd] X fun e Y => PB c rb k s C shI 38 #[.pointer (some ⟨rb, 0, none⟩), .int .i64 rd] X e Y := by
  have hab := h.jr.ab
  obtain ⟨hln, hrn⟩ := h.rln hB
  have hsl := h.ab
  rcases first_split l rd with hno | ⟨a, r, lv, b, hl, hna⟩
  · skip
    exact (kil_no h.jr.jp hrd hno).mono fun e Y ⟨he, hb⟩ => PB.go h s (PD.refl h.jr.jp hb) h.ab rfl rfl _ (shI_mk _) he (AT.same _) (fun Y' J hH => (rkil_no hH.rx (by omega) (ab_no hab hno)).mono fun e Z ⟨h1, h2⟩ => ⟨h1, rl, av, by subst h2; exact RE.refl hH.jp.mm hH.rx (Below.refl _ _), hab.trans h.ab⟩)
  · skip
    obtain ⟨hq1, hq2, hq3, hq4⟩ := h.mem hB hl
    obtain ⟨a', lv2, b', hrl, ea, eb⟩ := ab_split (hl ▸ hab)
    have hna' := ab_no ea hna
    have hsl2 : s.l = ab a ++ (rd, r) :: ab b := by rw [← hsl, hl, ab_mid]
    have hlen2 : (a' ++ (rd, r, lv2) :: b').length < 1000000 := by rw [← hrl]; omega
    exact (kil_ok h.jr.jp hrd hl).mono fun e Y ⟨lv', he, pd⟩ => PB.go h ⟨ab a ++ (rd, { r with st := 3 }) :: ab b, s.last, s.L⟩ pd (ab_mid _ _ _ _ _) rfl rfl _ (shI_mk _) he (AT.upd' hsl2 (UP.st r 3 s.L (.inr rfl))) (fun Y' J hH => by
      have hx := hH.rx
      rw [hrl] at hx ⊢
      exact (rkil_is hx hlen2 hna').mono fun e Z ⟨h1, h2⟩ => ⟨h1, _, av, RE.of_rv hH.jp.mm hx h2.rv lg_upd, by rw [ab_mid, ea, eb]⟩)
theorem do_drp (h : JB c rb s C I X l rl av tn) (hB : Bd N s) (hN : N ≤ 1000) (hrd : iOk rd) :
    Calls Tryz.prog 27 #[.pointer (some ⟨c.xb, 0, none⟩), .int .i64 rd] X fun e Y => PB c rb k s C shI 36 #[.pointer (some ⟨rb, 0, none⟩), .int .i64 rd] X e Y := by
  have hab := h.jr.ab
  obtain ⟨hln, hrn⟩ := h.rln hB
  have hsl := h.ab
  rcases first_split l rd with hno | ⟨a, r, lv, b, hl, hna⟩
  · skip
    exact (drp_no h.jr.jp hrd hno).mono fun e Y ⟨he, hb⟩ => PB.go h s (PD.refl h.jr.jp hb) h.ab rfl rfl _ (shI_mk _) he (AT.same _) (fun Y' J hH => (rdrp_no hH.rx (by omega) (ab_no hab hno)).mono fun e Z ⟨h1, h2⟩ => ⟨h1, rl, av, by subst h2; exact RE.refl hH.jp.mm hH.rx (Below.refl _ _), hab.trans h.ab⟩)
  · skip
    obtain ⟨hq1, hq2, hq3, hq4⟩ := h.mem hB hl
    obtain ⟨a', lv2, b', hrl, ea, eb⟩ := ab_split (hl ▸ hab)
    have hna' := ab_no ea hna
    have hsl2 : s.l = ab a ++ (rd, r) :: ab b := by rw [← hsl, hl, ab_mid]
    have hlen2 : (a' ++ (rd, r, lv2) :: b').length < 1000000 := by rw [← hrl]; omega
    cases hrc : r.recs with
    | zero =>
      exact (drp_0 h.jr.jp hrd hl hrc).mono fun e Y ⟨he, hb⟩ => PB.go h s (PD.refl h.jr.jp hb) h.ab rfl rfl _ (shI_mk _) he (AT.same _) (fun Y' J hH => by
        have hx := hH.rx
        rw [hrl] at hx
        exact (rdrp_arg hx hlen2 hna' hrc).mono fun e Z ⟨h1, h2⟩ => ⟨h1, rl, av, by subst h2; exact RE.refl hH.jp.mm hH.rx (Below.refl _ _), hab.trans h.ab⟩)
    | succ n =>
      exact (drp_ok h.jr.jp hrd hl n hrc (by omega)).mono fun e Y ⟨lv', he, pd⟩ => PB.go h ⟨ab a ++ (rd, { r with recs := n }) :: ab b, s.last, s.L⟩ pd (ab_mid _ _ _ _ _) rfl rfl _ (shI_mk _) he (AT.upd' hsl2 (UP.recs r n s.L (by omega))) (fun Y' J hH => by
        have hx := hH.rx
        rw [hrl] at hx ⊢
        exact (rdrp_ok hx hlen2 hna' n hrc (by omega)).mono fun e Z ⟨h1, h2⟩ => ⟨h1, _, av, RE.of_rv hH.jp.mm hx h2.rv lg_upd, by rw [ab_mid, ea, eb]⟩)
theorem do_nxt (h : JB c rb s C I X l rl av tn) (hB : Bd N s) (hN : N ≤ 1000) (hrd : iOk rd) :
    Calls Tryz.prog 24 #[.pointer (some ⟨c.xb, 0, none⟩), .int .i64 rd] X fun e Y => PB c rb 7 s C shN 33 #[.pointer (some ⟨rb, 0, none⟩), .int .i64 rd] X e Y := by
  have hab := h.jr.ab
  obtain ⟨hln, hrn⟩ := h.rln hB
  have hsl := h.ab
  rcases first_split l rd with hno | ⟨a, r, lv, b, hl, hna⟩
  · skip
    exact (nxt_no h.jr.jp hrd hno).mono fun e Y ⟨he, hb⟩ => PB.go h s (PD.refl h.jr.jp hb) h.ab rfl rfl _ ⟨_, _, rfl⟩ he (AT.same _) (fun Y' J hH => (rnxt_no hH.rx (by omega) (ab_no hab hno)).mono fun e Z ⟨h1, h2⟩ => ⟨h1, rl, av, by subst h2; exact RE.refl hH.jp.mm hH.rx (Below.refl _ _), hab.trans h.ab⟩)
  · skip
    obtain ⟨hq1, hq2, hq3, hq4⟩ := h.mem hB hl
    obtain ⟨a', lv2, b', hrl, ea, eb⟩ := ab_split (hl ▸ hab)
    have hna' := ab_no ea hna
    have hsl2 : s.l = ab a ++ (rd, r) :: ab b := by rw [← hsl, hl, ab_mid]
    have hlen2 : (a' ++ (rd, r, lv2) :: b').length < 1000000 := by rw [← hrl]; omega
    exact (nxt_ok h.jr.jp hrd hl (by omega)).mono fun e Y ⟨lv', he, pd⟩ => PB.go h ⟨ab a ++ (rd, { r with ctr := r.ctr + 1 }) :: ab b, s.last, s.L⟩ pd (ab_mid _ _ _ _ _) rfl rfl _ ⟨_, _, rfl⟩ he (AT.upd' hsl2 (UP.ctr r s.L rfl)) (fun Y' J hH => by
      have hx := hH.rx
      rw [hrl] at hx ⊢
      exact (rnxt_ok hx hlen2 hna' (by omega)).mono fun e Z ⟨h1, h2⟩ => ⟨h1, _, av, RE.of_rv hH.jp.mm hx h2.rv lg_upd, by rw [ab_mid, ea, eb]⟩)
theorem do_str (h : JB c rb s C I X l rl av tn) (hB : Bd N s) (hN : N ≤ 1000) (hrd : iOk rd) (t : List UInt8) (ht : t.length = 32) :
    Calls Tryz.prog 30 #[.pointer (some ⟨c.xb, 0, none⟩), .int .i64 rd, .agg (t.map B8).toArray] X fun e Y => PB c rb k s C shI 39 #[.pointer (some ⟨rb, 0, none⟩), .int .i64 rd, .agg (t.map B8).toArray] X e Y := by
  have hab := h.jr.ab
  obtain ⟨hln, hrn⟩ := h.rln hB
  have hsl := h.ab
  rcases first_split l rd with hno | ⟨a, r, lv, b, hl, hna⟩
  · exact (str_no h.jr.jp hrd hno t).mono fun e Y ⟨he, hb⟩ => PB.go h s (PD.refl h.jr.jp hb) h.ab rfl rfl _ (shI_mk _) he (AT.same _) (fun Y' J hH => (rstr_no hH.rx (fun k hk => hH.jp.mm.ilt hk) (by omega) (ab_no hab hno) _).mono fun e Z ⟨h1, h2⟩ => ⟨h1, rl, av, RE.of_rv hH.jp.mm hH.rx h2 (fun x hx k e => ⟨x, hx, e⟩), hab.trans h.ab⟩)
  · skip
    obtain ⟨hq1, hq2, hq3, hq4⟩ := h.mem hB hl
    obtain ⟨a', lv2, b', hrl, ea, eb⟩ := ab_split (hl ▸ hab)
    have hna' := ab_no ea hna
    have hsl2 : s.l = ab a ++ (rd, r) :: ab b := by rw [← hsl, hl, ab_mid]
    have hlen2 : (a' ++ (rd, r, lv2) :: b').length < 1000000 := by rw [← hrl]; omega
    exact (str_ok h.jr.jp hrd hl t ht).mono fun e Y ⟨lv', he, pd⟩ => PB.go h ⟨ab a ++ (rd, { r with tree := t }) :: ab b, s.last, s.L⟩ pd (ab_mid _ _ _ _ _) rfl rfl _ (shI_mk _) he (AT.upd' hsl2 (UP.tree r t s.L)) (fun Y' J hH => by
      have hx := hH.rx
      rw [hrl] at hx ⊢
      exact (rstr_is hx (fun k hk => hH.jp.mm.ilt hk) hlen2 hna' t ht).mono fun e Z ⟨h1, h2⟩ => ⟨h1, _, av, RE.of_rv hH.jp.mm hx h2 lg_upd, by rw [ab_mid, ea, eb]⟩)
theorem do_del (h : JB c rb s C I X l rl av tn) (hB : Bd N s) (hN : N ≤ 1000) (hrd : iOk rd) :
    Calls Tryz.prog 31 #[.pointer (some ⟨c.xb, 0, none⟩), .int .i64 rd] X fun e Y => PB c rb k s C shI 40 #[.pointer (some ⟨rb, 0, none⟩), .int .i64 rd] X e Y := by
  have hab := h.jr.ab
  obtain ⟨hln, hrn⟩ := h.rln hB
  have hsl := h.ab
  rcases first_split l rd with hno | ⟨a, r, lv, b, hl, hna⟩
  · skip
    exact (drop_no h.jr.jp hrd hno).mono fun e Y ⟨he, hb⟩ => PB.go h s (PD.refl h.jr.jp hb) h.ab rfl rfl _ (shI_mk _) he (AT.same _) (fun Y' J hH => (rdel_no hH.rx (by omega) (ab_no hab hno)).mono fun e Z ⟨h1, h2⟩ => ⟨h1, rl, av, by subst h2; exact RE.refl hH.jp.mm hH.rx (Below.refl _ _), hab.trans h.ab⟩)
  · skip
    obtain ⟨hq1, hq2, hq3, hq4⟩ := h.mem hB hl
    obtain ⟨a', lv2, b', hrl, ea, eb⟩ := ab_split (hl ▸ hab)
    have hna' := ab_no ea hna
    have hsl2 : s.l = ab a ++ (rd, r) :: ab b := by rw [← hsl, hl, ab_mid]
    have hlen2 : (a' ++ (rd, r, lv2) :: b').length < 1000000 := by rw [← hrl]; omega
    by_cases hrc : r.recs = 0
    · exact (drop_ok h.jr.jp hrd hl hrc).mono fun e Y ⟨he, pd⟩ => PB.go h ⟨ab a ++ ab b, s.last, s.L⟩ pd (ab_app _ _) rfl rfl _ (shI_mk _) he (AT.del' hsl2) (fun Y' J hH => by
        have hx := hH.rx
        rw [hrl] at hx ⊢
        refine (rdel_ok hx (fun k hk => hH.jp.mm.ilt hk) hH.jp.mm.low.2 hlen2 hna' hrc).mono fun e Z ⟨h1, av', h2, h3, h4⟩ => ⟨h1, a' ++ b', av', RE.of_rm hH.jp.mm hx h2 h3 (fun k e => .inr (h4 k e)) (fun x hx k e => ?_), by rw [ab_app, ea, eb]⟩
        refine ⟨x, ?_, e⟩
        rcases List.mem_append.1 hx with hx | hx <;> simp [hx])
    · skip
      exact (drop_use h.jr.jp hrd hl (by omega)).mono fun e Y ⟨he, hb⟩ => PB.go h s (PD.refl h.jr.jp hb) h.ab rfl rfl _ (shI_mk _) he (AT.same _) (fun Y' J hH => by
        have hx := hH.rx
        rw [hrl] at hx
        exact (rdel_use hx hlen2 hna' (by omega)).mono fun e Z ⟨h1, h2⟩ => ⟨h1, rl, av, by subst h2; exact RE.refl hH.jp.mm hH.rx (Below.refl _ _), hab.trans h.ab⟩)
theorem do_data (h : JB c rb s C I X l rl av tn) (hB : Bd N s) (hN : N ≤ 1000) (hrd : iOk rd) (P : Int) (g : List UInt8) (hg : g.length = 128) :
    Calls Tryz.prog 25 #[.pointer (some ⟨c.xb, 0, none⟩), .int .i64 rd, .int .i64 P, .agg (g.map B8).toArray] X fun e Y => PB c rb k s C shI 34 #[.pointer (some ⟨rb, 0, none⟩), .int .i64 rd, .int .i64 P, .agg (g.map B8).toArray] X e Y := by
  have hL := hB.L
  by_cases hP0 : P < 0
  · have hab := h.jr.ab
    exact (data_arg1 h.jr.jp P hP0 g).mono fun e Y ⟨he, hb⟩ => PB.go h s (PD.refl h.jr.jp hb) h.ab rfl rfl _ (shI_mk _) he (AT.same _) (fun Y' J hH => (rdata_arg _ P (.inl hP0) _).mono fun e Z ⟨h1, h2⟩ => ⟨h1, rl, av, RE.refl hH.jp.mm hH.rx h2, hab.trans h.ab⟩)
  · by_cases hP : 128 ≤ P
    · have hab := h.jr.ab
      exact (data_arg2 h.jr.jp P hP0 hP g).mono fun e Y ⟨he, hb⟩ => PB.go h s (PD.refl h.jr.jp hb) h.ab rfl rfl _ (shI_mk _) he (AT.same _) (fun Y' J hH => (rdata_arg _ P (.inr (by omega)) _).mono fun e Z ⟨h1, h2⟩ => ⟨h1, rl, av, RE.refl hH.jp.mm hH.rx h2, hab.trans h.ab⟩)
    · obtain ⟨pg, hpg⟩ : ∃ pg : Nat, P = pg := ⟨P.toNat, by omega⟩
      have hp7 : pg < 128 := by omega
      subst hpg
      have hab := h.jr.ab
      obtain ⟨hln, hrn⟩ := h.rln hB
      have hsl := h.ab
      rcases first_split l rd with hno | ⟨a, r, lv, b, hl, hna⟩
      · skip
        exact (data_no h.jr.jp (pg : Int) hP0 hP g hrd hno).mono fun e Y ⟨he, hb⟩ => PB.go h s (PD.refl h.jr.jp hb) h.ab rfl rfl _ (shI_mk _) he (AT.same _) (fun Y' J hH => (rdata_no hH.rx (fun k hk => hH.jp.mm.ilt hk) (by omega) (ab_no hab hno) pg hp7 g hg).mono fun e Z ⟨h1, h2⟩ => ⟨h1, rl, av, RE.refl hH.jp.mm hH.rx h2, hab.trans h.ab⟩)
      · skip
        obtain ⟨hq1, hq2, hq3, hq4⟩ := h.mem hB hl
        obtain ⟨a', lv2, b', hrl, ea, eb⟩ := ab_split (hl ▸ hab)
        have hna' := ab_no ea hna
        have hsl2 : s.l = ab a ++ (rd, r) :: ab b := by rw [← hsl, hl, ab_mid]
        have hlen2 : (a' ++ (rd, r, lv2) :: b').length < 1000000 := by rw [← hrl]; omega
        by_cases hst : r.st = 1
        · exact (data_ok h.jr.jp pg hp7 g hg hrd hl hst (by omega) (by omega)).mono fun e Y ⟨lv', he, pd⟩ => PB.go h ⟨ab a ++ (rd, recR c s.L r (rec2 pg g) r.recs) :: ab b, s.last, recL c s.L r (rec2 pg g)⟩ pd (ab_mid _ _ _ _ _) rfl rfl _ (shI_mk _) he (AT.upd' hsl2 (UP.grow r (rec2 pg g) r.recs s.L hst ⟨rec2_ok pg hg, .inl ⟨pg, g, hp7, rfl⟩⟩ (by omega))) (fun Y' J hH => by
            have hx := hH.rx
            rw [hrl] at hx ⊢
            exact (rdata_ok hx hH.jp.mm hlen2 hna' hst pg hp7 g hg (by omega) (by omega) hq2 (fun q => h.jr.jp.mm.alen q)).mono fun e Z ⟨h1, v, h2⟩ => ⟨h1, _, av, h2, by rw [ab_mid, ea, eb]⟩)
        · skip
          exact (data_st h.jr.jp (pg : Int) hP0 hP g hrd hl hst).mono fun e Y ⟨he, hb⟩ => PB.go h s (PD.refl h.jr.jp hb) h.ab rfl rfl _ (shI_mk _) he (AT.same _) (fun Y' J hH => by
            have hx := hH.rx
            rw [hrl] at hx
            exact (rdata_st hx (fun k hk => hH.jp.mm.ilt hk) hlen2 hna' hst pg hp7 g hg).mono fun e Z ⟨h1, h2⟩ => ⟨h1, rl, av, RE.refl hH.jp.mm hH.rx h2, hab.trans h.ab⟩)
theorem do_add (h : JB c rb s C I X l rl av tn) (hB : Bd N s) (hN : N ≤ 1000) (hrd : iOk rd) (pc : Nat) (rs : List Nat) (run : Bool) (hrs : rs.length = 8) (hpc : pc < 18446744073709551616) (hrx : ∀ x ∈ rs, x < 18446744073709551616) :
    Calls Tryz.prog 26 #[.pointer (some ⟨c.xb, 0, none⟩), .int .i64 rd, .agg (PC.rcL pc rs run).toArray] X fun e Y => PB c rb k s C shI 35 #[.pointer (some ⟨rb, 0, none⟩), .int .i64 rd, .agg (PC.rcL pc rs run).toArray] X e Y := by
  have hL := hB.L
  have hab := h.jr.ab
  obtain ⟨hln, hrn⟩ := h.rln hB
  have hsl := h.ab
  rcases first_split l rd with hno | ⟨a, r, lv, b, hl, hna⟩
  · skip
    exact (add_no h.jr.jp pc rs run hrd hno).mono fun e Y ⟨he, hb⟩ => PB.go h s (PD.refl h.jr.jp hb) h.ab rfl rfl _ (shI_mk _) he (AT.same _) (fun Y' J hH => (radd_no hH.rx (fun k hk => hH.jp.mm.ilt hk) (by omega) (ab_no hab hno) pc rs run hrs).mono fun e Z ⟨h1, h2⟩ => ⟨h1, rl, av, RE.refl hH.jp.mm hH.rx h2, hab.trans h.ab⟩)
  · skip
    obtain ⟨hq1, hq2, hq3, hq4⟩ := h.mem hB hl
    obtain ⟨a', lv2, b', hrl, ea, eb⟩ := ab_split (hl ▸ hab)
    have hna' := ab_no ea hna
    have hsl2 : s.l = ab a ++ (rd, r) :: ab b := by rw [← hsl, hl, ab_mid]
    have hlen2 : (a' ++ (rd, r, lv2) :: b').length < 1000000 := by rw [← hrl]; omega
    by_cases hst : r.st = 1
    · cases hmay : PC.mayC pc
      · skip
        exact (add_bad h.jr.jp pc rs run hrs hrd hl hst hmay).mono fun e Y ⟨he, hb⟩ => PB.go h s (PD.refl h.jr.jp hb) h.ab rfl rfl _ (shI_mk _) he (AT.same _) (fun Y' J hH => by
          have hx := hH.rx
          rw [hrl] at hx
          exact (radd_bad hx (fun k hk => hH.jp.mm.ilt hk) hlen2 hna' hst pc rs run hrs hmay).mono fun e Z ⟨h1, h2⟩ => ⟨h1, rl, av, RE.refl hH.jp.mm hH.rx h2, hab.trans h.ab⟩)
      · exact (add_ok h.jr.jp pc rs run hrs hpc hrx hrd hl hst hmay (by omega) (by omega) (by omega)).mono fun e Y ⟨lv', he, pd⟩ => PB.go h ⟨ab a ++ (rd, recR c s.L r (rec3 pc rs run) (r.recs + 1)) :: ab b, s.last, recL c s.L r (rec3 pc rs run)⟩ pd (ab_mid _ _ _ _ _) rfl rfl _ (shI_mk _) he (AT.upd' hsl2 (UP.grow r (rec3 pc rs run) (r.recs + 1) s.L hst ⟨rec3_ok pc run hrs, .inr ⟨pc, rs, run, hpc, hrx, rfl⟩⟩ (by omega))) (fun Y' J hH => by
          have hx := hH.rx
          rw [hrl] at hx ⊢
          refine (radd_ok hx hH.jp.mm hlen2 hna' hst pc rs run hrs hpc hrx hmay (by omega) (by omega) hq2 (by omega) (fun q => h.jr.jp.mm.alen q)).mono fun e Z ⟨h1, v, h2⟩ => ⟨h1, a' ++ (rd, recR c s.L r (rec3 pc rs run) (r.recs + 1), v) :: b', av, ?_, by rw [ab_mid, ea, eb]⟩
          rw [(add_rec (c := c) (L := s.L) (r := r) pc rs run).1, (add_rec (c := c) (L := s.L) (r := r) pc rs run).2] at h2
          exact h2)
    · skip
      exact (add_st h.jr.jp pc rs run hrd hl hst).mono fun e Y ⟨he, hb⟩ => PB.go h s (PD.refl h.jr.jp hb) h.ab rfl rfl _ (shI_mk _) he (AT.same _) (fun Y' J hH => by
        have hx := hH.rx
        rw [hrl] at hx
        exact (radd_st hx (fun k hk => hH.jp.mm.ilt hk) hlen2 hna' hst pc rs run hrs).mono fun e Z ⟨h1, h2⟩ => ⟨h1, rl, av, RE.refl hH.jp.mm hH.rx h2, hab.trans h.ab⟩)
end
section
variable {c : Cx} {rb tn last last' : Nat} {L R R' L' : Lg} {C C2 I J : Nat → Prop} {X Y Y' Z : World} {rl rl' l l' a b : List En} {av av' : Value} {rd root : Int} {r r' : Rm} {lv : Value} {s s' : Am} {k : Int} {N : Nat}
theorem JB.half2 (h : JB c rb s C I X l rl av tn) (pd : PD c tn L' s.L I X Y l l' last' (fun _ => False)) (hJ : JP c tn L' s.L J Y l' last') (hIJ : ∀ k, I k → J k) (h2 : ∀ k, C2 k → J k ∧ X.heap.size ≤ k ∧ ¬ FP c.xb c.mb l' k) (hb : Below Y.heap.size Y Y') (e1 : XC.ab l' = s'.l) (e2 : L' = s'.L) (e3 : last' = s'.last) :
    JH c rb s' (fun k => (C k ∨ (Y.heap.size ≤ k ∧ k < Y'.heap.size)) ∨ C2 k) (fun k => J k ∨ (Y.heap.size ≤ k ∧ k < Y'.heap.size)) Y' l' rl s.last s.L av tn := by
  subst e2 e3
  have hlt : ∀ k, I k → k < X.heap.size := fun k hk => h.jr.jp.mm.ilt hk
  have hnf : ∀ k, I k → ¬ FP c.xb c.mb l k → ¬ FP c.xb c.mb l' k := fun k hk hn hf => by
    rcases pd.sub k hf with hf | hf
    · exact hn hf
    · have := hlt k hk; omega
  have hst : ∀ k, I k → ¬ FP c.xb c.mb l k → Y.heap[k]? = X.heap[k]? := fun k hk hn => pd.fr k (hlt k hk) hk hn (fun h => h)
  have hrx : RX c rb J Y rl s.last av := h.jr.rx.keep (fun k hk => by
    rcases hk with rfl | hk | ⟨x, hx, hk⟩
    · exact hst _ h.jr.rx.fI.1 h.jr.d1
    · exact hst k (h.jr.rx.aI k hk).1 (h.jr.d2 k hk)
    · exact hst k (h.jr.rx.lI x hx k hk).1 (h.jr.d3 x hx k hk)) hIJ
  have hsz := pd.size
  refine ⟨hJ.grow hb, hrx.keep (fun k hk => hb.block k (hrx.lt k hk (fun k hk => hJ.mm.ilt hk))) (fun k hk => .inl hk), hnf _ h.jr.rx.fI.1 h.jr.d1, fun k hk => hnf k (h.jr.rx.aI k hk).1 (h.jr.d2 k hk), fun x hx k hk => hnf k (h.jr.rx.lI x hx k hk).1 (h.jr.d3 x hx k hk), e1, fun k hk => ?_, sn_go h.sn (fun y hy g hg => ?_) (fun g hd => ?_)⟩
  rcases hk with (hk | hk) | hk
  · obtain ⟨c1, c2, c3, c4, c5⟩ := h.cc k hk
    exact ⟨.inl (hIJ k c1), hnf k c1 c2, c3, c4, c5⟩
  · refine ⟨.inr hk, fun hf => ?_, fun e => ?_, fun e => ?_, fun x hx e => ?_⟩
    · have := hJ.px.top k hf; omega
    · have := hlt _ h.jr.rx.fI.1; omega
    · have := hlt _ (h.jr.rx.aI k e).1; omega
    · have := hlt _ (h.jr.rx.lI x hx k e).1; omega
  · obtain ⟨c1, c2, c3⟩ := h2 k hk
    refine ⟨.inl c1, c3, fun e => ?_, fun e => ?_, fun x hx e => ?_⟩
    · have := hlt _ h.jr.rx.fI.1; omega
    · have := hlt _ (h.jr.rx.aI k e).1; omega
    · have := hlt _ (h.jr.rx.lI x hx k e).1; omega
  · have hgX : g < X.heap.size := HO.lt (h.jr.jp.px.own y hy) g hg
    have hfg : FP c.xb c.mb l g := .inr (.inr ⟨y, hy, hg⟩)
    refine ⟨fun j hj => (World.cell?_of_block (a := ⟨g, j, none⟩) (hb.block g (by omega))).trans ((pd.pre y hy g hg).1 j hj), ?_⟩
    by_cases hf : FP c.xb c.mb l' g
    · rcases hf with e | e | ⟨y', hy', e⟩
      · exact absurd e (h.jr.jp.px.far y hy g hg).1
      · exact absurd e (h.jr.jp.px.far y hy g hg).2
      · exact .inl ⟨y', hy', e, (pd.pre y hy g hg).2 y' hy' e⟩
    · exact .inr ⟨.inl (hIJ g (h.jr.jp.px.fI g hfg).1), fun hc => hc.elim (fun hc => hc.elim (fun hc => (h.cc g hc).2.1 hfg) (fun hc => by omega)) (fun hc => by have := (h2 g hc).2.1; omega), hf, fun e => h.jr.d1 (e ▸ hfg), fun e => h.jr.d2 g e hfg, fun z hz e => h.jr.d3 z hz g e hfg⟩
  · obtain ⟨q1, q2, q3, q4, q5, q6⟩ := hd
    have hgX := hlt g q1
    exact ⟨(hb.block g (by omega)).trans (hst g q1 q3), ⟨.inl (hIJ g q1), fun hc => hc.elim (fun hc => hc.elim q2 (fun hc => by omega)) (fun hc => by have := (h2 g hc).2.1; omega), hnf g q1 q3, q4, q5, q6⟩⟩
theorem fnd_new {q : R5.Qn} {A : List UInt8} : ∀ {l : Lg}, R5.fndA q l = none → R5.fndA q (l ++ [(q, A)]) = some A
  | [], _ => by unfold R5.fndA; simp
  | e :: l, h => by
    rw [List.cons_append]
    unfold R5.fndA at h ⊢
    split at h
    · cases h
    · rename_i he; rw [if_neg he]; exact fnd_new h
theorem nx_found (D : List (List UInt8)) (L : Lg) (q : R5.Qn) : R5.fndA q (R5.nx D L q).2 = some (R5.nx D L q).1 := by
  unfold R5.nx
  cases h : R5.fndA q L with
  | some A => exact h
  | none => exact fnd_new h
theorem nx_of (D : List (List UInt8)) {L : Lg} {q : R5.Qn} {A : List UInt8} (h : R5.fndA q L = some A) : R5.nx D L q = (A, L) := by unfold R5.nx; rw [h]
theorem nx_again (D : List (List UInt8)) (L : Lg) (q : R5.Qn) : (R5.nx D (R5.nx D L q).2 q).1 = (R5.nx D L q).1 := by rw [nx_of D (nx_found D L q)]
def PBC (c : Cx) (rb : Nat) (s : Am) (C : Nat → Prop) (rd root : Int) (PA TA : Array Value) (X : World) (e : Ending) (Y : World) : Prop :=
  ∃ E r v' s', e = .returned (.tuple #[.agg (rmL r v').toArray, .int .i64 E]) ∧ r.ok ∧ r.log.length ≤ 1 ∧ HR Y v' r.log ∧ AT c 1 s s' ∧ (E = 0 → r.inst = s.last + 1 ∧ s'.last = s.last + 1 ∧ s'.l = s.l ++ [(rd, r)]) ∧ (E ≠ 0 → s' = s) ∧ (∀ k, C k → Y.heap[k]? = X.heap[k]?) ∧
    ∀ Y', Below Y.heap.size Y Y' → Calls Tryz.prog 17 #[.pointer (some ⟨rb, 0, none⟩), .int .i64 rd, .int .i64 root, .agg PA, .agg TA] Y' fun e Z => ∃ lv2, e = .returned (.tuple #[.agg (rmL r lv2).toArray, .int .i64 E]) ∧ HR Z v' r.log ∧ HR Z lv2 r.log ∧ JA c rb s' (fun k => C k ∨ (Y.heap.size ≤ k ∧ k < Y'.heap.size)) Z ∧ ∀ k, (C k ∨ (Y.heap.size ≤ k ∧ k < Y'.heap.size)) → Z.heap[k]? = Y'.heap[k]?
theorem do_cre (h : JB c rb s C I X l rl av tn) (hB : Bd N s) (hN : N ≤ 1000) (hrd : iOk rd) (V : List UInt8) (hV : V.length = 32) (nodes : Nat) (tree : List UInt8) (ht : tree.length = 32) :
    Calls Tryz.prog 16 #[.pointer (some ⟨c.xb, 0, none⟩), .int .i64 rd, .int .i64 root, .agg (PC.rpL V nodes).toArray, .agg (tree.map B8).toArray] X fun e Y => PBC c rb s C rd root (PC.rpL V nodes).toArray (tree.map B8).toArray X e Y := by
  have hab := h.jr.ab
  obtain ⟨hln, hrn⟩ := h.rln hB
  have hsl := h.ab
  have hL := hB.L
  have hla := hB.last
  obtain ⟨r0, lv0, E0, hc0⟩ : ∃ r0 lv0 E0, (NoRd l rd ∧ r0 = zR ∧ lv0 = .slice none 0 0 ∧ E0 = 6) ∨ (∃ a b, l = a ++ (rd, r0, lv0) :: b) ∧ E0 = (0 : Int) := by
    rcases first_split l rd with hno | ⟨a, r, lv, b, hl, hna⟩
    · exact ⟨zR, .slice none 0 0, 6, .inl ⟨hno, rfl, rfl, rfl⟩⟩
    · exact ⟨r, lv, 0, .inr ⟨⟨a, b, hl⟩, rfl⟩⟩
  by_cases h0 : rd < 0
  · skip
    exact (cr_err h.jr.jp V nodes tree 2 (by decide) (fun hj => cf_arg1 hj hrd r0 lv0 E0 hc0 h0)).mono fun e Y ⟨he, hb⟩ => ⟨2, zR, .slice none 0 0, s, he, zR_ok, Nat.zero_le _, .inl ⟨rfl, rfl⟩, AT.same _, fun h => absurd h (by decide), fun _ => rfl, (h.half (s' := s) (PD.refl h.jr.jp hb) (Below.refl _ _) h.ab rfl rfl).2, fun Y' hb2 => by
      obtain ⟨⟨J, hH⟩, _⟩ := h.half (s' := s) (PD.refl h.jr.jp hb) hb2 h.ab rfl rfl
      have hx := hH.rx
      skip
      refine (rcr_arg _ (.inl h0) _ _).mono fun e Z ⟨h1, h2⟩ => ⟨.slice none 0 0, h1, .inl ⟨rfl, rfl⟩, .inl ⟨rfl, rfl⟩, ?_⟩
      exact hH.fin (RE.refl hH.jp.mm hH.rx h2) (hab.trans h.ab)⟩
  · by_cases h1 : root < 0
    · skip
      exact (cr_err h.jr.jp V nodes tree 2 (by decide) (fun hj => cf_arg2 hj hrd r0 lv0 E0 hc0 h0 h1)).mono fun e Y ⟨he, hb⟩ => ⟨2, zR, .slice none 0 0, s, he, zR_ok, Nat.zero_le _, .inl ⟨rfl, rfl⟩, AT.same _, fun h => absurd h (by decide), fun _ => rfl, (h.half (s' := s) (PD.refl h.jr.jp hb) (Below.refl _ _) h.ab rfl rfl).2, fun Y' hb2 => by
        obtain ⟨⟨J, hH⟩, _⟩ := h.half (s' := s) (PD.refl h.jr.jp hb) hb2 h.ab rfl rfl
        have hx := hH.rx
        skip
        refine (rcr_arg _ (.inr h1) _ _).mono fun e Z ⟨h1, h2⟩ => ⟨.slice none 0 0, h1, .inl ⟨rfl, rfl⟩, .inl ⟨rfl, rfl⟩, ?_⟩
        exact hH.fin (RE.refl hH.jp.mm hH.rx h2) (hab.trans h.ab)⟩
    · rcases first_split l rd with hno | ⟨a, r, lv, b, hl, hna⟩
      · refine (cr_ok h.jr.jp V hV nodes tree ht hrd hno h0 h1 (by omega) (by omega)).mono ?_
        rintro e Y ⟨lvn, v', he, hcd⟩
        obtain ⟨J, hJ, hIJ, hv⟩ := hcd.ex
        have hok := (hJ.px.ok (rd, newR c s.L (s.last + 1) root V nodes tree, lvn) (by simp))
        refine ⟨0, newR c s.L (s.last + 1) root V nodes tree, v', ⟨s.l ++ [(rd, newR c s.L (s.last + 1) root V nodes tree)], s.last + 1, newL c s.L (s.last + 1) V⟩, he, hok, Nat.le_refl _, hcd.hr, ?_, fun _ => ⟨rfl, rfl, rfl⟩, fun h => absurd rfl h, (h.half (s' := ⟨s.l ++ [(rd, newR c s.L (s.last + 1) root V nodes tree)], s.last + 1, newL c s.L (s.last + 1) V⟩) hcd.pd (Below.refl _ _) (by rw [ab_app, hsl]; rfl) rfl rfl).2, fun Y' hb2 => ?_⟩
        · exact AT.new s.l s.last s.L rd root V nodes tree hV (by omega)
        · have hH := h.half2 (s' := ⟨s.l ++ [(rd, newR c s.L (s.last + 1) root V nodes tree)], s.last + 1, newL c s.L (s.last + 1) V⟩) (C2 := fun k => v'.ownBlock = some k) hcd.pd hJ hIJ hv hb2 (by rw [ab_app, hsl]; rfl) rfl rfl
          have hA1 : (R5.nx c.D s.L (cq1 V)).1.length = 32 := h.jr.jp.mm.alen _
          have hA2 : (R5.nx c.D (R5.nx c.D s.L (cq1 V)).2 (cq2 c.m (s.last + 1))).1.length = 32 := by
            have := hJ.mm.alen (cq2 c.m (s.last + 1))
            rw [← nx_again c.D (R5.nx c.D s.L (cq1 V)).2 (cq2 c.m (s.last + 1))]
            exact this
          refine (rcr_ok hH.rx hH.jp.mm (by omega) (ab_no hab hno) h0 h1 V hV nodes tree ht (by omega) (by omega) hA1 hA2).mono fun e Z ⟨lv2, av2, h1, h2, h3⟩ => ?_
          obtain ⟨q1, q2⟩ := hH.fin h2 (by rw [ab_app, hab, hsl]; rfl)
          have hvY : HR Y' v' (newR c s.L (s.last + 1) root V nodes tree).log := hcd.hr.below hb2
          exact ⟨lv2, h1, hvY.keep (fun k e _ => q2 k (.inr e)), h3, q1.sub (fun k hk => .inl hk), fun k hk => q2 k (.inl hk)⟩
      · obtain ⟨a', lv2, b', hrl, ea, eb⟩ := ab_split (hl ▸ hab)
        have hna' := ab_no ea hna
        have hlen2 : (a' ++ (rd, r, lv2) :: b').length < 1000000 := by rw [← hrl]; omega
        exact (cr_err h.jr.jp V nodes tree 7 (by decide) (fun hj => cf_is hj hrd r lv 0 (.inr ⟨⟨a, b, hl⟩, rfl⟩) h0 h1 rfl)).mono fun e Y ⟨he, hb⟩ => ⟨7, zR, .slice none 0 0, s, he, zR_ok, Nat.zero_le _, .inl ⟨rfl, rfl⟩, AT.same _, fun h => absurd h (by decide), fun _ => rfl, (h.half (s' := s) (PD.refl h.jr.jp hb) (Below.refl _ _) h.ab rfl rfl).2, fun Y' hb2 => by
          obtain ⟨⟨J, hH⟩, _⟩ := h.half (s' := s) (PD.refl h.jr.jp hb) hb2 h.ab rfl rfl
          have hx := hH.rx
          rw [hrl] at hx
          refine (rcr_st hx (fun k hk => hH.jp.mm.ilt hk) hlen2 hna' h0 h1 _ _).mono fun e Z ⟨h1, h2⟩ => ⟨.slice none 0 0, h1, .inl ⟨rfl, rfl⟩, .inl ⟨rfl, rfl⟩, ?_⟩
          exact hH.fin (RE.refl hH.jp.mm hH.rx h2) (hab.trans h.ab)⟩
end
structure Ac where
  kind : Int
  rd : Int
  root : Int
  page : Int
  V : List UInt8
  nodes : Nat
  tree : List UInt8
  g : List UInt8
  pc : Nat
  rs : List Nat
  run : Bool
structure Ac.ok (a : Ac) : Prop where
  rd : iOk a.rd
  V : a.V.length = 32
  t : a.tree.length = 32
  g : a.g.length = 128
  rs : a.rs.length = 8
  pc : a.pc < 18446744073709551616
  rx : ∀ x ∈ a.rs, x < 18446744073709551616
def acL (a : Ac) : List Value := .int .i64 a.kind :: .int .i64 a.rd :: .int .i64 a.root :: .int .i64 a.page :: (PC.rpL a.V a.nodes ++ (a.tree.map B8 ++ (a.g.map B8 ++ PC.rcL a.pc a.rs a.run)))
theorem rpL_len' (V : List UInt8) (n : Nat) (h : V.length = 32) : (PC.rpL V n).length = 33 := by unfold PC.rpL; simp [h]
theorem acL_len {a : Ac} (h : a.ok) : (acL a).length = 207 := by unfold acL; simp [rpL_len' _ _ h.V, h.t, h.g, PC.rcL_len _ _ _ h.rs]
theorem acL_p {a : Ac} (h : a.ok) : ((acL a).drop 4).take 33 = PC.rpL a.V a.nodes := seg_app [.int .i64 a.kind, .int .i64 a.rd, .int .i64 a.root, .int .i64 a.page] (PC.rpL a.V a.nodes) _ 4 33 rfl (rpL_len' _ _ h.V)
theorem acL_t {a : Ac} (h : a.ok) : ((acL a).drop 37).take 32 = a.tree.map B8 := by
  have e : acL a = ([.int .i64 a.kind, .int .i64 a.rd, .int .i64 a.root, .int .i64 a.page] ++ PC.rpL a.V a.nodes) ++ (a.tree.map B8 ++ (a.g.map B8 ++ PC.rcL a.pc a.rs a.run)) := by unfold acL; simp
  rw [e]; exact seg_app _ _ _ 37 32 (by simp [rpL_len' _ _ h.V]) (by simp [h.t])
theorem acL_g {a : Ac} (h : a.ok) : ((acL a).drop 69).take 128 = a.g.map B8 := by
  have e : acL a = ([.int .i64 a.kind, .int .i64 a.rd, .int .i64 a.root, .int .i64 a.page] ++ PC.rpL a.V a.nodes ++ a.tree.map B8) ++ (a.g.map B8 ++ PC.rcL a.pc a.rs a.run) := by unfold acL; simp
  rw [e]; exact seg_app _ _ _ 69 128 (by simp [rpL_len' _ _ h.V, h.t]) (by simp [h.g])
theorem acL_r {a : Ac} (h : a.ok) : ((acL a).drop 197).take 10 = PC.rcL a.pc a.rs a.run := by
  have e : acL a = ([.int .i64 a.kind, .int .i64 a.rd, .int .i64 a.root, .int .i64 a.page] ++ PC.rpL a.V a.nodes ++ a.tree.map B8 ++ a.g.map B8) ++ (PC.rcL a.pc a.rs a.run ++ []) := by unfold acL; simp
  rw [e]; exact seg_app _ _ _ 197 10 (by simp [rpL_len' _ _ h.V, h.t, h.g]) (PC.rcL_len _ _ _ h.rs)
def prL (c : Cx) (rb : Nat) : List Value := [.pointer (some ⟨c.og, 0, none⟩), .pointer (some ⟨c.xb, 0, none⟩), .pointer (some ⟨rb, 0, none⟩)]
structure SB (c : Cx) (rb p q : Nat) (a : Ac) (W : World) : Prop where
  p : W.heap[p]? = some (.cells (prL c rb).toArray 29 (0, 0))
  q : W.heap[q]? = some (.cells (acL a).toArray 43 (0, 0))
section
variable {c : Cx} {rb tn last last' : Nat} {L R R' L' : Lg} {C C2 I J : Nat → Prop} {X Y Y' Z W : World} {rl rl' l l' : List En} {av av' : Value} {a : Ac} {s s' : Am} {k : Int} {N p q : Nat}
theorem SB.keep (h : SB c rb p q a X) (hk : ∀ k, k = p ∨ k = q → Y.heap[k]? = X.heap[k]?) : SB c rb p q a Y := ⟨(hk p (.inl rfl)).trans h.p, (hk q (.inr rfl)).trans h.q⟩
theorem SB.c1 (h : SB c rb p q a W) : W.cell? ⟨p, 1, none⟩ = some (.pointer (some ⟨c.xb, 0, none⟩)) := by rw [cell_of_row _ _ _ _ _ _ h.p]; rfl
theorem SB.c2 (h : SB c rb p q a W) : W.cell? ⟨p, 2, none⟩ = some (.pointer (some ⟨rb, 0, none⟩)) := by rw [cell_of_row _ _ _ _ _ _ h.p]; rfl
theorem SB.k0 (h : SB c rb p q a W) : W.cell? ⟨q, 0, none⟩ = some (.int .i64 a.kind) := by rw [cell_of_row _ _ _ _ _ _ h.q]; rfl
theorem SB.k1 (h : SB c rb p q a W) : W.cell? ⟨q, 1, none⟩ = some (.int .i64 a.rd) := by rw [cell_of_row _ _ _ _ _ _ h.q]; rfl
theorem SB.k2 (h : SB c rb p q a W) : W.cell? ⟨q, 2, none⟩ = some (.int .i64 a.root) := by rw [cell_of_row _ _ _ _ _ _ h.q]; rfl
theorem SB.k3 (h : SB c rb p q a W) : W.cell? ⟨q, 3, none⟩ = some (.int .i64 a.page) := by rw [cell_of_row _ _ _ _ _ _ h.q]; rfl
theorem SB.rp (h : SB c rb p q a W) (ha : a.ok) : W.rangeAt q 4 (PC.rpL a.V a.nodes) := by have := PC.rangeAt_part (PC.rangeAt_row h.q) 4 33; rwa [acL_p ha, Nat.zero_add] at this
theorem SB.rt (h : SB c rb p q a W) (ha : a.ok) : W.rangeAt q 37 (a.tree.map B8) := by have := PC.rangeAt_part (PC.rangeAt_row h.q) 37 32; rwa [acL_t ha, Nat.zero_add] at this
theorem SB.rg (h : SB c rb p q a W) (ha : a.ok) : W.rangeAt q 69 (a.g.map B8) := by have := PC.rangeAt_part (PC.rangeAt_row h.q) 69 128; rwa [acL_g ha, Nat.zero_add] at this
theorem SB.rr (h : SB c rb p q a W) (ha : a.ok) : W.rangeAt q 197 (PC.rcL a.pc a.rs a.run) := by have := PC.rangeAt_part (PC.rangeAt_row h.q) 197 10; rwa [acL_r ha, Nat.zero_add] at this
theorem JA.new (h : JA c rb s C X) (hb : Below X.heap.size X Y) : JA c rb s (fun k => C k ∨ (X.heap.size ≤ k ∧ k < Y.heap.size)) Y := by
  obtain ⟨I, l, rl, av, tn, h⟩ := h
  have hlt : ∀ k, I k → k < X.heap.size := fun k hk => h.jr.jp.mm.ilt hk
  refine ⟨_, l, rl, av, tn, ⟨h.jr.jp.grow hb, h.jr.rx.keep (fun k hk => hb.block k (h.jr.rx.lt k hk hlt)) (fun k hk => .inl hk), h.jr.ab, h.jr.d1, h.jr.d2, h.jr.d3⟩, h.ab, fun k hk => ?_, sn_go h.sn (fun y hy g hg => ⟨fun j hj => World.cell?_of_block (a := ⟨g, j, none⟩) (hb.block g (HO.lt (h.jr.jp.px.own y hy) g hg)), .inl ⟨y, hy, hg, Nat.le_refl _⟩⟩) (fun g hd => ⟨hb.block g (hlt g hd.1), ⟨.inl hd.1, fun hc => hc.elim hd.2.1 (fun hc => by have := hlt g hd.1; omega), hd.2.2⟩⟩)⟩
  rcases hk with hk | hk
  · obtain ⟨c1, c2, c3, c4, c5⟩ := h.cc k hk
    exact ⟨.inl c1, c2, c3, c4, c5⟩
  · refine ⟨.inr hk, fun hf => ?_, fun e => ?_, fun e => ?_, fun x hx e => ?_⟩
    · have := h.jr.jp.px.top k hf; omega
    · have := hlt _ h.jr.rx.fI.1; omega
    · have := hlt _ (h.jr.rx.aI k e).1; omega
    · have := hlt _ (h.jr.rx.lI x hx k e).1; omega
theorem JA.below (h : JA c rb s C X) (hb : Below X.heap.size X Y) : JA c rb s C Y := (h.new hb).sub (fun k hk => .inl hk)
theorem JA.bel (h : JA c rb s C X) : Below c.w.heap.size c.w X := by
  obtain ⟨I, l, rl, av, tn, h⟩ := h
  exact h.jr.jp.mm.bel
theorem JA.lt (h : JA c rb s C X) {k : Nat} (hk : C k) : k < X.heap.size := by
  obtain ⟨I, l, rl, av, tn, h⟩ := h
  exact h.jr.jp.mm.ilt (h.cc k hk).1
end
end Go.Proofs.YtekbppfocnbhbaaGreat.XC
