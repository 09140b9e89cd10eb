/- realm: each act by both. -/
import Derived.Test.YtekbppfocnbhbaaGreatRf
set_option linter.unusedVariables false
set_option linter.unusedSimpArgs false
namespace Go.Proofs.YtekbppfocnbhbaaGreat.XC
open Go.RowKit

section
variable {c : Cx} {rb tn last last' : Nat} {L R R' L' : Lg} {C I J : Nat → Prop} {X Y Y' Z : World} {rl rl' l l' a b : List En} {av av' : Value} {rd root : Int} {r r' : Rm} {lv : Value} {s s' : Am} {k : Int} {N : Nat}
theorem do_kil (h : JB c rb s C I X l rl av tn) (hB : Bd N s) (hN : N ≤ 1000) (hrd : iOk rd) :
    Calls Tryz.prog 29 #[.pointer (some ⟨c.xb, 0, none⟩), .int .i64 rd] X fun e Y => PB c rb k s C shI 38 #[.pointer (some ⟨rb, 0, none⟩), .int .i64 rd] X e Y := by
  have hab := h.jr.ab
  obtain ⟨hln, hrn⟩ := h.rln hB
  have hsl := h.ab
  rcases first_split l rd with hno | ⟨a, r, lv, b, hl, hna⟩
  · skip
    exact (kil_no h.jr.jp hrd hno).mono fun e Y ⟨he, hb⟩ => PB.go h s (PD.refl h.jr.jp hb) h.ab rfl rfl _ (shI_mk _) he (AT.same _) (fun Y' J hH => (rkil_no hH.rx (by omega) (ab_no hab hno)).mono fun e Z ⟨h1, h2⟩ => ⟨h1, rl, av, by subst h2; exact RE.refl hH.jp.mm hH.rx (Below.refl _ _), hab.trans h.ab⟩)
  · skip
    obtain ⟨hq1, hq2, hq3, hq4⟩ := h.mem hB hl
    obtain ⟨a', lv2, b', hrl, ea, eb⟩ := ab_split (hl ▸ hab)
    have hna' := ab_no ea hna
    have hsl2 : s.l = ab a ++ (rd, r) :: ab b := by rw [← hsl, hl, ab_mid]
    have hlen2 : (a' ++ (rd, r, lv2) :: b').length < 1000000 := by rw [← hrl]; omega
    exact (kil_ok h.jr.jp hrd hl).mono fun e Y ⟨lv', he, pd⟩ => PB.go h ⟨ab a ++ (rd, { r with st := 3 }) :: ab b, s.last, s.L⟩ pd (ab_mid _ _ _ _ _) rfl rfl _ (shI_mk _) he (AT.upd' hsl2 (UP.st r 3 s.L (.inr rfl))) (fun Y' J hH => by
      have hx := hH.rx
      rw [hrl] at hx ⊢
      exact (rkil_is hx hlen2 hna').mono fun e Z ⟨h1, h2⟩ => ⟨h1, _, av, RE.of_rv hH.jp.mm hx h2.rv lg_upd, by rw [ab_mid, ea, eb]⟩)
theorem do_drp (h : JB c rb s C I X l rl av tn) (hB : Bd N s) (hN : N ≤ 1000) (hrd : iOk rd) :
    Calls Tryz.prog 27 #[.pointer (some ⟨c.xb, 0, none⟩), .int .i64 rd] X fun e Y => PB c rb k s C shI 36 #[.pointer (some ⟨rb, 0, none⟩), .int .i64 rd] X e Y := by
  have hab := h.jr.ab
  obtain ⟨hln, hrn⟩ := h.rln hB
  have hsl := h.ab
  rcases first_split l rd with hno | ⟨a, r, lv, b, hl, hna⟩
  · skip
    exact (drp_no h.jr.jp hrd hno).mono fun e Y ⟨he, hb⟩ => PB.go h s (PD.refl h.jr.jp hb) h.ab rfl rfl _ (shI_mk _) he (AT.same _) (fun Y' J hH => (rdrp_no hH.rx (by omega) (ab_no hab hno)).mono fun e Z ⟨h1, h2⟩ => ⟨h1, rl, av, by subst h2; exact RE.refl hH.jp.mm hH.rx (Below.refl _ _), hab.trans h.ab⟩)
  · skip
    obtain ⟨hq1, hq2, hq3, hq4⟩ := h.mem hB hl
    obtain ⟨a', lv2, b', hrl, ea, eb⟩ := ab_split (hl ▸ hab)
    have hna' := ab_no ea hna
    have hsl2 : s.l = ab a ++ (rd, r) :: ab b := by rw [← hsl, hl, ab_mid]
    have hlen2 : (a' ++ (rd, r, lv2) :: b').length < 1000000 := by rw [← hrl]; omega
    cases hrc : r.recs with
    | zero =>
      exact (drp_0 h.jr.jp hrd hl hrc).mono fun e Y ⟨he, hb⟩ => PB.go h s (PD.refl h.jr.jp hb) h.ab rfl rfl _ (shI_mk _) he (AT.same _) (fun Y' J hH => by
        have hx := hH.rx
        rw [hrl] at hx
        exact (rdrp_arg hx hlen2 hna' hrc).mono fun e Z ⟨h1, h2⟩ => ⟨h1, rl, av, by subst h2; exact RE.refl hH.jp.mm hH.rx (Below.refl _ _), hab.trans h.ab⟩)
    | succ n =>
      exact (drp_ok h.jr.jp hrd hl n hrc (by omega)).mono fun e Y ⟨lv', he, pd⟩ => PB.go h ⟨ab a ++ (rd, { r with recs := n }) :: ab b, s.last, s.L⟩ pd (ab_mid _ _ _ _ _) rfl rfl _ (shI_mk _) he (AT.upd' hsl2 (UP.recs r n s.L (by omega))) (fun Y' J hH => by
        have hx := hH.rx
        rw [hrl] at hx ⊢
        exact (rdrp_ok hx hlen2 hna' n hrc (by omega)).mono fun e Z ⟨h1, h2⟩ => ⟨h1, _, av, RE.of_rv hH.jp.mm hx h2.rv lg_upd, by rw [ab_mid, ea, eb]⟩)
theorem do_nxt (h : JB c rb s C I X l rl av tn) (hB : Bd N s) (hN : N ≤ 1000) (hrd : iOk rd) :
    Calls Tryz.prog 24 #[.pointer (some ⟨c.xb, 0, none⟩), .int .i64 rd] X fun e Y => PB c rb 7 s C shN 33 #[.pointer (some ⟨rb, 0, none⟩), .int .i64 rd] X e Y := by
  have hab := h.jr.ab
  obtain ⟨hln, hrn⟩ := h.rln hB
  have hsl := h.ab
  rcases first_split l rd with hno | ⟨a, r, lv, b, hl, hna⟩
  · skip
    exact (nxt_no h.jr.jp hrd hno).mono fun e Y ⟨he, hb⟩ => PB.go h s (PD.refl h.jr.jp hb) h.ab rfl rfl _ ⟨_, _, rfl⟩ he (AT.same _) (fun Y' J hH => (rnxt_no hH.rx (by omega) (ab_no hab hno)).mono fun e Z ⟨h1, h2⟩ => ⟨h1, rl, av, by subst h2; exact RE.refl hH.jp.mm hH.rx (Below.refl _ _), hab.trans h.ab⟩)
  · skip
    obtain ⟨hq1, hq2, hq3, hq4⟩ := h.mem hB hl
    obtain ⟨a', lv2, b', hrl, ea, eb⟩ := ab_split (hl ▸ hab)
    have hna' := ab_no ea hna
    have hsl2 : s.l = ab a ++ (rd, r) :: ab b := by rw [← hsl, hl, ab_mid]
    have hlen2 : (a' ++ (rd, r, lv2) :: b').length < 1000000 := by rw [← hrl]; omega
    exact (nxt_ok h.jr.jp hrd hl (by omega)).mono fun e Y ⟨lv', he, pd⟩ => PB.go h ⟨ab a ++ (rd, { r with ctr := r.ctr + 1 }) :: ab b, s.last, s.L⟩ pd (ab_mid _ _ _ _ _) rfl rfl _ ⟨_, _, rfl⟩ he (AT.upd' hsl2 (UP.ctr r s.L rfl)) (fun Y' J hH => by
      have hx := hH.rx
      rw [hrl] at hx ⊢
      exact (rnxt_ok hx hlen2 hna' (by omega)).mono fun e Z ⟨h1, h2⟩ => ⟨h1, _, av, RE.of_rv hH.jp.mm hx h2.rv lg_upd, by rw [ab_mid, ea, eb]⟩)
theorem do_str (h : JB c rb s C I X l rl av tn) (hB : Bd N s) (hN : N ≤ 1000) (hrd : iOk rd) (t : List UInt8) (ht : t.length = 32) :
    Calls Tryz.prog 30 #[.pointer (some ⟨c.xb, 0, none⟩), .int .i64 rd, .agg (t.map B8).toArray] X fun e Y => PB c rb k s C shI 39 #[.pointer (some ⟨rb, 0, none⟩), .int .i64 rd, .agg (t.map B8).toArray] X e Y := by
  have hab := h.jr.ab
  obtain ⟨hln, hrn⟩ := h.rln hB
  have hsl := h.ab
  rcases first_split l rd with hno | ⟨a, r, lv, b, hl, hna⟩
  · exact (str_no h.jr.jp hrd hno t).mono fun e Y ⟨he, hb⟩ => PB.go h s (PD.refl h.jr.jp hb) h.ab rfl rfl _ (shI_mk _) he (AT.same _) (fun Y' J hH => (rstr_no hH.rx (fun k hk => hH.jp.mm.ilt hk) (by omega) (ab_no hab hno) _).mono fun e Z ⟨h1, h2⟩ => ⟨h1, rl, av, RE.of_rv hH.jp.mm hH.rx h2 (fun x hx k e => ⟨x, hx, e⟩), hab.trans h.ab⟩)
  · skip
    obtain ⟨hq1, hq2, hq3, hq4⟩ := h.mem hB hl
    obtain ⟨a', lv2, b', hrl, ea, eb⟩ := ab_split (hl ▸ hab)
    have hna' := ab_no ea hna
    have hsl2 : s.l = ab a ++ (rd, r) :: ab b := by rw [← hsl, hl, ab_mid]
    have hlen2 : (a' ++ (rd, r, lv2) :: b').length < 1000000 := by rw [← hrl]; omega
    exact (str_ok h.jr.jp hrd hl t ht).mono fun e Y ⟨lv', he, pd⟩ => PB.go h ⟨ab a ++ (rd, { r with tree := t }) :: ab b, s.last, s.L⟩ pd (ab_mid _ _ _ _ _) rfl rfl _ (shI_mk _) he (AT.upd' hsl2 (UP.tree r t s.L)) (fun Y' J hH => by
      have hx := hH.rx
      rw [hrl] at hx ⊢
      exact (rstr_is hx (fun k hk => hH.jp.mm.ilt hk) hlen2 hna' t ht).mono fun e Z ⟨h1, h2⟩ => ⟨h1, _, av, RE.of_rv hH.jp.mm hx h2 lg_upd, by rw [ab_mid, ea, eb]⟩)
theorem do_del (h : JB c rb s C I X l rl av tn) (hB : Bd N s) (hN : N ≤ 1000) (hrd : iOk rd) :
    Calls Tryz.prog 31 #[.pointer (some ⟨c.xb, 0, none⟩), .int .i64 rd] X fun e Y => PB c rb k s C shI 40 #[.pointer (some ⟨rb, 0, none⟩), .int .i64 rd] X e Y := by
  have hab := h.jr.ab
  obtain ⟨hln, hrn⟩ := h.rln hB
  have hsl := h.ab
  rcases first_split l rd with hno | ⟨a, r, lv, b, hl, hna⟩
  · skip
    exact (drop_no h.jr.jp hrd hno).mono fun e Y ⟨he, hb⟩ => PB.go h s (PD.refl h.jr.jp hb) h.ab rfl rfl _ (shI_mk _) he (AT.same _) (fun Y' J hH => (rdel_no hH.rx (by omega) (ab_no hab hno)).mono fun e Z ⟨h1, h2⟩ => ⟨h1, rl, av, by subst h2; exact RE.refl hH.jp.mm hH.rx (Below.refl _ _), hab.trans h.ab⟩)
  · skip
    obtain ⟨hq1, hq2, hq3, hq4⟩ := h.mem hB hl
    obtain ⟨a', lv2, b', hrl, ea, eb⟩ := ab_split (hl ▸ hab)
    have hna' := ab_no ea hna
    have hsl2 : s.l = ab a ++ (rd, r) :: ab b := by rw [← hsl, hl, ab_mid]
    have hlen2 : (a' ++ (rd, r, lv2) :: b').length < 1000000 := by rw [← hrl]; omega
    by_cases hrc : r.recs = 0
    · exact (drop_ok h.jr.jp hrd hl hrc).mono fun e Y ⟨he, pd⟩ => PB.go h ⟨ab a ++ ab b, s.last, s.L⟩ pd (ab_app _ _) rfl rfl _ (shI_mk _) he (AT.del' hsl2) (fun Y' J hH => by
        have hx := hH.rx
        rw [hrl] at hx ⊢
        refine (rdel_ok hx (fun k hk => hH.jp.mm.ilt hk) hH.jp.mm.low.2 hlen2 hna' hrc).mono fun e Z ⟨h1, av', h2, h3, h4⟩ => ⟨h1, a' ++ b', av', RE.of_rm hH.jp.mm hx h2 h3 (fun k e => .inr (h4 k e)) (fun x hx k e => ?_), by rw [ab_app, ea, eb]⟩
        refine ⟨x, ?_, e⟩
        rcases List.mem_append.1 hx with hx | hx <;> simp [hx])
    · skip
      exact (drop_use h.jr.jp hrd hl (by omega)).mono fun e Y ⟨he, hb⟩ => PB.go h s (PD.refl h.jr.jp hb) h.ab rfl rfl _ (shI_mk _) he (AT.same _) (fun Y' J hH => by
        have hx := hH.rx
        rw [hrl] at hx
        exact (rdel_use hx hlen2 hna' (by omega)).mono fun e Z ⟨h1, h2⟩ => ⟨h1, rl, av, by subst h2; exact RE.refl hH.jp.mm hH.rx (Below.refl _ _), hab.trans h.ab⟩)
theorem do_data (h : JB c rb s C I X l rl av tn) (hB : Bd N s) (hN : N ≤ 1000) (hrd : iOk rd) (P : Int) (g : List UInt8) (hg : g.length = 128) :
    Calls Tryz.prog 25 #[.pointer (some ⟨c.xb, 0, none⟩), .int .i64 rd, .int .i64 P, .agg (g.map B8).toArray] X fun e Y => PB c rb k s C shI 34 #[.pointer (some ⟨rb, 0, none⟩), .int .i64 rd, .int .i64 P, .agg (g.map B8).toArray] X e Y := by
  have hL := hB.L
  by_cases hP0 : P < 0
  · have hab := h.jr.ab
    exact (data_arg1 h.jr.jp P hP0 g).mono fun e Y ⟨he, hb⟩ => PB.go h s (PD.refl h.jr.jp hb) h.ab rfl rfl _ (shI_mk _) he (AT.same _) (fun Y' J hH => (rdata_arg _ P (.inl hP0) _).mono fun e Z ⟨h1, h2⟩ => ⟨h1, rl, av, RE.refl hH.jp.mm hH.rx h2, hab.trans h.ab⟩)
  · by_cases hP : 128 ≤ P
    · have hab := h.jr.ab
      exact (data_arg2 h.jr.jp P hP0 hP g).mono fun e Y ⟨he, hb⟩ => PB.go h s (PD.refl h.jr.jp hb) h.ab rfl rfl _ (shI_mk _) he (AT.same _) (fun Y' J hH => (rdata_arg _ P (.inr (by omega)) _).mono fun e Z ⟨h1, h2⟩ => ⟨h1, rl, av, RE.refl hH.jp.mm hH.rx h2, hab.trans h.ab⟩)
    · obtain ⟨pg, hpg⟩ : ∃ pg : Nat, P = pg := ⟨P.toNat, by omega⟩
      have hp7 : pg < 128 := by omega
      subst hpg
      have hab := h.jr.ab
      obtain ⟨hln, hrn⟩ := h.rln hB
      have hsl := h.ab
      rcases first_split l rd with hno | ⟨a, r, lv, b, hl, hna⟩
      · skip
        exact (data_no h.jr.jp (pg : Int) hP0 hP g hrd hno).mono fun e Y ⟨he, hb⟩ => PB.go h s (PD.refl h.jr.jp hb) h.ab rfl rfl _ (shI_mk _) he (AT.same _) (fun Y' J hH => (rdata_no hH.rx (fun k hk => hH.jp.mm.ilt hk) (by omega) (ab_no hab hno) pg hp7 g hg).mono fun e Z ⟨h1, h2⟩ => ⟨h1, rl, av, RE.refl hH.jp.mm hH.rx h2, hab.trans h.ab⟩)
      · skip
        obtain ⟨hq1, hq2, hq3, hq4⟩ := h.mem hB hl
        obtain ⟨a', lv2, b', hrl, ea, eb⟩ := ab_split (hl ▸ hab)
        have hna' := ab_no ea hna
        have hsl2 : s.l = ab a ++ (rd, r) :: ab b := by rw [← hsl, hl, ab_mid]
        have hlen2 : (a' ++ (rd, r, lv2) :: b').length < 1000000 := by rw [← hrl]; omega
        by_cases hst : r.st = 1
        · exact (data_ok h.jr.jp pg hp7 g hg hrd hl hst (by omega) (by omega)).mono fun e Y ⟨lv', he, pd⟩ => PB.go h ⟨ab a ++ (rd, recR c s.L r (rec2 pg g) r.recs) :: ab b, s.last, recL c s.L r (rec2 pg g)⟩ pd (ab_mid _ _ _ _ _) rfl rfl _ (shI_mk _) he (AT.upd' hsl2 (UP.grow r (rec2 pg g) r.recs s.L hst ⟨rec2_ok pg hg, .inl ⟨pg, g, hp7, rfl⟩⟩ (by omega))) (fun Y' J hH => by
            have hx := hH.rx
            rw [hrl] at hx ⊢
            exact (rdata_ok hx hH.jp.mm hlen2 hna' hst pg hp7 g hg (by omega) (by omega) hq2 (fun q => h.jr.jp.mm.alen q)).mono fun e Z ⟨h1, v, h2⟩ => ⟨h1, _, av, h2, by rw [ab_mid, ea, eb]⟩)
        · skip
          exact (data_st h.jr.jp (pg : Int) hP0 hP g hrd hl hst).mono fun e Y ⟨he, hb⟩ => PB.go h s (PD.refl h.jr.jp hb) h.ab rfl rfl _ (shI_mk _) he (AT.same _) (fun Y' J hH => by
            have hx := hH.rx
            rw [hrl] at hx
            exact (rdata_st hx (fun k hk => hH.jp.mm.ilt hk) hlen2 hna' hst pg hp7 g hg).mono fun e Z ⟨h1, h2⟩ => ⟨h1, rl, av, RE.refl hH.jp.mm hH.rx h2, hab.trans h.ab⟩)
theorem do_add (h : JB c rb s C I X l rl av tn) (hB : Bd N s) (hN : N ≤ 1000) (hrd : iOk rd) (pc : Nat) (rs : List Nat) (run : Bool) (hrs : rs.length = 8) (hpc : pc < 18446744073709551616) (hrx : ∀ x ∈ rs, x < 18446744073709551616) :
    Calls Tryz.prog 26 #[.pointer (some ⟨c.xb, 0, none⟩), .int .i64 rd, .agg (PC.rcL pc rs run).toArray] X fun e Y => PB c rb k s C shI 35 #[.pointer (some ⟨rb, 0, none⟩), .int .i64 rd, .agg (PC.rcL pc rs run).toArray] X e Y := by
  have hL := hB.L
  have hab := h.jr.ab
  obtain ⟨hln, hrn⟩ := h.rln hB
  have hsl := h.ab
  rcases first_split l rd with hno | ⟨a, r, lv, b, hl, hna⟩
  · skip
    exact (add_no h.jr.jp pc rs run hrd hno).mono fun e Y ⟨he, hb⟩ => PB.go h s (PD.refl h.jr.jp hb) h.ab rfl rfl _ (shI_mk _) he (AT.same _) (fun Y' J hH => (radd_no hH.rx (fun k hk => hH.jp.mm.ilt hk) (by omega) (ab_no hab hno) pc rs run hrs).mono fun e Z ⟨h1, h2⟩ => ⟨h1, rl, av, RE.refl hH.jp.mm hH.rx h2, hab.trans h.ab⟩)
  · skip
    obtain ⟨hq1, hq2, hq3, hq4⟩ := h.mem hB hl
    obtain ⟨a', lv2, b', hrl, ea, eb⟩ := ab_split (hl ▸ hab)
    have hna' := ab_no ea hna
    have hsl2 : s.l = ab a ++ (rd, r) :: ab b := by rw [← hsl, hl, ab_mid]
    have hlen2 : (a' ++ (rd, r, lv2) :: b').length < 1000000 := by rw [← hrl]; omega
    by_cases hst : r.st = 1
    · cases hmay : PC.mayC pc
      · skip
        exact (add_bad h.jr.jp pc rs run hrs hrd hl hst hmay).mono fun e Y ⟨he, hb⟩ => PB.go h s (PD.refl h.jr.jp hb) h.ab rfl rfl _ (shI_mk _) he (AT.same _) (fun Y' J hH => by
          have hx := hH.rx
          rw [hrl] at hx
          exact (radd_bad hx (fun k hk => hH.jp.mm.ilt hk) hlen2 hna' hst pc rs run hrs hmay).mono fun e Z ⟨h1, h2⟩ => ⟨h1, rl, av, RE.refl hH.jp.mm hH.rx h2, hab.trans h.ab⟩)
      · exact (add_ok h.jr.jp pc rs run hrs hpc hrx hrd hl hst hmay (by omega) (by omega) (by omega)).mono fun e Y ⟨lv', he, pd⟩ => PB.go h ⟨ab a ++ (rd, recR c s.L r (rec3 pc rs run) (r.recs + 1)) :: ab b, s.last, recL c s.L r (rec3 pc rs run)⟩ pd (ab_mid _ _ _ _ _) rfl rfl _ (shI_mk _) he (AT.upd' hsl2 (UP.grow r (rec3 pc rs run) (r.recs + 1) s.L hst ⟨rec3_ok pc run hrs, .inr ⟨pc, rs, run, hpc, hrx, rfl⟩⟩ (by omega))) (fun Y' J hH => by
          have hx := hH.rx
          rw [hrl] at hx ⊢
          refine (radd_ok hx hH.jp.mm hlen2 hna' hst pc rs run hrs hpc hrx hmay (by omega) (by omega) hq2 (by omega) (fun q => h.jr.jp.mm.alen q)).mono fun e Z ⟨h1, v, h2⟩ => ⟨h1, a' ++ (rd, recR c s.L r (rec3 pc rs run) (r.recs + 1), v) :: b', av, ?_, by rw [ab_mid, ea, eb]⟩
          rw [(add_rec (c := c) (L := s.L) (r := r) pc rs run).1, (add_rec (c := c) (L := s.L) (r := r) pc rs run).2] at h2
          exact h2)
    · skip
      exact (add_st h.jr.jp pc rs run hrd hl hst).mono fun e Y ⟨he, hb⟩ => PB.go h s (PD.refl h.jr.jp hb) h.ab rfl rfl _ (shI_mk _) he (AT.same _) (fun Y' J hH => by
        have hx := hH.rx
        rw [hrl] at hx
        exact (radd_st hx (fun k hk => hH.jp.mm.ilt hk) hlen2 hna' hst pc rs run hrs).mono fun e Z ⟨h1, h2⟩ => ⟨h1, rl, av, RE.refl hH.jp.mm hH.rx h2, hab.trans h.ab⟩)
end
end Go.Proofs.YtekbppfocnbhbaaGreat.XC
