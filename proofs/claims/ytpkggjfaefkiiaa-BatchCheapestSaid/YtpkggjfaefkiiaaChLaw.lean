/- BatchCheapest, the law's own call; no statement is proved here. -/
import Derived.Test.YtpkggjfaefkiiaaForm
import Derived.Test.YtpkggjfaefkiiaaChM
import Derived.Deep.QuietTactic
import Derived.BigQuiet
import Derived.Test.YtpkggjfaefkiiaaTill
namespace Go.Proofs.Ytpkggjfaefkiiaa
open Go.RowKit Go.PlainAid
set_option linter.unusedVariables false

set_option maxHeartbeats 4000000 in
set_option maxRecDepth 100000 in
theorem chLaw_any (vb vx : Value) (b : Bat) (x : Ask) (w : World) (h : RBat w vb b) (hx : RAsk w vx x) :
    Calls Try.prog 12 #[vb, vx] w (TrueB w) := by
  obtain ⟨a0, k0, a1, k1, a2, k2, a3, k3, rfl⟩ := h.agg
  obtain ⟨b0, j0, b1, j1, b5, j5, rfl⟩ := hx.agg
  obtain ⟨hr1, hr2, -⟩ := asks hx
  have hA := below_two w (.cells #[.slice a0 b.oxides.length k0, .slice a1 b.mats.length k1, .slice a2 b.shares.length k2, .slice a3 b.props.length k3, .int .i64 b.redox.lo, .int .i64 b.redox.hi, .int .i64 b.wanted] 29) (.cells #[.slice b0 x.recipe.length j0, .slice b1 x.other.length j1, .int .i64 x.property, .int .i64 x.lots, .int .i64 x.scale, .slice b5 x.weights.length j5] 44)
  have hB := (Blk.new w #[.slice a0 b.oxides.length k0, .slice a1 b.mats.length k1, .slice a2 b.shares.length k2, .slice a3 b.props.length k3, .int .i64 b.redox.lo, .int .i64 b.redox.hi, .int .i64 b.wanted] 29).alloc (.cells #[.slice b0 x.recipe.length j0, .slice b1 x.other.length j1, .int .i64 x.property, .int .i64 x.lots, .int .i64 x.scale, .slice b5 x.weights.length j5] 44)
  have hC : Blk ((w.alloc (.cells #[.slice a0 b.oxides.length k0, .slice a1 b.mats.length k1, .slice a2 b.shares.length k2, .slice a3 b.props.length k3, .int .i64 b.redox.lo, .int .i64 b.redox.hi, .int .i64 b.wanted] 29)).alloc (.cells #[.slice b0 x.recipe.length j0, .slice b1 x.other.length j1, .int .i64 x.property, .int .i64 x.lots, .int .i64 x.scale, .slice b5 x.weights.length j5] 44)) (w.heap.size + 1) #[.slice b0 x.recipe.length j0, .slice b1 x.other.length j1, .int .i64 x.property, .int .i64 x.lots, .int .i64 x.scale, .slice b5 x.weights.length j5] 44 := by
    have := Blk.new (w.alloc (.cells #[.slice a0 b.oxides.length k0, .slice a1 b.mats.length k1, .slice a2 b.shares.length k2, .slice a3 b.props.length k3, .int .i64 b.redox.lo, .int .i64 b.redox.hi, .int .i64 b.wanted] 29)) #[.slice b0 x.recipe.length j0, .slice b1 x.other.length j1, .int .i64 x.property, .int .i64 x.lots, .int .i64 x.scale, .slice b5 x.weights.length j5] 44
    simpa using this
  go_enter Try.func12, Try.ntmps12
  go_wp2_with fail
  generalize (w.alloc (.cells #[.slice a0 b.oxides.length k0, .slice a1 b.mats.length k1, .slice a2 b.shares.length k2, .slice a3 b.props.length k3, .int .i64 b.redox.lo, .int .i64 b.redox.hi, .int .i64 b.wanted] 29)).alloc (.cells #[.slice b0 x.recipe.length j0, .slice b1 x.other.length j1, .int .i64 x.property, .int .i64 x.lots, .int .i64 x.scale, .slice b5 x.weights.length j5] 44) = W at *
  refine (great_any _ b _ (h.mono (ext_of_below hA))).mono ?_
  rintro e w1 ⟨t1, rfl, hb1⟩
  have hA1 := hA.trans (hb1.mono hA.size)
  have hB1 := hB.below hb1 hB.lt
  have hC1 := hC.below hb1 hC.lt
  clear hA hB hC hb1
  cases t1
  case true =>
    go_wp2_with fail
    refine (lives_any _).mono ?_
    rintro e wl ⟨rfl, hbl⟩
    have hAl := hA1.trans (hbl.mono hA1.size)
    clear hbl hB1 hC1
    go_wp2
    go_ret
    exact ⟨rfl, hAl⟩
  have c0 := hC1.cell 0 _ rfl
  have c1 := hC1.cell 1 _ rfl
  have c2 := hC1.cell 2 _ rfl
  have c3 := hC1.cell 3 _ rfl
  have c4 := hC1.cell 4 _ rfl
  have c5 := hC1.cell 5 _ rfl
  go_wp2_with fail
  refine (wide_any _ x _ ?_).mono ?_
  · exact hx.mono (ext_of_below hA1)
  rintro e w2 ⟨t2, rfl, hb2⟩
  have hA2 := hA1.trans (hb2.mono hA1.size)
  have hB2 := hB1.below hb2 hB1.lt
  have hC2 := hC1.below hb2 hC1.lt
  clear hA1 hB1 hC1 hb2 c0 c1 c2 c3 c4 c5
  cases t2
  case true =>
    go_wp2_with fail
    refine (lives_any _).mono ?_
    rintro e wl ⟨rfl, hbl⟩
    have hAl := hA2.trans (hbl.mono hA2.size)
    clear hbl hB2 hC2
    go_wp2
    go_ret
    exact ⟨rfl, hAl⟩
  have f0 := hB2.cell 0 _ rfl
  have f1 := hB2.cell 1 _ rfl
  have f2 := hB2.cell 2 _ rfl
  have f3 := hB2.cell 3 _ rfl
  have f4 := hB2.cell 4 _ rfl
  have f5 := hB2.cell 5 _ rfl
  have f6 := hB2.cell 6 _ rfl
  go_wp2_with fail
  refine (many_any _ b _ (h.mono (ext_of_below hA2))).mono ?_
  rintro e w3 ⟨t3, rfl, hb3⟩
  have hA3 := hA2.trans (hb3.mono hA2.size)
  have hB3 := hB2.below hb3 hB2.lt
  have hC3 := hC2.below hb3 hC2.lt
  clear hA2 hB2 hC2 hb3 f0 f1 f2 f3 f4 f5 f6
  cases t3
  case true =>
    go_wp2_with fail
    refine (lives_any _).mono ?_
    rintro e wl ⟨rfl, hbl⟩
    have hAl := hA3.trans (hbl.mono hA3.size)
    clear hbl hB3 hC3
    go_wp2
    go_ret
    exact ⟨rfl, hAl⟩
  have hbe := best_any _ b w3 (h.mono (ext_of_below hA3))
  obtain ⟨⟨ob, eb⟩, hob⟩ : ∃ q, q = bestB b := ⟨_, rfl⟩
  rw [← hob] at hbe
  have HOB := Lib.hid hob
  clear hob
  have f0 := hB3.cell 0 _ rfl
  have f1 := hB3.cell 1 _ rfl
  have f2 := hB3.cell 2 _ rfl
  have f3 := hB3.cell 3 _ rfl
  have f4 := hB3.cell 4 _ rfl
  have f5 := hB3.cell 5 _ rfl
  have f6 := hB3.cell 6 _ rfl
  go_wp2_with fail
  refine hbe.mono ?_
  rintro e w4 ⟨v, c, f, rfl, hb4, hres⟩
  obtain ⟨va, vn, vc, rfl⟩ := res_slice hres
  dsimp only at *
  have hA4 := hA3.trans (hb4.mono hA3.size)
  have hB4 := hB3.below hb4 hB3.lt
  have hC4 := hC3.below hb4 hC3.lt
  have hrs := res_more hres (T := fun _ => True) (ext_vis_of (Ext.refl _) (fun _ _ _ => trivial))
  clear hA3 hB3 hC3 hb4 f0 f1 f2 f3 f4 f5 f6 hbe hres
  by_cases he : eb = 0
  case neg =>
    have hn := best_err HOB.out.symm he
    subst hn
    obtain ⟨rfl, rfl, hv⟩ := hrs
    cases hv
    have d1 : (eb != 0) = true := by simp [he]
    clear he
    go_wp2_with fail
    refine (lives_any _).mono ?_
    rintro e wl ⟨rfl, hbl⟩
    have hAl := hA4.trans (hbl.mono hA4.size)
    clear hbl hB4 hC4
    go_wp2
    go_ret
    exact ⟨rfl, hAl⟩
  subst he
  have HBO := both_res b x.recipe
  obtain ⟨⟨ps, pn⟩, hps⟩ : ∃ q, q = passesB b x.recipe := ⟨_, rfl⟩
  obtain ⟨⟨qs, qn⟩, hqs⟩ : ∃ q, q = allowedB b x.recipe := ⟨_, rfl⟩
  obtain ⟨⟨cs, cn⟩, hcs⟩ : ∃ q, q = costB b x.recipe := ⟨_, rfl⟩
  rw [← hps, ← hqs, ← hcs] at HBO
  have HPS := Lib.hid hps
  have HQS := Lib.hid hqs
  have HCS := Lib.hid hcs
  clear hps hqs hcs
  cases ob with
  | none =>
    have hno := best_none HOB.out.symm x.recipe
    rw [← HPS.out, ← HQS.out] at hno
    obtain ⟨rfl, rfl, hv⟩ := hrs
    cases hv
    clear HOB
    have f0 := hB4.cell 0 _ rfl
    have f1 := hB4.cell 1 _ rfl
    have f2 := hB4.cell 2 _ rfl
    have f3 := hB4.cell 3 _ rfl
    have f4 := hB4.cell 4 _ rfl
    have f5 := hB4.cell 5 _ rfl
    have f6 := hB4.cell 6 _ rfl
    have c0 := hC4.cell 0 (.slice b0 x.recipe.length j0) rfl
    go_wp2_with fail
    refine (passes_any _ _ b x.recipe _ (h.mono (ext_of_below hA4)) (hr1.mono (ext_of_below hA4))).mono ?_
    rw [← HPS.out]
    rintro e w5 ⟨rfl, hb5⟩
    have hA5 := hA4.trans (hb5.mono hA4.size)
    have hB5 := hB4.below hb5 hB4.lt
    have hC5 := hC4.below hb5 hC4.lt
    clear hA4 hB4 hC4 hb5 f0 f1 f2 f3 f4 f5 f6 c0
    have f0 := hB5.cell 0 _ rfl
    have f1 := hB5.cell 1 _ rfl
    have f2 := hB5.cell 2 _ rfl
    have f3 := hB5.cell 3 _ rfl
    have f4 := hB5.cell 4 _ rfl
    have f5 := hB5.cell 5 _ rfl
    have f6 := hB5.cell 6 _ rfl
    have c0 := hC5.cell 0 (.slice b0 x.recipe.length j0) rfl
    go_wp2_with fail
    refine (ballowed_any _ _ b x.recipe _ (h.mono (ext_of_below hA5)) (hr1.mono (ext_of_below hA5))).mono ?_
    rw [← HQS.out]
    rintro e w6 ⟨rfl, hb6⟩
    have hA6 := hA5.trans (hb6.mono hA5.size)
    have hB6 := hB5.below hb6 hB5.lt
    have hC6 := hC5.below hb6 hC5.lt
    clear hA5 hB5 hC5 hb6 f0 f1 f2 f3 f4 f5 f6 c0
    have f0 := hB6.cell 0 _ rfl
    have f1 := hB6.cell 1 _ rfl
    have f2 := hB6.cell 2 _ rfl
    have f3 := hB6.cell 3 _ rfl
    have f4 := hB6.cell 4 _ rfl
    have f5 := hB6.cell 5 _ rfl
    have f6 := hB6.cell 6 _ rfl
    have c0 := hC6.cell 0 (.slice b0 x.recipe.length j0) rfl
    go_wp2_with fail
    refine (bcost_any _ _ b x.recipe _ (h.mono (ext_of_below hA6)) (hr1.mono (ext_of_below hA6))).mono ?_
    rw [← HCS.out]
    rintro e w7 ⟨rfl, hb7⟩
    have hA7 := hA6.trans (hb7.mono hA6.size)
    have hB7 := hB6.below hb7 hB6.lt
    have hC7 := hC6.below hb7 hC6.lt
    clear hA6 hB6 hC6 hb7 f0 f1 f2 f3 f4 f5 f6 c0
    rcases HBO with ⟨hpn, rfl, rfl⟩ | ⟨rfl, rfl, rfl⟩
    · have d1 : (pn == 0) = false := by simp [hpn]
      clear hpn HPS HQS HCS hno
      go_wp2_with fail
      refine (lives_any _).mono ?_
      rintro e wl ⟨rfl, hbl⟩
      have hAl := hA7.trans (hbl.mono hA7.size)
      clear hbl hB7 hC7
      go_wp2
      go_ret
      exact ⟨rfl, hAl⟩
    · cases ps
      · clear HPS HQS HCS hno
        go_wp2_with fail
        refine (lives_any _).mono ?_
        rintro e wl ⟨rfl, hbl⟩
        have hAl := hA7.trans (hbl.mono hA7.size)
        clear hbl hB7 hC7
        go_wp2
        go_ret
        exact ⟨rfl, hAl⟩
      · cases qs
        · clear HPS HQS HCS hno
          go_wp2_with fail
          refine (lives_any _).mono ?_
          rintro e wl ⟨rfl, hbl⟩
          have hAl := hA7.trans (hbl.mono hA7.size)
          clear hbl hB7 hC7
          go_wp2
          go_ret
          exact ⟨rfl, hAl⟩
        · exact absurd ⟨rfl, rfl⟩ hno
  | some p =>
    obtain ⟨r, c0⟩ := p
    obtain ⟨hok, s2, s3, s4, s5, s6⟩ := best_some HOB.out.symm
    obtain ⟨rfl, rfl, hv⟩ := hrs
    replace hv := hv.mono (vis_ext _ _)
    obtain ⟨za, zc, zq, -, -⟩ := id hv
    cases zq
    have hmt := hok.mt
    have G0 := Lib.hid s3
    have G1 := Lib.hid s4
    have G2 := Lib.hid s5
    have GL := Lib.hid s2
    have GX := Lib.hid (fun h1 h2 own h3 => s6 x.recipe own h1 h2 h3)
    clear s2 s3 s4 s5 s6 HOB
    have f0 := hB4.cell 0 _ rfl
    have f1 := hB4.cell 1 _ rfl
    have f2 := hB4.cell 2 _ rfl
    have f3 := hB4.cell 3 _ rfl
    have f4 := hB4.cell 4 _ rfl
    have f5 := hB4.cell 5 _ rfl
    have f6 := hB4.cell 6 _ rfl
    have c0 := hC4.cell 0 (.slice b0 x.recipe.length j0) rfl
    go_wp2_with fail
    refine (passes_any _ _ b x.recipe _ (h.mono (ext_of_below hA4)) (hr1.mono (ext_of_below hA4))).mono ?_
    rw [← HPS.out]
    rintro e w5 ⟨rfl, hb5⟩
    have hA5 := hA4.trans (hb5.mono hA4.size)
    have hB5 := hB4.below hb5 hB4.lt
    have hC5 := hC4.below hb5 hC4.lt
    replace hv := hv.mono (ext_of_below hb5)
    clear hA4 hB4 hC4 hb5 f0 f1 f2 f3 f4 f5 f6 c0
    have f0 := hB5.cell 0 _ rfl
    have f1 := hB5.cell 1 _ rfl
    have f2 := hB5.cell 2 _ rfl
    have f3 := hB5.cell 3 _ rfl
    have f4 := hB5.cell 4 _ rfl
    have f5 := hB5.cell 5 _ rfl
    have f6 := hB5.cell 6 _ rfl
    have c0 := hC5.cell 0 (.slice b0 x.recipe.length j0) rfl
    go_wp2_with fail
    refine (ballowed_any _ _ b x.recipe _ (h.mono (ext_of_below hA5)) (hr1.mono (ext_of_below hA5))).mono ?_
    rw [← HQS.out]
    rintro e w6 ⟨rfl, hb6⟩
    have hA6 := hA5.trans (hb6.mono hA5.size)
    have hB6 := hB5.below hb6 hB5.lt
    have hC6 := hC5.below hb6 hC5.lt
    replace hv := hv.mono (ext_of_below hb6)
    clear hA5 hB5 hC5 hb6 f0 f1 f2 f3 f4 f5 f6 c0
    have f0 := hB6.cell 0 _ rfl
    have f1 := hB6.cell 1 _ rfl
    have f2 := hB6.cell 2 _ rfl
    have f3 := hB6.cell 3 _ rfl
    have f4 := hB6.cell 4 _ rfl
    have f5 := hB6.cell 5 _ rfl
    have f6 := hB6.cell 6 _ rfl
    have c0 := hC6.cell 0 (.slice b0 x.recipe.length j0) rfl
    go_wp2_with fail
    refine (bcost_any _ _ b x.recipe _ (h.mono (ext_of_below hA6)) (hr1.mono (ext_of_below hA6))).mono ?_
    rw [← HCS.out]
    rintro e w7 ⟨rfl, hb7⟩
    have hA7 := hA6.trans (hb7.mono hA6.size)
    have hB7 := hB6.below hb7 hB6.lt
    have hC7 := hC6.below hb7 hC6.lt
    replace hv := hv.mono (ext_of_below hb7)
    clear hA6 hB6 hC6 hb7 f0 f1 f2 f3 f4 f5 f6 c0
    rcases HBO with ⟨hpn, rfl, rfl⟩ | ⟨rfl, rfl, rfl⟩
    · have d1 : (pn == 0) = false := by simp [hpn]
      clear hpn HPS HQS HCS GX
      have f0 := hB7.cell 0 _ rfl
      have f1 := hB7.cell 1 _ rfl
      have f2 := hB7.cell 2 _ rfl
      have f3 := hB7.cell 3 _ rfl
      have f4 := hB7.cell 4 _ rfl
      have f5 := hB7.cell 5 _ rfl
      have f6 := hB7.cell 6 _ rfl
      go_wp2_with fail
      refine (passes_any _ _ b r _ (h.mono (ext_of_below hA7)) (hv)).mono ?_
      rw [G0.out]
      rintro e w8 ⟨rfl, hb8⟩
      have hA8 := hA7.trans (hb8.mono hA7.size)
      have hB8 := hB7.below hb8 hB7.lt
      have hC8 := hC7.below hb8 hC7.lt
      replace hv := hv.mono (ext_of_below hb8)
      clear hA7 hB7 hC7 hb8 f0 f1 f2 f3 f4 f5 f6
      have f0 := hB8.cell 0 _ rfl
      have f1 := hB8.cell 1 _ rfl
      have f2 := hB8.cell 2 _ rfl
      have f3 := hB8.cell 3 _ rfl
      have f4 := hB8.cell 4 _ rfl
      have f5 := hB8.cell 5 _ rfl
      have f6 := hB8.cell 6 _ rfl
      go_wp2_with fail
      refine (ballowed_any _ _ b r _ (h.mono (ext_of_below hA8)) (hv)).mono ?_
      rw [G1.out]
      rintro e w9 ⟨rfl, hb9⟩
      have hA9 := hA8.trans (hb9.mono hA8.size)
      have hB9 := hB8.below hb9 hB8.lt
      have hC9 := hC8.below hb9 hC8.lt
      replace hv := hv.mono (ext_of_below hb9)
      clear hA8 hB8 hC8 hb9 f0 f1 f2 f3 f4 f5 f6
      have f0 := hB9.cell 0 _ rfl
      have f1 := hB9.cell 1 _ rfl
      have f2 := hB9.cell 2 _ rfl
      have f3 := hB9.cell 3 _ rfl
      have f4 := hB9.cell 4 _ rfl
      have f5 := hB9.cell 5 _ rfl
      have f6 := hB9.cell 6 _ rfl
      go_wp2_with fail
      refine (bcost_any _ _ b r _ (h.mono (ext_of_below hA9)) (hv)).mono ?_
      rw [G2.out]
      rintro e w10 ⟨rfl, hb10⟩
      have hA10 := hA9.trans (hb10.mono hA9.size)
      have hB10 := hB9.below hb10 hB9.lt
      have hC10 := hC9.below hb10 hC9.lt
      replace hv := hv.mono (ext_of_below hb10)
      clear hA9 hB9 hC9 hb10 f0 f1 f2 f3 f4 f5 f6
      go_wp2_with fail
      refine (lives_any _).mono ?_
      rintro e wl ⟨rfl, hbl⟩
      have hAl := hA10.trans (hbl.mono hA10.size)
      clear hbl hB10 hC10
      go_wp2
      go_ret
      exact ⟨rfl, hAl⟩
    · cases ps
      · clear HPS HQS HCS GX
        have f0 := hB7.cell 0 _ rfl
        have f1 := hB7.cell 1 _ rfl
        have f2 := hB7.cell 2 _ rfl
        have f3 := hB7.cell 3 _ rfl
        have f4 := hB7.cell 4 _ rfl
        have f5 := hB7.cell 5 _ rfl
        have f6 := hB7.cell 6 _ rfl
        go_wp2_with fail
        refine (passes_any _ _ b r _ (h.mono (ext_of_below hA7)) (hv)).mono ?_
        rw [G0.out]
        rintro e w8 ⟨rfl, hb8⟩
        have hA8 := hA7.trans (hb8.mono hA7.size)
        have hB8 := hB7.below hb8 hB7.lt
        have hC8 := hC7.below hb8 hC7.lt
        replace hv := hv.mono (ext_of_below hb8)
        clear hA7 hB7 hC7 hb8 f0 f1 f2 f3 f4 f5 f6
        have f0 := hB8.cell 0 _ rfl
        have f1 := hB8.cell 1 _ rfl
        have f2 := hB8.cell 2 _ rfl
        have f3 := hB8.cell 3 _ rfl
        have f4 := hB8.cell 4 _ rfl
        have f5 := hB8.cell 5 _ rfl
        have f6 := hB8.cell 6 _ rfl
        go_wp2_with fail
        refine (ballowed_any _ _ b r _ (h.mono (ext_of_below hA8)) (hv)).mono ?_
        rw [G1.out]
        rintro e w9 ⟨rfl, hb9⟩
        have hA9 := hA8.trans (hb9.mono hA8.size)
        have hB9 := hB8.below hb9 hB8.lt
        have hC9 := hC8.below hb9 hC8.lt
        replace hv := hv.mono (ext_of_below hb9)
        clear hA8 hB8 hC8 hb9 f0 f1 f2 f3 f4 f5 f6
        have f0 := hB9.cell 0 _ rfl
        have f1 := hB9.cell 1 _ rfl
        have f2 := hB9.cell 2 _ rfl
        have f3 := hB9.cell 3 _ rfl
        have f4 := hB9.cell 4 _ rfl
        have f5 := hB9.cell 5 _ rfl
        have f6 := hB9.cell 6 _ rfl
        go_wp2_with fail
        refine (bcost_any _ _ b r _ (h.mono (ext_of_below hA9)) (hv)).mono ?_
        rw [G2.out]
        rintro e w10 ⟨rfl, hb10⟩
        have hA10 := hA9.trans (hb10.mono hA9.size)
        have hB10 := hB9.below hb10 hB9.lt
        have hC10 := hC9.below hb10 hC9.lt
        replace hv := hv.mono (ext_of_below hb10)
        clear hA9 hB9 hC9 hb10 f0 f1 f2 f3 f4 f5 f6
        go_wp2_with fail
        refine (lives_any _).mono ?_
        rintro e wl ⟨rfl, hbl⟩
        have hAl := hA10.trans (hbl.mono hA10.size)
        clear hbl hB10 hC10
        go_wp2
        go_ret
        exact ⟨rfl, hAl⟩
      · cases qs
        · clear HPS HQS HCS GX
          have f0 := hB7.cell 0 _ rfl
          have f1 := hB7.cell 1 _ rfl
          have f2 := hB7.cell 2 _ rfl
          have f3 := hB7.cell 3 _ rfl
          have f4 := hB7.cell 4 _ rfl
          have f5 := hB7.cell 5 _ rfl
          have f6 := hB7.cell 6 _ rfl
          go_wp2_with fail
          refine (passes_any _ _ b r _ (h.mono (ext_of_below hA7)) (hv)).mono ?_
          rw [G0.out]
          rintro e w8 ⟨rfl, hb8⟩
          have hA8 := hA7.trans (hb8.mono hA7.size)
          have hB8 := hB7.below hb8 hB7.lt
          have hC8 := hC7.below hb8 hC7.lt
          replace hv := hv.mono (ext_of_below hb8)
          clear hA7 hB7 hC7 hb8 f0 f1 f2 f3 f4 f5 f6
          have f0 := hB8.cell 0 _ rfl
          have f1 := hB8.cell 1 _ rfl
          have f2 := hB8.cell 2 _ rfl
          have f3 := hB8.cell 3 _ rfl
          have f4 := hB8.cell 4 _ rfl
          have f5 := hB8.cell 5 _ rfl
          have f6 := hB8.cell 6 _ rfl
          go_wp2_with fail
          refine (ballowed_any _ _ b r _ (h.mono (ext_of_below hA8)) (hv)).mono ?_
          rw [G1.out]
          rintro e w9 ⟨rfl, hb9⟩
          have hA9 := hA8.trans (hb9.mono hA8.size)
          have hB9 := hB8.below hb9 hB8.lt
          have hC9 := hC8.below hb9 hC8.lt
          replace hv := hv.mono (ext_of_below hb9)
          clear hA8 hB8 hC8 hb9 f0 f1 f2 f3 f4 f5 f6
          have f0 := hB9.cell 0 _ rfl
          have f1 := hB9.cell 1 _ rfl
          have f2 := hB9.cell 2 _ rfl
          have f3 := hB9.cell 3 _ rfl
          have f4 := hB9.cell 4 _ rfl
          have f5 := hB9.cell 5 _ rfl
          have f6 := hB9.cell 6 _ rfl
          go_wp2_with fail
          refine (bcost_any _ _ b r _ (h.mono (ext_of_below hA9)) (hv)).mono ?_
          rw [G2.out]
          rintro e w10 ⟨rfl, hb10⟩
          have hA10 := hA9.trans (hb10.mono hA9.size)
          have hB10 := hB9.below hb10 hB9.lt
          have hC10 := hC9.below hb10 hC9.lt
          replace hv := hv.mono (ext_of_below hb10)
          clear hA9 hB9 hC9 hb10 f0 f1 f2 f3 f4 f5 f6
          go_wp2_with fail
          refine (lives_any _).mono ?_
          rintro e wl ⟨rfl, hbl⟩
          have hAl := hA10.trans (hbl.mono hA10.size)
          clear hbl hB10 hC10
          go_wp2
          go_ret
          exact ⟨rfl, hAl⟩
        · have gx := GX.out HPS.out.symm HQS.out.symm _ HCS.out.symm
          obtain ⟨gl, gc, ge⟩ := gx
          have GE := Lib.hid ge
          have GXL := Lib.hid gl
          clear ge gl GX
          have f0 := hB7.cell 0 _ rfl
          have f1 := hB7.cell 1 _ rfl
          have f2 := hB7.cell 2 _ rfl
          have f3 := hB7.cell 3 _ rfl
          have f4 := hB7.cell 4 _ rfl
          have f5 := hB7.cell 5 _ rfl
          have f6 := hB7.cell 6 _ rfl
          go_wp2_with fail
          refine (passes_any _ _ b r _ (h.mono (ext_of_below hA7)) (hv)).mono ?_
          rw [G0.out]
          rintro e w8 ⟨rfl, hb8⟩
          have hA8 := hA7.trans (hb8.mono hA7.size)
          have hB8 := hB7.below hb8 hB7.lt
          have hC8 := hC7.below hb8 hC7.lt
          replace hv := hv.mono (ext_of_below hb8)
          clear hA7 hB7 hC7 hb8 f0 f1 f2 f3 f4 f5 f6
          have f0 := hB8.cell 0 _ rfl
          have f1 := hB8.cell 1 _ rfl
          have f2 := hB8.cell 2 _ rfl
          have f3 := hB8.cell 3 _ rfl
          have f4 := hB8.cell 4 _ rfl
          have f5 := hB8.cell 5 _ rfl
          have f6 := hB8.cell 6 _ rfl
          go_wp2_with fail
          refine (ballowed_any _ _ b r _ (h.mono (ext_of_below hA8)) (hv)).mono ?_
          rw [G1.out]
          rintro e w9 ⟨rfl, hb9⟩
          have hA9 := hA8.trans (hb9.mono hA8.size)
          have hB9 := hB8.below hb9 hB8.lt
          have hC9 := hC8.below hb9 hC8.lt
          replace hv := hv.mono (ext_of_below hb9)
          clear hA8 hB8 hC8 hb9 f0 f1 f2 f3 f4 f5 f6
          have f0 := hB9.cell 0 _ rfl
          have f1 := hB9.cell 1 _ rfl
          have f2 := hB9.cell 2 _ rfl
          have f3 := hB9.cell 3 _ rfl
          have f4 := hB9.cell 4 _ rfl
          have f5 := hB9.cell 5 _ rfl
          have f6 := hB9.cell 6 _ rfl
          go_wp2_with fail
          refine (bcost_any _ _ b r _ (h.mono (ext_of_below hA9)) (hv)).mono ?_
          rw [G2.out]
          rintro e w10 ⟨rfl, hb10⟩
          have hA10 := hA9.trans (hb10.mono hA9.size)
          have hB10 := hB9.below hb10 hB9.lt
          have hC10 := hC9.below hb10 hC9.lt
          replace hv := hv.mono (ext_of_below hb10)
          clear hA9 hB9 hC9 hb10 f0 f1 f2 f3 f4 f5 f6
          by_cases hcs : cs = c
          case neg =>
            have d2 : (cs == c) = false := by simp [hcs]
            clear hcs GE
            go_wp2_with fail
            refine (lives_any _).mono ?_
            rintro e wl ⟨rfl, hbl⟩
            have hAl := hA10.trans (hbl.mono hA10.size)
            clear hbl hB10 hC10
            go_wp2
            go_ret
            exact ⟨rfl, hAl⟩
          subst hcs
          have ge := GE.out rfl
          have GQ := Lib.hid ge
          have g1 := GL.out
          have g2 := GXL.out
          have hlr1 : r.length ≤ x.recipe.length := by omega
          have hlr2 : x.recipe.length ≤ r.length := by omega
          have hx10 := hr1.mono (ext_of_below hA10)
          obtain ⟨xa, xk, xq, -, ⟨-, xb⟩, hxc⟩ := id hx10
          cases xq
          obtain ⟨ya, yk, yq, -, ⟨-, yb⟩, hyc⟩ := id hv
          cases yq
          clear ge g1 g2 GE GXL
          go_wp2_with fail
          go_loopw [18] (fun i wr => ∃ k : Nat, k ≤ r.length ∧ i = .int .i64 k ∧ Hid (∀ j, j < k → r.getD j 0 = x.recipe.getD j 0) ∧ Below w10.heap.size w10 wr) (fun i _ => r.length - (intOf i).toNat)
          case atStart => exact ⟨0, Nat.zero_le _, rfl, (fun j hj => absurd hj (Nat.not_lt_zero j)), Below.refl _ _⟩
          case round =>
            obtain ⟨k, hk, rfl, heq, hbk⟩ := hrel
            have hAk := hA10.trans (hbk.mono hA10.size)
            have hCk := hC10.below hbk hC10.lt
            by_cases hlt : k < r.length
            · obtain ⟨b7, o7, rfl, q7, -⟩ := hxc k (by omega)
              obtain ⟨b8, o8, rfl, q8, -⟩ := hyc k hlt
              rw [Nat.mul_one] at q7 q8
              have hxk : k < x.recipe.length := by omega
              have hkx : (k : Int) < (x.recipe.length : Int) := by omega
              have hkr : (k : Int) < (r.length : Int) := by omega
              replace q7 := ext_of_below hbk _ _ q7
              replace q8 := ext_of_below hbk _ _ q8
              have hl2 := lex_two GQ.out hlt hxk heq.out
              have hnx : ∀ h : r[k] = x.recipe[k], ∀ j, j < k + 1 → r.getD j 0 = x.recipe.getD j 0 := fun h => eq_more hlt hxk heq.out h
              generalize hrk : r[k] = rk at *
              generalize hxk2 : x.recipe[k] = xk2 at *
              have H2 := Lib.hid hl2
              have HN := Lib.hid hnx
              have c0 := hCk.cell 0 (.slice (some ⟨b7, o7, none⟩) x.recipe.length j0) rfl
              clear hl2 hnx hrk hxk2 hxc hyc
              by_cases hxr : xk2 = rk
              · subst hxr
                have d3 : (xk2 != xk2) = false := by simp
                go_wp2
                go_quiet (fail)
                go_wp2
                go_roundw
                case rel => exact ⟨k + 1, by omega, by go_num, HN.out (by first | rfl | trivial), below_drewN hbk _⟩
                case measure => simp [intOf]; omega
              · have d3 : (xk2 != rk) = true := by simp [hxr]
                have hlt2 := H2.out (fun h => hxr h)
                go_wp2
                go_quiet (fail)
                go_wp2
                have hbV := below_drewN (n := nq) hbk
                have hxV := below_drewN (n := nq) (Below.refl wr.heap.size wr)
                have hAV := hAk.trans (hxV.mono hAk.size)
                replace q7 := ext_of_below hxV _ _ q7
                replace q8 := ext_of_below hxV _ _ q8
                replace c0 := ext_of_below hxV _ _ c0
                have d4 : decide (rk < xk2) = true := decide_eq_true hlt2
                clear hxV hbV hAk hCk hbk H2 HN GQ
                generalize wr.drewN nq = V at *
                have D0 : Below V.heap.size V V.drew := (Below.refl _ _).drew
                have hli := lives_any V.drew
                have hsv : ∀ Z, Below V.heap.size V Z → (fun w' : World => w'.cell? ⟨w.heap.size + 1, 0, none⟩ = some (.slice (some ⟨b7, o7, none⟩) x.recipe.length j0) ∧ w'.cell? ⟨b7, o7 + k, none⟩ = some (.int .i64 xk2) ∧ w'.cell? ⟨b8, o8 + k, none⟩ = some (.int .i64 rk)) Z := fun Z e => ⟨keepC e c0, keepC e q7, keepC e q8⟩
                refine wp_region_till (fun w' => w'.cell? ⟨w.heap.size + 1, 0, none⟩ = some (.slice (some ⟨b7, o7, none⟩) x.recipe.length j0) ∧ w'.cell? ⟨b7, o7 + k, none⟩ = some (.int .i64 xk2) ∧ w'.cell? ⟨b8, o8 + k, none⟩ = some (.int .i64 rk)) 99 (by kernel_rfl) ⟨c0, q7, q8⟩ (fun hHeld => ?_)
                refine Till.take 0 (some 168) (v := ?_) rfl rfl (by kernel_rfl) (by kernel_rfl) (by kernel_rfl) (by kernel_rfl) (fun _ _ _ h => h) (Or.inl ⟨by rfl, ?_⟩) (by assumption) ?_
                rotate_left
                · (intro w hSw; (try dsimp only at hSw); go_simp; try with_reducible rfl)
                try simp only [Act.put, List.setIfInBounds_toArray, List.set_cons_zero, List.set_cons_succ]
                refine Till.take 1 (some 169) (v := ?_) rfl rfl (by kernel_rfl) (by kernel_rfl) (by kernel_rfl) (by kernel_rfl) (fun _ _ _ h => h) (Or.inl ⟨by rfl, ?_⟩) (by assumption) ?_
                rotate_left
                · (intro w hSw; (try dsimp only at hSw); go_simp; try with_reducible rfl)
                try simp only [Act.put, List.setIfInBounds_toArray, List.set_cons_zero, List.set_cons_succ]
                refine Till.take 2 (some 170) (v := ?_) rfl rfl (by kernel_rfl) (by kernel_rfl) (by kernel_rfl) (by kernel_rfl) (fun _ _ _ h => h) (Or.inl ⟨by rfl, ?_⟩) (by assumption) ?_
                rotate_left
                · (intro w hSw; (try dsimp only at hSw); go_simp; try with_reducible rfl)
                try simp only [Act.put, List.setIfInBounds_toArray, List.set_cons_zero, List.set_cons_succ]
                refine Till.take 3 (some 171) (v := ?_) rfl rfl (by kernel_rfl) (by kernel_rfl) (by kernel_rfl) (by kernel_rfl) (fun _ _ _ h => h) (Or.inl ⟨by rfl, ?_⟩) (by assumption) ?_
                rotate_left
                · (intro w hSw; (try dsimp only at hSw); go_simp; try with_reducible rfl)
                try simp only [Act.put, List.setIfInBounds_toArray, List.set_cons_zero, List.set_cons_succ]
                refine Till.take 4 (some 172) (v := ?_) rfl rfl (by kernel_rfl) (by kernel_rfl) (by kernel_rfl) (by kernel_rfl) (fun _ _ _ h => h) (Or.inl ⟨by rfl, ?_⟩) (by assumption) ?_
                rotate_left
                · (intro w hSw; (try dsimp only at hSw); go_simp; try with_reducible rfl)
                try simp only [Act.put, List.setIfInBounds_toArray, List.set_cons_zero, List.set_cons_succ]
                refine Till.take 5 (some 173) (v := ?_) rfl rfl (by kernel_rfl) (by kernel_rfl) (by kernel_rfl) (by kernel_rfl) (fun _ _ _ h => h) (Or.inl ⟨by rfl, ?_⟩) (by assumption) ?_
                rotate_left
                · (intro w hSw; (try dsimp only at hSw); go_simp; try with_reducible rfl)
                try simp only [Act.put, List.setIfInBounds_toArray, List.set_cons_zero, List.set_cons_succ]
                refine Till.take 6 (some 174) (v := ?_) rfl rfl (by kernel_rfl) (by kernel_rfl) (by kernel_rfl) (by kernel_rfl) (fun _ _ _ h => h) (Or.inl ⟨by rfl, ?_⟩) (by assumption) ?_
                rotate_left
                · (intro w hSw; (try dsimp only at hSw); go_simp; try with_reducible rfl)
                try simp only [Act.put, List.setIfInBounds_toArray, List.set_cons_zero, List.set_cons_succ]
                refine Till.take 7 (some 175) (v := ?_) rfl rfl (by kernel_rfl) (by kernel_rfl) (by kernel_rfl) (by kernel_rfl) (fun _ _ _ h => h) (Or.inl ⟨by rfl, ?_⟩) (by assumption) ?_
                rotate_left
                · (intro w hSw; (try dsimp only at hSw); go_simp; try with_reducible rfl)
                try simp only [Act.put, List.setIfInBounds_toArray, List.set_cons_zero, List.set_cons_succ]
                refine Till.take 8 (some 176) (v := ?_) rfl rfl (by kernel_rfl) (by kernel_rfl) (by kernel_rfl) (by kernel_rfl) (fun _ _ _ h => h) (Or.inl ⟨by rfl, ?_⟩) (by assumption) ?_
                rotate_left
                · (intro w hSw; (try dsimp only at hSw); go_simp; try with_reducible rfl)
                try simp only [Act.put, List.setIfInBounds_toArray, List.set_cons_zero, List.set_cons_succ]
                refine Till.take 9 (some 177) (v := ?_) rfl rfl (by kernel_rfl) (by kernel_rfl) (by kernel_rfl) (by kernel_rfl) (fun _ _ _ h => h) (Or.inl ⟨by rfl, ?_⟩) (by assumption) ?_
                rotate_left
                · (intro w hSw; (try dsimp only at hSw); go_simp; try with_reducible rfl)
                try simp only [Act.put, List.setIfInBounds_toArray, List.set_cons_zero, List.set_cons_succ]
                refine Till.take 10 (some 178) (v := ?_) rfl rfl (by kernel_rfl) (by kernel_rfl) (by kernel_rfl) (by kernel_rfl) (fun _ _ _ h => h) (Or.inl ⟨by rfl, ?_⟩) (by assumption) ?_
                rotate_left
                · (intro w hSw; (try dsimp only at hSw); go_simp; try with_reducible rfl)
                try simp only [Act.put, List.setIfInBounds_toArray, List.set_cons_zero, List.set_cons_succ]
                refine Till.one 11 rfl (by kernel_rfl) (fun K hK => ?_)
                go_simp
                refine hli.mono ?_
                rintro e w11 ⟨rfl, hbl⟩
                have hDl := D0.trans (hbl.mono D0.size)
                refine hK.out _ _ (fun _ => hsv _ hDl) (fun hHeld2 => ?_)
                clear hK K
                try simp only [Act.put, List.setIfInBounds_toArray, List.set_cons_zero, List.set_cons_succ]
                have hw := hsv _ hDl
                dsimp only at hw
                refine Till.take 12 (some 180) (v := ?_) rfl rfl (by kernel_rfl) (by kernel_rfl) (by kernel_rfl) (by kernel_rfl) (fun _ _ _ h => h) (Or.inl ⟨by rfl, ?_⟩) (by assumption) ?_
                rotate_left
                · (intro w hSw; (try dsimp only at hSw); go_simp; try with_reducible rfl)
                try simp only [Act.put, List.setIfInBounds_toArray, List.set_cons_zero, List.set_cons_succ]
                refine Till.take 13 (some 4) (v := ?_) rfl rfl (by kernel_rfl) (by kernel_rfl) (by kernel_rfl) (by kernel_rfl) (fun _ _ _ h => h) (Or.inl ⟨by rfl, ?_⟩) (by assumption) ?_
                rotate_left
                · (intro w hSw; (try dsimp only at hSw); go_simp; try with_reducible rfl)
                try simp only [Act.put, List.setIfInBounds_toArray, List.set_cons_zero, List.set_cons_succ]
                refine Till.done (by kernel_rfl) ?_ _
                clear hw hHeld hHeld2 hsv c0 q7 q8 hli
                go_wp2
                go_ret
                exact ⟨rfl, hAV.trans (hDl.mono hAV.size)⟩
            · have dk : decide (k < r.length) = false := decide_eq_false hlt
              go_wp2_with fail
              refine (lives_any _).mono ?_
              rintro e wl ⟨rfl, hbl⟩
              have hAl := hAk.trans (hbl.mono hAk.size)
              clear hbl hCk
              go_wp2
              go_ret
              exact ⟨rfl, hAl⟩

end Go.Proofs.Ytpkggjfaefkiiaa
