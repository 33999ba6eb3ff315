/- within of the specification of layer 4, of a leg that falls; no statement is proved here. -/
import Derived.Test.YtnldenjdbgfgmaaFmRiF
namespace Go.Proofs.Ytnldenjdbgfgmaa
open Go.RowKit Go.PlainAid
set_option linter.unusedVariables false
set_option linter.unusedSimpArgs false

set_option maxHeartbeats 16000000 in
set_option maxRecDepth 100000 in
theorem rwithin_down (x y s : Sp) (w : World) (h : LegOk x y) (HQ : Hid (y.hi < x.hi)) (hs : s.lo ≤ s.hi) (hb1 : -1000000 ≤ s.lo ∧ s.lo ≤ 2000000) (hb2 : -1000000 ≤ s.hi ∧ s.hi ≤ 2000000) :
    Calls Try.prog 52 #[.agg #[.int .i64 x.lo, .int .i64 x.hi], .agg #[.int .i64 y.lo, .int .i64 y.hi], .agg #[.int .i64 s.lo, .int .i64 s.hi]] w fun e w' => WithA x y s e ∧ Below w.heap.size w w' := by
  have hG := RI.start w x y s
  have ha := h.a; have hb := h.b; have hc := h.c
  have zd := wrap_id (y.hi - x.hi) (by unfold I64; omega)
  have u0 := hG.x.cell 0 _ rfl
  have u1 := hG.x.cell 1 _ rfl
  have v0 := hG.y.cell 0 _ rfl
  have v1 := hG.y.cell 1 _ rfl
  have s0 := hG.s.cell 0 _ rfl
  have s1 := hG.s.cell 1 _ rfl
  go_enter Try.func52, Try.ntmps52
  go_upto_region 1 with fail
  generalize (((w.alloc (.cells #[.int .i64 x.lo, .int .i64 x.hi] 47)).alloc (.cells #[.int .i64 y.lo, .int .i64 y.hi] 47)).alloc (.cells #[.int .i64 s.lo, .int .i64 s.hi] 26)).alloc (.cells #[.int .i64 0, .int .i64 0, .int .i64 0, .int .i64 0] 41) = W at *
  obtain ⟨D, hD⟩ : ∃ D, y.hi - x.hi = D := ⟨_, rfl⟩
  replace zd := zd.trans hD
  have HD := Lib.hid hD
  by_cases hd0 : D = 0
  · exfalso
    have hq := HQ.out
    have hd := HD.out
    omega
  have hsteep : ∃ z g p0 p1 : Int, (1 ≤ z ∧ z ≤ 1000000) ∧ (-1 ≤ g ∧ g ≤ 1) ∧ ((0 < D ∧ z = D ∧ g = 1 ∧ p0 = s.lo ∧ p1 = s.hi) ∨ (D < 0 ∧ z = -D ∧ g = -1 ∧ p0 = s.hi ∧ p1 = s.lo)) ∧ WithR x y s ⟨laterQ (mk (wtN x y z g p0) z) x.lo, soonerQ (mk (wtN x y z g p1) z) y.lo⟩ (!decide ((soonerQ (mk (wtN x y z g p1) z) y.lo).n * (laterQ (mk (wtN x y z g p0) z) x.lo).d < (laterQ (mk (wtN x y z g p0) z) x.lo).n * (soonerQ (mk (wtN x y z g p1) z) y.lo).d)) := by
    rcases Int.lt_or_gt_of_ne hd0 with hneg | hpos
    · exact ⟨-D, -1, s.hi, s.lo, by omega, by omega, .inr ⟨hneg, rfl, rfl, rfl, rfl⟩, with_down h (by omega) hs (by omega) (by rw [hD]; omega)⟩
    · exact ⟨D, 1, s.lo, s.hi, by omega, by omega, .inl ⟨hpos, rfl, rfl, rfl, rfl⟩, with_up h (by omega) hs (by omega) (by rw [hD]; omega)⟩
  obtain ⟨z, g, p0, p1, hz, hg, hcase, hwr⟩ := hsteep
  have HWR := Lib.hid hwr
  clear hwr
  have hp0 : -1000000 ≤ p0 ∧ p0 ≤ 2000000 := by omega
  have hp1 : -1000000 ≤ p1 ∧ p1 ≤ 2000000 := by omega
  obtain ⟨m1, m2, m3, m4⟩ := wt_bd h hz hg hp0
  obtain ⟨n1, n2, n3, n4⟩ := wt_bd h hz hg hp1
  have HM0 := Lib.hid (fun V => made_any (wtN x y z g p0) z V (by omega) (by omega))
  have HM1 := Lib.hid (fun V => made_any (wtN x y z g p1) z V (by omega) (by omega))
  have F1 := mk_nabs (wtN x y z g p0) (d := z) (by omega) 20000000000 m4
  have F2 := mk_dpos (wtN x y z g p0) (d := z) (by omega)
  have F3 := mk_dle (wtN x y z g p0) (d := z) (by omega)
  replace F3 := Int.le_trans F3 hz.2
  have G1 := mk_nabs (wtN x y z g p1) (d := z) (by omega) 20000000000 n4
  have G2 := mk_dpos (wtN x y z g p1) (d := z) (by omega)
  have G3 := mk_dle (wtN x y z g p1) (d := z) (by omega)
  replace G3 := Int.le_trans G3 hz.2
  have HC0 := Lib.hid (And.intro m1 (And.intro m2 (And.intro m3 m4)))
  have HC1 := Lib.hid (And.intro n1 (And.intro n2 (And.intro n3 n4)))
  have c1 := wrap_id (y.lo - x.lo) (by unfold I64; omega)
  obtain ⟨NF, hNF⟩ : ∃ N, wtN x y z g p0 = N := ⟨_, rfl⟩
  obtain ⟨NT, hNT⟩ : ∃ N, wtN x y z g p1 = N := ⟨_, rfl⟩
  rw [hNF] at HM0 F1 F2 F3 HWR
  rw [hNT] at HM1 G1 G2 G3 HWR
  have HNF := Lib.hid hNF
  have HNT := Lib.hid hNT
  obtain ⟨FQ, hFQ⟩ : ∃ Q, mk NF z = Q := ⟨_, rfl⟩
  obtain ⟨TQ, hTQ⟩ : ∃ Q, mk NT z = Q := ⟨_, rfl⟩
  rw [hFQ] at HM0 F1 F2 F3 HWR
  rw [hTQ] at HM1 G1 G2 G3 HWR
  clear hFQ hTQ hNF hNT m1 m2 m3 m4 n1 n2 n3 n4 hd0
  rcases hcase with ⟨hp, hz2, hg2, rfl, rfl⟩ | ⟨hp, hz2, hg2, rfl, rfl⟩
  · exfalso
    have hq := HQ.out
    have hd := HD.out
    omega
  · skip
    have zm := True.intro
    have hzz : -D = z := hz2.symm
    have zw := wrap_id z (by unfold I64; omega)
    have sg : ¬ z ≤ D := by omega
    have sg2 : D < z := by omega
    have qq : D.tdiv z = g := by rw [hz2, hg2, Int.tdiv_neg, Int.tdiv_self (by omega)]
    have zg := wrap_id g (by unfold I64; omega)
    have z0 : ¬ z = 0 := by omega
    have a0 := HC0.out
    have a1 := wrap_id (s.hi - x.hi) (by unfold I64; omega)
    have a2 := wrap_id ((s.hi - x.hi) * g) (by unfold I64; omega)
    have a3 := wrap_id ((s.hi - x.hi) * g * (y.lo - x.lo)) (by unfold I64; omega)
    have a4 : wrap64 (x.lo * z + (s.hi - x.hi) * g * (y.lo - x.lo)) = NF := (wrap_id (wtN x y z g s.hi) (by unfold I64; omega)).trans HNF.out
    have b0 := HC1.out
    have b1 := wrap_id (s.lo - x.hi) (by unfold I64; omega)
    have b2 := wrap_id ((s.lo - x.hi) * g) (by unfold I64; omega)
    have b3 := wrap_id ((s.lo - x.hi) * g * (y.lo - x.lo)) (by unfold I64; omega)
    have b4 : wrap64 (x.lo * z + (s.lo - x.hi) * g * (y.lo - x.lo)) = NT := (wrap_id (wtN x y z g s.lo) (by unfold I64; omega)).trans HNT.out
    have w1 := wrap_id (x.lo * z) (by unfold I64; omega)
    clear a0 b0 hz2 hg2
    have dz : ¬ D = 0 := by omega
    have de : (D == (0 : Int)) = false := beq_f dz
    have dl : decide (D < 0) = true := decide_eq_true (by omega)
    have dn : D < 0 := by omega
    clear HNF HNT HC0 HC1 hp hp0 hp1 hz hg
    go_upto_region 4 with fail
    go_wp2_with fail
    go_quiet (fail)
    have hG2 := hG.below (below_dr W nq)
    clear hD
    clear hG u0 u1 v0 v1 s0 s1
    generalize W.drewN nq = W2 at *
    have u0 := hG2.x.cell 0 _ rfl
    have u1 := hG2.x.cell 1 _ rfl
    have v0 := hG2.y.cell 0 _ rfl
    go_wp2_with fail
    refine (HM0.out _).mono ?_
    rintro e w3 ⟨rfl, hb3⟩
    have hG3 := hG2.below hb3
    clear hG2 hb3 u0 u1 v0
    unfold rtV
    have hF := Blk.new w3 #[.int .i64 FQ.n, .int .i64 FQ.d] 24
    have hx := below_box w3 (.cells #[.int .i64 FQ.n, .int .i64 FQ.d] 24)
    have hG4 := hG3.below hx
    clear hG3 hx
    go_upto_region 10 with fail
    generalize w3.heap.size = pF at *
    generalize (w3.alloc (.cells #[.int .i64 FQ.n, .int .i64 FQ.d] 24)) = W4 at *
    have u0 := hG4.x.cell 0 _ rfl
    have u1 := hG4.x.cell 1 _ rfl
    have v0 := hG4.y.cell 0 _ rfl
    go_wp2_with fail
    refine (HM1.out _).mono ?_
    rintro e w5 ⟨rfl, hb5⟩
    have hG5 := hG4.below hb5
    have hF5 := hF.below hb5 hF.lt
    clear hG4 hF hb5 u0 u1 v0
    unfold rtV
    have hT := Blk.new w5 #[.int .i64 TQ.n, .int .i64 TQ.d] 24
    have hx := below_box w5 (.cells #[.int .i64 TQ.n, .int .i64 TQ.d] 24)
    have hG6 := hG5.below hx
    have hF6 := hF5.below hx hF5.lt
    clear hG5 hF5 hx
    go_upto_region 11 with fail
    generalize w5.heap.size = pT at *
    generalize (w5.alloc (.cells #[.int .i64 TQ.n, .int .i64 TQ.d] 24)) = W6 at *
    clear HM0 HM1 c1 w1 zm zg sg qq dz de dl dn zd a1 a3 a4 b1 b3 b4 a2 b2
    have HLT := fun V => rlater_any FQ.n FQ.d x.lo 1 V (by unfold Num4; omega) (by unfold Den4; omega) (by unfold Num4; omega) (by unfold Den4; omega)
    have HSO1 := fun V => rsooner_any TQ.n TQ.d y.lo 1 V (by unfold Num4; omega) (by unfold Den4; omega) (by unfold Num4; omega) (by unfold Den4; omega)
    have PQ : ∃ P, laterQ FQ x.lo = P ∧ Num4 P.n ∧ Den4 P.d := ⟨_, rfl, by unfold laterQ Num4; split <;> (try simp only) <;> omega, by unfold laterQ Den4; split <;> (try simp only) <;> omega⟩
    have QQ : ∃ P, soonerQ TQ y.lo = P ∧ Num4 P.n ∧ Den4 P.d := ⟨_, rfl, by unfold soonerQ Num4; split <;> (try simp only) <;> omega, by unfold soonerQ Den4; split <;> (try simp only) <;> omega⟩
    obtain ⟨P, hP, np, dp⟩ := PQ
    obtain ⟨Q, hQ, nq4, dq⟩ := QQ
    replace HLT : ∀ V, Calls Try.prog 63 #[.agg #[.int .i64 FQ.n, .int .i64 FQ.d], .agg #[.int .i64 x.lo, .int .i64 1]] V fun e w' => e = .returned (rtV P) ∧ Below V.heap.size V w' := by rw [← hP]; exact HLT
    replace HSO1 : ∀ V, Calls Try.prog 64 #[.agg #[.int .i64 TQ.n, .int .i64 TQ.d], .agg #[.int .i64 y.lo, .int .i64 1]] V fun e w' => e = .returned (rtV Q) ∧ Below V.heap.size V w' := by rw [← hQ]; exact HSO1
    rw [hP, hQ] at HWR
    clear hP hQ
    have u0 := hG6.x.cell 0 _ rfl
    have v0 := hG6.y.cell 0 _ rfl
    have f0 := hF6.cell 0 _ rfl
    have f1 := hF6.cell 1 _ rfl
    have t0 := hT.cell 0 _ rfl
    have t1 := hT.cell 1 _ rfl
    have D0 : Below W6.heap.size W6 W6.drew := (Below.refl _ _).drew
    have HSV : Hid (∀ V, Below W6.heap.size W6 V → (fun w' : World => w'.cell? ⟨pF, 0, none⟩ = some (.int .i64 FQ.n) ∧ w'.cell? ⟨pF, 1, none⟩ = some (.int .i64 FQ.d) ∧ w'.cell? ⟨w.heap.size, 0, none⟩ = some (.int .i64 x.lo) ∧ w'.cell? ⟨pT, 0, none⟩ = some (.int .i64 TQ.n) ∧ w'.cell? ⟨pT, 1, none⟩ = some (.int .i64 TQ.d) ∧ w'.cell? ⟨w.heap.size + 1, 0, none⟩ = some (.int .i64 y.lo)) V) := Lib.hid (fun V hV => ⟨ext_of_below hV _ _ f0, ext_of_below hV _ _ f1, ext_of_below hV _ _ u0, ext_of_below hV _ _ t0, ext_of_below hV _ _ t1, ext_of_below hV _ _ v0⟩)
    clear u0 v0 f0 f1 t0 t1
    go_cut [15] (fun sv wx => ∃ p, sv = .pointer (some ⟨p, 0, none⟩) ∧ W6.heap.size ≤ p ∧ Blk wx p #[.int .i64 P.n, .int .i64 P.d, .int .i64 Q.n, .int .i64 Q.d] 41 ∧ Below W6.heap.size W6 wx)
    case first =>
      clear hG6 hF6 hT HWR np dp nq4 dq F1 F2 F3 G1 G2 G3
      go_wp2_with fail
      refine wp_region_till (fun w' : World => w'.cell? ⟨pF, 0, none⟩ = some (.int .i64 FQ.n) ∧ w'.cell? ⟨pF, 1, none⟩ = some (.int .i64 FQ.d) ∧ w'.cell? ⟨w.heap.size, 0, none⟩ = some (.int .i64 x.lo) ∧ w'.cell? ⟨pT, 0, none⟩ = some (.int .i64 TQ.n) ∧ w'.cell? ⟨pT, 1, none⟩ = some (.int .i64 TQ.d) ∧ w'.cell? ⟨w.heap.size + 1, 0, none⟩ = some (.int .i64 y.lo)) 12 (by kernel_rfl) (HSV.out _ D0) (fun hHeld => ?_)
      generalize W6.drew = wd at *
      refine Till.take 0 (some 95) (v := ?_) rfl rfl (by kernel_rfl) (by kernel_rfl) (by kernel_rfl) (by kernel_rfl) (fun _ _ _ h => h) (Or.inl ⟨by rfl, ?_⟩) (by assumption) ?_
      rotate_left
      · (intro w hSw; (try dsimp only at hSw); go_simp; try with_reducible rfl)
      try simp only [Act.put, List.setIfInBounds_toArray, List.set_cons_zero, List.set_cons_succ]
      refine Till.take 1 (some 96) (v := ?_) rfl rfl (by kernel_rfl) (by kernel_rfl) (by kernel_rfl) (by kernel_rfl) (fun _ _ _ h => h) (Or.inl ⟨by rfl, ?_⟩) (by assumption) ?_
      rotate_left
      · (intro w hSw; (try dsimp only at hSw); go_simp; try with_reducible rfl)
      try simp only [Act.put, List.setIfInBounds_toArray, List.set_cons_zero, List.set_cons_succ]
      refine Till.take 2 (some 97) (v := ?_) rfl rfl (by kernel_rfl) (by kernel_rfl) (by kernel_rfl) (by kernel_rfl) (fun _ _ _ h => h) (Or.inl ⟨by rfl, ?_⟩) (by assumption) ?_
      rotate_left
      · (intro w hSw; (try dsimp only at hSw); go_simp; try with_reducible rfl)
      try simp only [Act.put, List.setIfInBounds_toArray, List.set_cons_zero, List.set_cons_succ]
      refine Till.take 5 (some 100) (v := ?_) rfl rfl (by kernel_rfl) (by kernel_rfl) (by kernel_rfl) (by kernel_rfl) (fun _ _ _ h => h) (Or.inl ⟨by rfl, ?_⟩) (by assumption) ?_
      rotate_left
      · (intro w hSw; (try dsimp only at hSw); go_simp; try with_reducible rfl)
      try simp only [Act.put, List.setIfInBounds_toArray, List.set_cons_zero, List.set_cons_succ]
      refine Till.take 6 (some 101) (v := ?_) rfl rfl (by kernel_rfl) (by kernel_rfl) (by kernel_rfl) (by kernel_rfl) (fun _ _ _ h => h) (Or.inl ⟨by rfl, ?_⟩) (by assumption) ?_
      rotate_left
      · (intro w hSw; (try dsimp only at hSw); go_simp; try with_reducible rfl)
      try simp only [Act.put, List.setIfInBounds_toArray, List.set_cons_zero, List.set_cons_succ]
      refine Till.take 7 (some 102) (v := ?_) rfl rfl (by kernel_rfl) (by kernel_rfl) (by kernel_rfl) (by kernel_rfl) (fun _ _ _ h => h) (Or.inl ⟨by rfl, ?_⟩) (by assumption) ?_
      rotate_left
      · (intro w hSw; (try dsimp only at hSw); go_simp; try with_reducible rfl)
      try simp only [Act.put, List.setIfInBounds_toArray, List.set_cons_zero, List.set_cons_succ]
      refine Till.two 3 11 rfl rfl (by kernel_rfl) (fun K hK => ?_) (fun K hK => ?_)
      · skip
        go_simp
        go_at_call 41
        refine (rwhole_any x.lo _).mono ?_
        rintro e v1 ⟨rfl, hb1⟩
        have E1 := D0.trans (hb1.mono D0.size)
        have hh1 := HSV.out _ E1
        refine hK.out _ _ (fun _ => hh1) (fun hHeld1 => ?_)
        clear hK K hb1
        try simp only [Act.put, List.setIfInBounds_toArray, List.set_cons_zero, List.set_cons_succ]
        try simp only [rtV]
        refine Till.two 4 11 rfl rfl (by kernel_rfl) (fun K hK => ?_) (fun K hK => ?_)
        · skip
          go_simp
          go_at_call 63
          refine (HLT _).mono ?_
          rintro e v2 ⟨rfl, hb2⟩
          have E2 := E1.trans (hb2.mono E1.size)
          have hh2 := HSV.out _ E2
          refine hK.out _ _ (fun _ => hh2) (fun hHeld2 => ?_)
          clear hK K hb2
          try simp only [Act.put, List.setIfInBounds_toArray, List.set_cons_zero, List.set_cons_succ]
          try simp only [rtV]
          refine Till.two 8 11 rfl rfl (by kernel_rfl) (fun K hK => ?_) (fun K hK => ?_)
          · skip
            go_simp
            go_at_call 41
            refine (rwhole_any y.lo _).mono ?_
            rintro e v3 ⟨rfl, hb3⟩
            have E3 := E2.trans (hb3.mono E2.size)
            have hh3 := HSV.out _ E3
            refine hK.out _ _ (fun _ => hh3) (fun hHeld3 => ?_)
            clear hK K hb3
            try simp only [Act.put, List.setIfInBounds_toArray, List.set_cons_zero, List.set_cons_succ]
            try simp only [rtV]
            refine Till.two 9 11 rfl rfl (by kernel_rfl) (fun K hK => ?_) (fun K hK => ?_)
            · skip
              go_simp
              go_at_call 64
              refine (HSO1 _).mono ?_
              rintro e v4 ⟨rfl, hb4⟩
              have E4 := E3.trans (hb4.mono E3.size)
              have hh4 := HSV.out _ E4
              refine hK.out _ _ (fun _ => hh4) (fun hHeld4 => ?_)
              clear hK K hb4
              try simp only [Act.put, List.setIfInBounds_toArray, List.set_cons_zero, List.set_cons_succ]
              try simp only [rtV]
              refine Till.take 10 (some 105) (v := ?_) rfl rfl (by kernel_rfl) (by kernel_rfl) (by kernel_rfl) (by kernel_rfl) (fun _ _ _ h => h) (Or.inl ⟨by rfl, ?_⟩) (by assumption) ?_
              rotate_left
              · (intro w hSw; (try dsimp only at hSw); go_simp; try with_reducible rfl)
              try simp only [Act.put, List.setIfInBounds_toArray, List.set_cons_zero, List.set_cons_succ]
              refine Till.one 11 rfl (by kernel_rfl) (fun K hK => ?_)
              go_simp
              have E5 := E4.alloc E4.size (.cells #[.int .i64 0, .int .i64 0, .int .i64 0, .int .i64 0] 41)
              have A5 := Blk.new v4 #[.int .i64 0, .int .i64 0, .int .i64 0, .int .i64 0] 41
              have sz5 := E4.size
              have hh5 := HSV.out _ E5
              refine hK.out _ _ (fun _ => hh5) (fun hHeld5 => ?_)
              clear hK K
              try simp only [Act.put, List.setIfInBounds_toArray, List.set_cons_zero, List.set_cons_succ]
              generalize hp5 : v4.heap.size = p5 at *
              generalize (v4.alloc (.cells #[.int .i64 0, .int .i64 0, .int .i64 0, .int .i64 0] 41)) = v5 at *
              have g0 := A5.cell 0 _ rfl
              have k0 := A5.frozen 0
              have g1 := A5.cell 1 _ rfl
              have k1 := A5.frozen 1
              have g2 := A5.cell 2 _ rfl
              have k2 := A5.frozen 2
              have g3 := A5.cell 3 _ rfl
              have k3 := A5.frozen 3
              have HB := Lib.hid (putBlkI A5 (.int .i64 P.n) (.int .i64 P.d) (.int .i64 Q.n) (.int .i64 Q.d))
              have HE := Lib.hid (put4BI E5 (p := p5) (by omega) (.int .i64 P.n) (.int .i64 P.d) (.int .i64 Q.n) (.int .i64 Q.d))
              have hge : W6.heap.size ≤ p5 := by omega
              refine Till.one 12 rfl (by kernel_rfl) (fun K hK => ?_)
              go_simp
              refine hK.out _ _ (fun h => absurd rfl h) (fun _ => ?_)
              clear hK K g0 g1 g2 g3 k0 k1 k2 k3
              refine Till.done (by kernel_rfl) ?_ _
              go_wp2_with fail
              go_meet
              exact ⟨p5, rfl, hge, HB.out, HE.out⟩
            · skip
              go_simp
              have E6 := E3.alloc E3.size (.cells #[.int .i64 0, .int .i64 0, .int .i64 0, .int .i64 0] 41)
              have A6 := Blk.new v3 #[.int .i64 0, .int .i64 0, .int .i64 0, .int .i64 0] 41
              have sz6 := E3.size
              have hh6 := HSV.out _ E6
              refine hK.out _ _ (fun _ => hh6) (fun hHeld6 => ?_)
              clear hK K
              try simp only [Act.put, List.setIfInBounds_toArray, List.set_cons_zero, List.set_cons_succ]
              generalize hp6 : v3.heap.size = p6 at *
              generalize (v3.alloc (.cells #[.int .i64 0, .int .i64 0, .int .i64 0, .int .i64 0] 41)) = v6 at *
              refine Till.one 9 rfl (by kernel_rfl) (fun K hK => ?_)
              go_simp
              go_at_call 64
              refine (HSO1 _).mono ?_
              rintro e v7 ⟨rfl, hb7⟩
              have E7 := E6.trans (hb7.mono E6.size)
              have A6x7 := A6.below hb7 A6.lt
              have hh7 := HSV.out _ E7
              refine hK.out _ _ (fun _ => hh7) (fun hHeld7 => ?_)
              clear hK K hb7
              try simp only [Act.put, List.setIfInBounds_toArray, List.set_cons_zero, List.set_cons_succ]
              try simp only [rtV]
              refine Till.take 10 (some 105) (v := ?_) rfl rfl (by kernel_rfl) (by kernel_rfl) (by kernel_rfl) (by kernel_rfl) (fun _ _ _ h => h) (Or.inl ⟨by rfl, ?_⟩) (by assumption) ?_
              rotate_left
              · (intro w hSw; (try dsimp only at hSw); go_simp; try with_reducible rfl)
              try simp only [Act.put, List.setIfInBounds_toArray, List.set_cons_zero, List.set_cons_succ]
              have g0 := A6x7.cell 0 _ rfl
              have k0 := A6x7.frozen 0
              have g1 := A6x7.cell 1 _ rfl
              have k1 := A6x7.frozen 1
              have g2 := A6x7.cell 2 _ rfl
              have k2 := A6x7.frozen 2
              have g3 := A6x7.cell 3 _ rfl
              have k3 := A6x7.frozen 3
              have HB := Lib.hid (putBlkI A6x7 (.int .i64 P.n) (.int .i64 P.d) (.int .i64 Q.n) (.int .i64 Q.d))
              have HE := Lib.hid (put4BI E7 (p := p6) (by omega) (.int .i64 P.n) (.int .i64 P.d) (.int .i64 Q.n) (.int .i64 Q.d))
              have hge : W6.heap.size ≤ p6 := by omega
              refine Till.one 12 rfl (by kernel_rfl) (fun K hK => ?_)
              go_simp
              refine hK.out _ _ (fun h => absurd rfl h) (fun _ => ?_)
              clear hK K g0 g1 g2 g3 k0 k1 k2 k3
              refine Till.done (by kernel_rfl) ?_ _
              go_wp2_with fail
              go_meet
              exact ⟨p6, rfl, hge, HB.out, HE.out⟩
          · skip
            go_simp
            have E8 := E2.alloc E2.size (.cells #[.int .i64 0, .int .i64 0, .int .i64 0, .int .i64 0] 41)
            have A8 := Blk.new v2 #[.int .i64 0, .int .i64 0, .int .i64 0, .int .i64 0] 41
            have sz8 := E2.size
            have hh8 := HSV.out _ E8
            refine hK.out _ _ (fun _ => hh8) (fun hHeld8 => ?_)
            clear hK K
            try simp only [Act.put, List.setIfInBounds_toArray, List.set_cons_zero, List.set_cons_succ]
            generalize hp8 : v2.heap.size = p8 at *
            generalize (v2.alloc (.cells #[.int .i64 0, .int .i64 0, .int .i64 0, .int .i64 0] 41)) = v8 at *
            refine Till.one 8 rfl (by kernel_rfl) (fun K hK => ?_)
            go_simp
            go_at_call 41
            refine (rwhole_any y.lo _).mono ?_
            rintro e v9 ⟨rfl, hb9⟩
            have E9 := E8.trans (hb9.mono E8.size)
            have A8x9 := A8.below hb9 A8.lt
            have hh9 := HSV.out _ E9
            refine hK.out _ _ (fun _ => hh9) (fun hHeld9 => ?_)
            clear hK K hb9
            try simp only [Act.put, List.setIfInBounds_toArray, List.set_cons_zero, List.set_cons_succ]
            try simp only [rtV]
            refine Till.one 9 rfl (by kernel_rfl) (fun K hK => ?_)
            go_simp
            go_at_call 64
            refine (HSO1 _).mono ?_
            rintro e v10 ⟨rfl, hb10⟩
            have E10 := E9.trans (hb10.mono E9.size)
            have A8x9x10 := A8x9.below hb10 A8x9.lt
            have hh10 := HSV.out _ E10
            refine hK.out _ _ (fun _ => hh10) (fun hHeld10 => ?_)
            clear hK K hb10
            try simp only [Act.put, List.setIfInBounds_toArray, List.set_cons_zero, List.set_cons_succ]
            try simp only [rtV]
            refine Till.take 10 (some 105) (v := ?_) rfl rfl (by kernel_rfl) (by kernel_rfl) (by kernel_rfl) (by kernel_rfl) (fun _ _ _ h => h) (Or.inl ⟨by rfl, ?_⟩) (by assumption) ?_
            rotate_left
            · (intro w hSw; (try dsimp only at hSw); go_simp; try with_reducible rfl)
            try simp only [Act.put, List.setIfInBounds_toArray, List.set_cons_zero, List.set_cons_succ]
            have g0 := A8x9x10.cell 0 _ rfl
            have k0 := A8x9x10.frozen 0
            have g1 := A8x9x10.cell 1 _ rfl
            have k1 := A8x9x10.frozen 1
            have g2 := A8x9x10.cell 2 _ rfl
            have k2 := A8x9x10.frozen 2
            have g3 := A8x9x10.cell 3 _ rfl
            have k3 := A8x9x10.frozen 3
            have HB := Lib.hid (putBlkI A8x9x10 (.int .i64 P.n) (.int .i64 P.d) (.int .i64 Q.n) (.int .i64 Q.d))
            have HE := Lib.hid (put4BI E10 (p := p8) (by omega) (.int .i64 P.n) (.int .i64 P.d) (.int .i64 Q.n) (.int .i64 Q.d))
            have hge : W6.heap.size ≤ p8 := by omega
            refine Till.one 12 rfl (by kernel_rfl) (fun K hK => ?_)
            go_simp
            refine hK.out _ _ (fun h => absurd rfl h) (fun _ => ?_)
            clear hK K g0 g1 g2 g3 k0 k1 k2 k3
            refine Till.done (by kernel_rfl) ?_ _
            go_wp2_with fail
            go_meet
            exact ⟨p8, rfl, hge, HB.out, HE.out⟩
        · skip
          go_simp
          have E11 := E1.alloc E1.size (.cells #[.int .i64 0, .int .i64 0, .int .i64 0, .int .i64 0] 41)
          have A11 := Blk.new v1 #[.int .i64 0, .int .i64 0, .int .i64 0, .int .i64 0] 41
          have sz11 := E1.size
          have hh11 := HSV.out _ E11
          refine hK.out _ _ (fun _ => hh11) (fun hHeld11 => ?_)
          clear hK K
          try simp only [Act.put, List.setIfInBounds_toArray, List.set_cons_zero, List.set_cons_succ]
          generalize hp11 : v1.heap.size = p11 at *
          generalize (v1.alloc (.cells #[.int .i64 0, .int .i64 0, .int .i64 0, .int .i64 0] 41)) = v11 at *
          refine Till.one 4 rfl (by kernel_rfl) (fun K hK => ?_)
          go_simp
          go_at_call 63
          refine (HLT _).mono ?_
          rintro e v12 ⟨rfl, hb12⟩
          have E12 := E11.trans (hb12.mono E11.size)
          have A11x12 := A11.below hb12 A11.lt
          have hh12 := HSV.out _ E12
          refine hK.out _ _ (fun _ => hh12) (fun hHeld12 => ?_)
          clear hK K hb12
          try simp only [Act.put, List.setIfInBounds_toArray, List.set_cons_zero, List.set_cons_succ]
          try simp only [rtV]
          refine Till.one 8 rfl (by kernel_rfl) (fun K hK => ?_)
          go_simp
          go_at_call 41
          refine (rwhole_any y.lo _).mono ?_
          rintro e v13 ⟨rfl, hb13⟩
          have E13 := E12.trans (hb13.mono E12.size)
          have A11x12x13 := A11x12.below hb13 A11x12.lt
          have hh13 := HSV.out _ E13
          refine hK.out _ _ (fun _ => hh13) (fun hHeld13 => ?_)
          clear hK K hb13
          try simp only [Act.put, List.setIfInBounds_toArray, List.set_cons_zero, List.set_cons_succ]
          try simp only [rtV]
          refine Till.one 9 rfl (by kernel_rfl) (fun K hK => ?_)
          go_simp
          go_at_call 64
          refine (HSO1 _).mono ?_
          rintro e v14 ⟨rfl, hb14⟩
          have E14 := E13.trans (hb14.mono E13.size)
          have A11x12x13x14 := A11x12x13.below hb14 A11x12x13.lt
          have hh14 := HSV.out _ E14
          refine hK.out _ _ (fun _ => hh14) (fun hHeld14 => ?_)
          clear hK K hb14
          try simp only [Act.put, List.setIfInBounds_toArray, List.set_cons_zero, List.set_cons_succ]
          try simp only [rtV]
          refine Till.take 10 (some 105) (v := ?_) rfl rfl (by kernel_rfl) (by kernel_rfl) (by kernel_rfl) (by kernel_rfl) (fun _ _ _ h => h) (Or.inl ⟨by rfl, ?_⟩) (by assumption) ?_
          rotate_left
          · (intro w hSw; (try dsimp only at hSw); go_simp; try with_reducible rfl)
          try simp only [Act.put, List.setIfInBounds_toArray, List.set_cons_zero, List.set_cons_succ]
          have g0 := A11x12x13x14.cell 0 _ rfl
          have k0 := A11x12x13x14.frozen 0
          have g1 := A11x12x13x14.cell 1 _ rfl
          have k1 := A11x12x13x14.frozen 1
          have g2 := A11x12x13x14.cell 2 _ rfl
          have k2 := A11x12x13x14.frozen 2
          have g3 := A11x12x13x14.cell 3 _ rfl
          have k3 := A11x12x13x14.frozen 3
          have HB := Lib.hid (putBlkI A11x12x13x14 (.int .i64 P.n) (.int .i64 P.d) (.int .i64 Q.n) (.int .i64 Q.d))
          have HE := Lib.hid (put4BI E14 (p := p11) (by omega) (.int .i64 P.n) (.int .i64 P.d) (.int .i64 Q.n) (.int .i64 Q.d))
          have hge : W6.heap.size ≤ p11 := by omega
          refine Till.one 12 rfl (by kernel_rfl) (fun K hK => ?_)
          go_simp
          refine hK.out _ _ (fun h => absurd rfl h) (fun _ => ?_)
          clear hK K g0 g1 g2 g3 k0 k1 k2 k3
          refine Till.done (by kernel_rfl) ?_ _
          go_wp2_with fail
          go_meet
          exact ⟨p11, rfl, hge, HB.out, HE.out⟩
      · skip
        go_simp
        have E15 := D0.alloc D0.size (.cells #[.int .i64 0, .int .i64 0, .int .i64 0, .int .i64 0] 41)
        have A15 := Blk.new wd #[.int .i64 0, .int .i64 0, .int .i64 0, .int .i64 0] 41
        have sz15 := D0.size
        have hh15 := HSV.out _ E15
        refine hK.out _ _ (fun _ => hh15) (fun hHeld15 => ?_)
        clear hK K
        try simp only [Act.put, List.setIfInBounds_toArray, List.set_cons_zero, List.set_cons_succ]
        generalize hp15 : wd.heap.size = p15 at *
        generalize (wd.alloc (.cells #[.int .i64 0, .int .i64 0, .int .i64 0, .int .i64 0] 41)) = v15 at *
        refine Till.one 3 rfl (by kernel_rfl) (fun K hK => ?_)
        go_simp
        go_at_call 41
        refine (rwhole_any x.lo _).mono ?_
        rintro e v16 ⟨rfl, hb16⟩
        have E16 := E15.trans (hb16.mono E15.size)
        have A15x16 := A15.below hb16 A15.lt
        have hh16 := HSV.out _ E16
        refine hK.out _ _ (fun _ => hh16) (fun hHeld16 => ?_)
        clear hK K hb16
        try simp only [Act.put, List.setIfInBounds_toArray, List.set_cons_zero, List.set_cons_succ]
        try simp only [rtV]
        refine Till.one 4 rfl (by kernel_rfl) (fun K hK => ?_)
        go_simp
        go_at_call 63
        refine (HLT _).mono ?_
        rintro e v17 ⟨rfl, hb17⟩
        have E17 := E16.trans (hb17.mono E16.size)
        have A15x16x17 := A15x16.below hb17 A15x16.lt
        have hh17 := HSV.out _ E17
        refine hK.out _ _ (fun _ => hh17) (fun hHeld17 => ?_)
        clear hK K hb17
        try simp only [Act.put, List.setIfInBounds_toArray, List.set_cons_zero, List.set_cons_succ]
        try simp only [rtV]
        refine Till.one 8 rfl (by kernel_rfl) (fun K hK => ?_)
        go_simp
        go_at_call 41
        refine (rwhole_any y.lo _).mono ?_
        rintro e v18 ⟨rfl, hb18⟩
        have E18 := E17.trans (hb18.mono E17.size)
        have A15x16x17x18 := A15x16x17.below hb18 A15x16x17.lt
        have hh18 := HSV.out _ E18
        refine hK.out _ _ (fun _ => hh18) (fun hHeld18 => ?_)
        clear hK K hb18
        try simp only [Act.put, List.setIfInBounds_toArray, List.set_cons_zero, List.set_cons_succ]
        try simp only [rtV]
        refine Till.one 9 rfl (by kernel_rfl) (fun K hK => ?_)
        go_simp
        go_at_call 64
        refine (HSO1 _).mono ?_
        rintro e v19 ⟨rfl, hb19⟩
        have E19 := E18.trans (hb19.mono E18.size)
        have A15x16x17x18x19 := A15x16x17x18.below hb19 A15x16x17x18.lt
        have hh19 := HSV.out _ E19
        refine hK.out _ _ (fun _ => hh19) (fun hHeld19 => ?_)
        clear hK K hb19
        try simp only [Act.put, List.setIfInBounds_toArray, List.set_cons_zero, List.set_cons_succ]
        try simp only [rtV]
        refine Till.take 10 (some 105) (v := ?_) rfl rfl (by kernel_rfl) (by kernel_rfl) (by kernel_rfl) (by kernel_rfl) (fun _ _ _ h => h) (Or.inl ⟨by rfl, ?_⟩) (by assumption) ?_
        rotate_left
        · (intro w hSw; (try dsimp only at hSw); go_simp; try with_reducible rfl)
        try simp only [Act.put, List.setIfInBounds_toArray, List.set_cons_zero, List.set_cons_succ]
        have g0 := A15x16x17x18x19.cell 0 _ rfl
        have k0 := A15x16x17x18x19.frozen 0
        have g1 := A15x16x17x18x19.cell 1 _ rfl
        have k1 := A15x16x17x18x19.frozen 1
        have g2 := A15x16x17x18x19.cell 2 _ rfl
        have k2 := A15x16x17x18x19.frozen 2
        have g3 := A15x16x17x18x19.cell 3 _ rfl
        have k3 := A15x16x17x18x19.frozen 3
        have HB := Lib.hid (putBlkI A15x16x17x18x19 (.int .i64 P.n) (.int .i64 P.d) (.int .i64 Q.n) (.int .i64 Q.d))
        have HE := Lib.hid (put4BI E19 (p := p15) (by omega) (.int .i64 P.n) (.int .i64 P.d) (.int .i64 Q.n) (.int .i64 Q.d))
        have hge : W6.heap.size ≤ p15 := by omega
        refine Till.one 12 rfl (by kernel_rfl) (fun K hK => ?_)
        go_simp
        refine hK.out _ _ (fun h => absurd rfl h) (fun _ => ?_)
        clear hK K g0 g1 g2 g3 k0 k1 k2 k3
        refine Till.done (by kernel_rfl) ?_ _
        go_wp2_with fail
        go_meet
        exact ⟨p15, rfl, hge, HB.out, HE.out⟩
    case rest =>
    obtain ⟨p, rfl, hpp, hB, hb⟩ := hcut
    rename World => W7
    have hpl := hG6.r.lt
    have hG := hG6.below hb
    clear hG6 hF6 hT hb HSV D0 HLT HSO1 F1 F2 F3 G1 G2 G3
    have hL := fun V => rl_any Q.n Q.d P.n P.d V nq4 dq np dp
    have q0 := hB.cell 0 _ rfl
    have q1 := hB.cell 1 _ rfl
    have q2 := hB.cell 2 _ rfl
    have q3 := hB.cell 3 _ rfl
    have D0 : Below W7.heap.size W7 W7.drew := (Below.refl _ _).drew
    have HSV : Hid (∀ V, Below W7.heap.size W7 V → (fun w' : World => w'.cell? ⟨p, 0, none⟩ = some (.int .i64 P.n) ∧ w'.cell? ⟨p, 1, none⟩ = some (.int .i64 P.d) ∧ w'.cell? ⟨p, 2, none⟩ = some (.int .i64 Q.n) ∧ w'.cell? ⟨p, 3, none⟩ = some (.int .i64 Q.d)) V) := Lib.hid (fun V hV => ⟨ext_of_below hV _ _ q0, ext_of_below hV _ _ q1, ext_of_below hV _ _ q2, ext_of_below hV _ _ q3⟩)
    have HSO : Hid (∀ V, Below W7.heap.size W7 V → ∀ a b c d : Value, (fun w' : World => w'.cell? ⟨p, 0, none⟩ = some (.int .i64 P.n) ∧ w'.cell? ⟨p, 1, none⟩ = some (.int .i64 P.d) ∧ w'.cell? ⟨p, 2, none⟩ = some (.int .i64 Q.n) ∧ w'.cell? ⟨p, 3, none⟩ = some (.int .i64 Q.d)) ((((V.setCell ⟨w.heap.size + 3, 0, none⟩ a).setCell ⟨w.heap.size + 3, 1, none⟩ b).setCell ⟨w.heap.size + 3, 2, none⟩ c).setCell ⟨w.heap.size + 3, 3, none⟩ d)) := Lib.hid (fun V hV a b c d => ⟨(by rw [World.cell?_setCell_far _ _ _ _ (by simp only; omega), World.cell?_setCell_far _ _ _ _ (by simp only; omega), World.cell?_setCell_far _ _ _ _ (by simp only; omega), World.cell?_setCell_far _ _ _ _ (by simp only; omega)]; exact (HSV.out V hV).1), (by rw [World.cell?_setCell_far _ _ _ _ (by simp only; omega), World.cell?_setCell_far _ _ _ _ (by simp only; omega), World.cell?_setCell_far _ _ _ _ (by simp only; omega), World.cell?_setCell_far _ _ _ _ (by simp only; omega)]; exact (HSV.out V hV).2.1), (by rw [World.cell?_setCell_far _ _ _ _ (by simp only; omega), World.cell?_setCell_far _ _ _ _ (by simp only; omega), World.cell?_setCell_far _ _ _ _ (by simp only; omega), World.cell?_setCell_far _ _ _ _ (by simp only; omega)]; exact (HSV.out V hV).2.2.1), (by rw [World.cell?_setCell_far _ _ _ _ (by simp only; omega), World.cell?_setCell_far _ _ _ _ (by simp only; omega), World.cell?_setCell_far _ _ _ _ (by simp only; omega), World.cell?_setCell_far _ _ _ _ (by simp only; omega)]; exact (HSV.out V hV).2.2.2)⟩)
    clear q0 q1 q2 q3 np dp nq4 dq hB
    by_cases hlt : Q.n * P.d < P.n * Q.d
    · skip
      rw [decide_eq_true hlt] at hL HWR
      clear hlt
      have HW2 : Hid (WithA x y s (.returned (.tuple #[stV ⟨P, Q⟩, .bool false]))) := Lib.hid ⟨_, _, rfl, HWR.out⟩
      clear HWR hs ha hb hc h hb1 hb2
      go_wp2_with fail
      refine wp_region_till (fun w' : World => w'.cell? ⟨p, 0, none⟩ = some (.int .i64 P.n) ∧ w'.cell? ⟨p, 1, none⟩ = some (.int .i64 P.d) ∧ w'.cell? ⟨p, 2, none⟩ = some (.int .i64 Q.n) ∧ w'.cell? ⟨p, 3, none⟩ = some (.int .i64 Q.d)) 8 (by kernel_rfl) (HSV.out _ D0) (fun hHeld => ?_)
      generalize W7.drew = wd at *
      refine Till.take 0 (some 106) (v := ?_) rfl rfl (by kernel_rfl) (by kernel_rfl) (by kernel_rfl) (by kernel_rfl) (fun _ _ _ h => h) (Or.inl ⟨by rfl, ?_⟩) (by assumption) ?_
      rotate_left
      · (intro w hSw; (try dsimp only at hSw); go_simp; try with_reducible rfl)
      try simp only [Act.put, List.setIfInBounds_toArray, List.set_cons_zero, List.set_cons_succ]
      refine Till.take 1 (some 107) (v := ?_) rfl rfl (by kernel_rfl) (by kernel_rfl) (by kernel_rfl) (by kernel_rfl) (fun _ _ _ h => h) (Or.inl ⟨by rfl, ?_⟩) (by assumption) ?_
      rotate_left
      · (intro w hSw; (try dsimp only at hSw); go_simp; try with_reducible rfl)
      try simp only [Act.put, List.setIfInBounds_toArray, List.set_cons_zero, List.set_cons_succ]
      refine Till.take 2 (some 108) (v := ?_) rfl rfl (by kernel_rfl) (by kernel_rfl) (by kernel_rfl) (by kernel_rfl) (fun _ _ _ h => h) (Or.inl ⟨by rfl, ?_⟩) (by assumption) ?_
      rotate_left
      · (intro w hSw; (try dsimp only at hSw); go_simp; try with_reducible rfl)
      try simp only [Act.put, List.setIfInBounds_toArray, List.set_cons_zero, List.set_cons_succ]
      refine Till.take 3 (some 109) (v := ?_) rfl rfl (by kernel_rfl) (by kernel_rfl) (by kernel_rfl) (by kernel_rfl) (fun _ _ _ h => h) (Or.inl ⟨by rfl, ?_⟩) (by assumption) ?_
      rotate_left
      · (intro w hSw; (try dsimp only at hSw); go_simp; try with_reducible rfl)
      try simp only [Act.put, List.setIfInBounds_toArray, List.set_cons_zero, List.set_cons_succ]
      refine Till.take 4 (some 110) (v := ?_) rfl rfl (by kernel_rfl) (by kernel_rfl) (by kernel_rfl) (by kernel_rfl) (fun _ _ _ h => h) (Or.inl ⟨by rfl, ?_⟩) (by assumption) ?_
      rotate_left
      · (intro w hSw; (try dsimp only at hSw); go_simp; try with_reducible rfl)
      try simp only [Act.put, List.setIfInBounds_toArray, List.set_cons_zero, List.set_cons_succ]
      refine Till.one 5 rfl (by kernel_rfl) (fun K hK => ?_)
      go_simp
      go_at_call 16
      refine (hL _).mono ?_
      rintro e v1 ⟨rfl, hb1⟩
      have D1 := D0.trans (hb1.mono D0.size)
      have hh1 := HSV.out _ D1
      refine hK.out _ _ (fun _ => hh1) (fun hHeld1 => ?_)
      clear hK K hb1
      try simp only [Act.put, List.setIfInBounds_toArray, List.set_cons_zero, List.set_cons_succ]
      refine Till.take 6 (some 112) (v := ?_) rfl rfl (by kernel_rfl) (by kernel_rfl) (by kernel_rfl) (by kernel_rfl) (fun _ _ _ h => h) (Or.inl ⟨by rfl, ?_⟩) (by assumption) ?_
      rotate_left
      · (intro w hSw; (try dsimp only at hSw); go_simp; try with_reducible rfl)
      try simp only [Act.put, List.setIfInBounds_toArray, List.set_cons_zero, List.set_cons_succ]
      have hGs := hG.below D1
      have g0 := hGs.r.cell 0 _ rfl
      have k0 := hGs.r.frozen 0
      have g1 := hGs.r.cell 1 _ rfl
      have k1 := hGs.r.frozen 1
      have g2 := hGs.r.cell 2 _ rfl
      have k2 := hGs.r.frozen 2
      have g3 := hGs.r.cell 3 _ rfl
      have k3 := hGs.r.frozen 3
      obtain ⟨HE, HB⟩ := hGs.put (.int .i64 P.n) (.int .i64 P.d) (.int .i64 Q.n) (.int .i64 Q.d)
      have HS2 := Lib.hid (HSO.out _ D1 (.int .i64 P.n) (.int .i64 P.d) (.int .i64 Q.n) (.int .i64 Q.d))
      refine Till.one 7 rfl (by kernel_rfl) (fun K hK => ?_)
      go_simp
      have hh := HS2.out
      refine hK.out _ _ (fun _ => hh) (fun hHeldS => ?_)
      clear hK K hh HS2 hGs g0 k0 g1 k1 g2 k2 g3 k3
      try simp only [Act.put, List.setIfInBounds_toArray, List.set_cons_zero, List.set_cons_succ]
      generalize ((((v1.setCell ⟨w.heap.size + 3, 0, none⟩ (.int .i64 P.n)).setCell ⟨w.heap.size + 3, 1, none⟩ (.int .i64 P.d)).setCell ⟨w.heap.size + 3, 2, none⟩ (.int .i64 Q.n)).setCell ⟨w.heap.size + 3, 3, none⟩ (.int .i64 Q.d)) = WE at *
      refine Till.one 8 rfl (by kernel_rfl) (fun K hK => ?_)
      go_simp
      refine hK.out _ _ (fun h => absurd rfl h) (fun _ => ?_)
      clear hK K
      try simp only [Act.put, List.setIfInBounds_toArray, List.set_cons_zero, List.set_cons_succ]
      refine Till.done (by kernel_rfl) ?_ _
      go_wp2
      have c0 := HB.out.cell 0 _ rfl
      have c1 := HB.out.cell 1 _ rfl
      have c2 := HB.out.cell 2 _ rfl
      have c3 := HB.out.cell 3 _ rfl
      have hE := HE.out
      clear HB HE
      refine ⟨rfl, .tuple #[stV ⟨P, Q⟩, .bool false], ?_, HW2.out, hE⟩
      simp [results, Try.results52, go_sem, c0, c1, c2, c3, stV]
    · skip
      rw [decide_eq_false hlt] at hL HWR
      clear hlt
      have HW2 : Hid (WithA x y s (.returned (.tuple #[stV ⟨P, Q⟩, .bool true]))) := Lib.hid ⟨_, _, rfl, HWR.out⟩
      clear HWR hs ha hb hc h hb1 hb2
      go_wp2_with fail
      refine wp_region_till (fun w' : World => w'.cell? ⟨p, 0, none⟩ = some (.int .i64 P.n) ∧ w'.cell? ⟨p, 1, none⟩ = some (.int .i64 P.d) ∧ w'.cell? ⟨p, 2, none⟩ = some (.int .i64 Q.n) ∧ w'.cell? ⟨p, 3, none⟩ = some (.int .i64 Q.d)) 8 (by kernel_rfl) (HSV.out _ D0) (fun hHeld => ?_)
      generalize W7.drew = wd at *
      refine Till.take 0 (some 106) (v := ?_) rfl rfl (by kernel_rfl) (by kernel_rfl) (by kernel_rfl) (by kernel_rfl) (fun _ _ _ h => h) (Or.inl ⟨by rfl, ?_⟩) (by assumption) ?_
      rotate_left
      · (intro w hSw; (try dsimp only at hSw); go_simp; try with_reducible rfl)
      try simp only [Act.put, List.setIfInBounds_toArray, List.set_cons_zero, List.set_cons_succ]
      refine Till.take 1 (some 107) (v := ?_) rfl rfl (by kernel_rfl) (by kernel_rfl) (by kernel_rfl) (by kernel_rfl) (fun _ _ _ h => h) (Or.inl ⟨by rfl, ?_⟩) (by assumption) ?_
      rotate_left
      · (intro w hSw; (try dsimp only at hSw); go_simp; try with_reducible rfl)
      try simp only [Act.put, List.setIfInBounds_toArray, List.set_cons_zero, List.set_cons_succ]
      refine Till.take 2 (some 108) (v := ?_) rfl rfl (by kernel_rfl) (by kernel_rfl) (by kernel_rfl) (by kernel_rfl) (fun _ _ _ h => h) (Or.inl ⟨by rfl, ?_⟩) (by assumption) ?_
      rotate_left
      · (intro w hSw; (try dsimp only at hSw); go_simp; try with_reducible rfl)
      try simp only [Act.put, List.setIfInBounds_toArray, List.set_cons_zero, List.set_cons_succ]
      refine Till.take 3 (some 109) (v := ?_) rfl rfl (by kernel_rfl) (by kernel_rfl) (by kernel_rfl) (by kernel_rfl) (fun _ _ _ h => h) (Or.inl ⟨by rfl, ?_⟩) (by assumption) ?_
      rotate_left
      · (intro w hSw; (try dsimp only at hSw); go_simp; try with_reducible rfl)
      try simp only [Act.put, List.setIfInBounds_toArray, List.set_cons_zero, List.set_cons_succ]
      refine Till.take 4 (some 110) (v := ?_) rfl rfl (by kernel_rfl) (by kernel_rfl) (by kernel_rfl) (by kernel_rfl) (fun _ _ _ h => h) (Or.inl ⟨by rfl, ?_⟩) (by assumption) ?_
      rotate_left
      · (intro w hSw; (try dsimp only at hSw); go_simp; try with_reducible rfl)
      try simp only [Act.put, List.setIfInBounds_toArray, List.set_cons_zero, List.set_cons_succ]
      refine Till.one 5 rfl (by kernel_rfl) (fun K hK => ?_)
      go_simp
      go_at_call 16
      refine (hL _).mono ?_
      rintro e v1 ⟨rfl, hb1⟩
      have D1 := D0.trans (hb1.mono D0.size)
      have hh1 := HSV.out _ D1
      refine hK.out _ _ (fun _ => hh1) (fun hHeld1 => ?_)
      clear hK K hb1
      try simp only [Act.put, List.setIfInBounds_toArray, List.set_cons_zero, List.set_cons_succ]
      refine Till.take 6 (some 112) (v := ?_) rfl rfl (by kernel_rfl) (by kernel_rfl) (by kernel_rfl) (by kernel_rfl) (fun _ _ _ h => h) (Or.inl ⟨by rfl, ?_⟩) (by assumption) ?_
      rotate_left
      · (intro w hSw; (try dsimp only at hSw); go_simp; try with_reducible rfl)
      try simp only [Act.put, List.setIfInBounds_toArray, List.set_cons_zero, List.set_cons_succ]
      have hGs := hG.below D1
      have g0 := hGs.r.cell 0 _ rfl
      have k0 := hGs.r.frozen 0
      have g1 := hGs.r.cell 1 _ rfl
      have k1 := hGs.r.frozen 1
      have g2 := hGs.r.cell 2 _ rfl
      have k2 := hGs.r.frozen 2
      have g3 := hGs.r.cell 3 _ rfl
      have k3 := hGs.r.frozen 3
      obtain ⟨HE, HB⟩ := hGs.put (.int .i64 P.n) (.int .i64 P.d) (.int .i64 Q.n) (.int .i64 Q.d)
      have HS2 := Lib.hid (HSO.out _ D1 (.int .i64 P.n) (.int .i64 P.d) (.int .i64 Q.n) (.int .i64 Q.d))
      refine Till.one 7 rfl (by kernel_rfl) (fun K hK => ?_)
      go_simp
      have hh := HS2.out
      refine hK.out _ _ (fun _ => hh) (fun hHeldS => ?_)
      clear hK K hh HS2 hGs g0 k0 g1 k1 g2 k2 g3 k3
      try simp only [Act.put, List.setIfInBounds_toArray, List.set_cons_zero, List.set_cons_succ]
      generalize ((((v1.setCell ⟨w.heap.size + 3, 0, none⟩ (.int .i64 P.n)).setCell ⟨w.heap.size + 3, 1, none⟩ (.int .i64 P.d)).setCell ⟨w.heap.size + 3, 2, none⟩ (.int .i64 Q.n)).setCell ⟨w.heap.size + 3, 3, none⟩ (.int .i64 Q.d)) = WE at *
      refine Till.one 8 rfl (by kernel_rfl) (fun K hK => ?_)
      go_simp
      refine hK.out _ _ (fun h => absurd rfl h) (fun _ => ?_)
      clear hK K
      try simp only [Act.put, List.setIfInBounds_toArray, List.set_cons_zero, List.set_cons_succ]
      refine Till.done (by kernel_rfl) ?_ _
      go_wp2
      have c0 := HB.out.cell 0 _ rfl
      have c1 := HB.out.cell 1 _ rfl
      have c2 := HB.out.cell 2 _ rfl
      have c3 := HB.out.cell 3 _ rfl
      have hE := HE.out
      clear HB HE
      refine ⟨rfl, .tuple #[stV ⟨P, Q⟩, .bool true], ?_, HW2.out, hE⟩
      simp [results, Try.results52, go_sem, c0, c1, c2, c3, stV]
end Go.Proofs.Ytnldenjdbgfgmaa
