/- The law FormingEven; no statement is proved here. -/
import Derived.Test.YtnldenjdbgfgmaaFmEx
import Derived.Test.YtnldenjdbgfgmaaFmTu
namespace Go.Proofs.Ytnldenjdbgfgmaa
open Go.RowKit Go.PlainAid
set_option linter.unusedVariables false
set_option linter.unusedSimpArgs false
attribute [local go_sem] beq_self_eq_true bne_self_eq_false

theorem neRv (x1 x2 : Int) (w : World) : Sem.run Try.prog (Go.binOp .neq 24 (.agg #[.int .i64 x1, .int .i64 x2]) (.agg #[.int .i64 x1, .int .i64 x2])) w = .ok (.bool false) w := by
  rw [run_neq_struct]
  simp [go_sem]
theorem mk_time {c M D : Int} (hc : 1 ≤ c ∧ c ≤ 3600) (hD : 1 ≤ D ∧ D ≤ 50) (hM : 0 ≤ M ∧ M < c * D) : (0 ≤ (mk M D).n ∧ (mk M D).n < c * (mk M D).d) ∧ (1 ≤ (mk M D).d ∧ (mk M D).d ≤ 50) ∧ gI (mk M D).n (mk M D).d = 1 := by
  have h1 := mk_n M D
  have h2 := mk_d M D
  have h3 := mk_dpos M (d := D) (by omega)
  have h4 := mk_dle M (d := D) (by omega)
  have h5 := gI_pos M (b := D) (by omega)
  have h6 := mk_low M (d := D) (by omega)
  generalize (mk M D).n = n at *
  generalize (mk M D).d = d at *
  generalize gI M D = g at *
  refine ⟨⟨?_, ?_⟩, ⟨h3, by omega⟩, h6⟩
  · rcases Int.lt_or_le n 0 with h | h
    · have := Int.mul_neg_of_neg_of_pos h (show 0 < g by omega); omega
    · exact h
  · refine Int.lt_of_mul_lt_mul_right (a := g) ?_ (by omega)
    rw [Int.mul_assoc, h1, h2]; exact hM.2
theorem gI_add (a m b : Int) : gI (a + m * b) b = gI a b := by
  unfold gI
  rw [Int.mul_comm m b, Int.gcd_add_mul_left_left]
theorem in_cyc {c qn qd : Int} (hc : 1 ≤ c ∧ c ≤ 3600) (hd : 1 ≤ qd ∧ qd ≤ 50) (hn : 0 ≤ qn ∧ qn < c * qd) : qn % (c * qd) = qn ∧ (qn + c * qd) % (c * qd) = qn := by
  have e := Int.emod_eq_of_lt hn.1 hn.2
  exact ⟨e, by rw [Int.add_emod_right]; exact e⟩
theorem I64_of {D : Int} (h : -1000000 ≤ D ∧ D ≤ 1000000) : I64 D := by unfold I64; omega
theorem I64_of2 {D : Int} (h : 1 ≤ D ∧ D ≤ 3600) : I64 D := by unfold I64; omega
theorem even_fin {c h : Int} {l : List Sp} (H : chkM c h l = 0) {qn qd more : Int} (hd : 1 ≤ qd ∧ qd ≤ 50) (hn : 0 ≤ qn ∧ qn < c * qd) {P Q : Rt} (hP : WhP c h l qd qn P) (hQ : WhP c h l qd ((qn + more * qd) % (c * qd)) Q) :
    (P.n * Q.d - Q.n * P.d ≤ mostS c h l l.length * max more (-more) * P.d * Q.d) ∧ -(P.n * Q.d - Q.n * P.d) ≤ mostS c h l l.length * max more (-more) * P.d * Q.d := by
  have hc := (chkM_zero H).1
  have hcd := cd_bd hc hd
  have e0 := Int.emod_nonneg (qn + more * qd) (show c * qd ≠ 0 by omega)
  have e1 := Int.emod_lt_of_pos (qn + more * qd) (show 0 < c * qd by omega)
  have e2 := Int.emod_add_mul_ediv (qn + more * qd) (c * qd)
  have b1 := hP.bd H hd (by omega)
  have b2 := hQ.bd H hd (by omega)
  have p1 := hP.pos H hd.1 hn.1
  have p2 := hQ.pos H hd.1 e0
  have hq := dpos hd.1
  obtain ⟨q, hqq⟩ : ∃ q, (qn + more * qd) / (c * qd) = q := ⟨_, rfl⟩
  obtain ⟨n2, hn2⟩ : ∃ n, (qn + more * qd) % (c * qd) = n := ⟨_, rfl⟩
  rw [hqq, hn2] at e2
  rw [hn2] at p2
  have he : ((more : Int) : Rat) = ((n2 : Rat) / (qd : Rat)) - ((qn : Rat) / (qd : Rat)) + (q : Rat) * (c : Rat) := by
    have := congrArg (fun z : Int => (z : Rat)) e2
    simp only [Rat.intCast_mul, Rat.intCast_add] at this
    generalize (qd : Rat) = d at *
    generalize (n2 : Rat) = a at *
    generalize (qn : Rat) = b at *
    generalize (more : Rat) = m at *
    generalize (q : Rat) = z at *
    generalize (c : Rat) = k at *
    grind
  have far := pos_far (most_path H) (lg_first H) hc.1 p1 p2 q more he
  rw [← Rat.intCast_mul] at far
  refine ⟨cross_le b1.2.1 b2.2.1 far.1, ?_⟩
  have := cross_le b2.2.1 b1.2.1 far.2
  rw [Int.mul_right_comm _ P.d Q.d]
  omega
theorem ks_at {w : World} {a : Option Addr} {cap : Nat} {l : List Sp} (h : RSps w (.slice a l.length cap) l) {k : Nat} (hk : k < l.length) : ∃ b o, a = some ⟨b, o, none⟩ ∧ ∀ i (hi : i < l.length), w.cell? ⟨b, o + i * 2, none⟩ = some (.int .i64 (kt l i).lo) ∧ w.cell? ⟨b, o + i * 2 + 1, none⟩ = some (.int .i64 (kt l i).hi) := by
  obtain ⟨a', c', e, -, -, hl⟩ := h
  simp only [Value.slice.injEq, true_and] at e
  obtain ⟨rfl, rfl⟩ := e
  obtain ⟨b, o, rfl, -⟩ := hl k hk
  refine ⟨b, o, rfl, fun i hi => ?_⟩
  obtain ⟨b', o', e, q0, q1, -⟩ := hl i hi
  simp only [Option.some.injEq, Addr.mk.injEq, and_true] at e
  obtain ⟨rfl, rfl⟩ := e
  rw [kt_eq hi] at q0 q1
  exact ⟨q0, q1⟩
theorem steep_bd {c h : Int} {l : List Sp} (H : chkM c h l = 0) {k : Nat} (hk : k < l.length) : ∃ D N Q MO : Int, (lgB c h l k).hi - (lgA h l k).hi = D ∧ (lgB c h l k).lo - (lgA h l k).lo = N ∧ mostS c h l k = MO ∧ mostS c h l (k + 1) = max MO Q ∧ (max D (-D) + N - 1) / N = Q ∧ (-1000000 ≤ D ∧ D ≤ 1000000) ∧ (1 ≤ N ∧ N ≤ 3600) ∧ (0 ≤ Q ∧ Q ≤ 1003600) ∧ (0 ≤ MO ∧ MO ≤ 1003600) := by
  have hok := legOk_of H (show k < nL l by unfold nL; omega)
  have h1 := hok.a; have h2 := hok.b; have h3 := hok.c
  have hm := mostS_ok H k (by unfold nL; omega)
  have cb := ceil_bd (a := max ((lgB c h l k).hi - (lgA h l k).hi) (-((lgB c h l k).hi - (lgA h l k).hi))) (n := (lgB c h l k).lo - (lgA h l k).lo) (by omega) (by omega)
  exact ⟨_, _, _, _, rfl, rfl, rfl, rfl, rfl, by omega, by omega, cb.2, hm.1⟩

set_option maxHeartbeats 16000000 in
set_option maxRecDepth 100000 in
theorem fEvenLaw_any (c h : Int) (va : Value) (l : List Sp) (num den more : Int) (w : World) (hic : I64 c) (hih : I64 h) (hr : RSps w va l) (hin : I64 num) (hid : I64 den) (him : I64 more) :
    Calls Try.prog 6 #[.int .i64 c, .int .i64 h, va, .int .i64 num, .int .i64 den, .int .i64 more] w (TrueF w) := by
  obtain ⟨aa, ca, rfl, -, ⟨hca, hma⟩, -⟩ := id hr
  have hA := Below.refl w.heap.size w
  by_cases n1 : 100 < l.length
  · clear hr
    have i1 : (100 : Int) < (l.length : Int) := by omega
    go_enter Try.func6, Try.ntmps6
    go_wp2_with fail
    refine (turns_any _).mono ?_
    rintro e wz ⟨rfl, hb⟩
    have hA := hA.trans (hb.mono hA.size)
    go_wp2
    go_ret
    exact ⟨rfl, hA⟩
  have i1 : ¬ (100 : Int) < (l.length : Int) := by omega
  by_cases n2 : 50 < more
  · clear hr
    go_enter Try.func6, Try.ntmps6
    go_wp2_with fail
    refine (turns_any _).mono ?_
    rintro e wz ⟨rfl, hb⟩
    have hA := hA.trans (hb.mono hA.size)
    go_wp2
    go_ret
    exact ⟨rfl, hA⟩
  by_cases n3 : more < -50
  · clear hr
    go_enter Try.func6, Try.ntmps6
    go_wp2_with fail
    refine (turns_any _).mono ?_
    rintro e wz ⟨rfl, hb⟩
    have hA := hA.trans (hb.mono hA.size)
    go_wp2
    go_ret
    exact ⟨rfl, hA⟩
  go_enter Try.func6, Try.ntmps6
  go_wp2_with fail
  have HS := Lib.hid (stretches_any c h aa ca l ⟨0, 0⟩ _ hr ⟨i64e 0, i64e 0⟩)
  refine HS.out.mono ?_
  rintro e w1 ⟨hW, hb⟩
  clear HS
  have hr := hr.mono (ext_of_below hb)
  have hA := hA.trans (hb.mono hA.size)
  clear hb
  rcases hW with ⟨h1, rfl⟩ | ⟨-, h1, -⟩ | ⟨H, -, vs, rfl, -⟩
  · clear hr
    obtain ⟨E, hE⟩ : ∃ E, chkM c h l = E := ⟨_, rfl⟩
    rw [hE] at h1 ⊢
    clear hE
    go_wp2_with fail
    refine (turns_any _).mono ?_
    rintro e wz ⟨rfl, hb⟩
    have hA := hA.trans (hb.mono hA.size)
    go_wp2
    go_ret
    exact ⟨rfl, hA⟩
  · exact absurd (show SpOk ⟨0, 0⟩ by unfold SpOk; decide) h1
  have HH := Lib.hid H
  have hc := (chkM_zero H).1
  clear H
  have HR := Lib.hid (fun V (hV : Below w1.heap.size w1 V) => hr.mono (ext_of_below hV))
  have HA1 := Lib.hid hA
  clear hr hA
  go_wp2_with fail
  go_loopw [15, 16] (fun mo i wr => ∃ k : Nat, k ≤ l.length ∧ i = .int .i64 k ∧ mo = .int .i64 (mostS c h l k) ∧ Below w1.heap.size w1 wr) (fun _ i _ => l.length - (intOf i).toNat)
  case atStart => exact ⟨0, Nat.zero_le _, rfl, rfl, Below.refl _ _⟩
  case round =>
    obtain ⟨k, hk, rfl, rfl, hB⟩ := hrel
    by_cases hlt : k < l.length
    · skip
      obtain ⟨D, N, Q, MO, hD, hN, hMO, hM1, hQ, bD, bN, bQ, bMO⟩ := steep_bd HH.out hlt
      rw [hMO]
      have HM1 := Lib.hid hM1
      have HQ := Lib.hid hQ
      clear hM1 hMO hQ
      obtain ⟨b, ob, rfl, hks⟩ := ks_at (HR.out _ hB) hlt
      have q00 := hks 0 (by omega)
      simp only [Nat.zero_mul, Nat.add_zero] at q00
      have qk := hks k hlt
      have i2 : (0 : Int) ≤ (k : Int) := Int.natCast_nonneg _
      have i3 : (k : Int) < (l.length : Int) := by omega
      have i4 : (0 : Int) < (l.length : Int) := by omega
      have i5 : 0 < l.length := by omega
      have zk := wrap_id ((k : Int) + 1) (by unfold I64; omega)
      have eA : lgA h l k = kt l k := by unfold lgA; rw [if_neg (by omega)]
      rw [eA] at hD hN
      have hLT := cell_lt q00.1
      simp only at hLT
      have HD0 := Lib.hid hD
      have HN0 := Lib.hid hN
      clear hD hN
      have hx := below_box wr (.cells #[.int .i64 c, .int .i64 (kt l 0).hi] 47)
      have hBx := Blk.new wr #[.int .i64 c, .int .i64 (kt l 0).hi] 47
      have s0 := ext_of_below hx _ _ q00.1
      have s1 := ext_of_below hx _ _ q00.2
      have s2 := ext_of_below hx _ _ qk.1
      have s3 := ext_of_below hx _ _ qk.2
      have r0 := q00.2
      have hxe := ext_of_below hx
      have hBW := hB.trans (hx.mono hB.size)
      have hsz := hB.size
      go_upto_region 11 with fail
      generalize hp : wr.heap.size = p at *
      generalize (wr.alloc (.cells #[.int .i64 c, .int .i64 (kt l 0).hi] 47)) = W at *
      clear q00 r0
      by_cases hl2 : k + 1 < l.length
      · skip
        have i6 : (k : Int) + 1 < (l.length : Int) := by omega
        have i7 : (0 : Int) ≤ (k : Int) + 1 := by omega
        have hpb : b ≠ p := by omega
        have hpw : w1.heap.size ≤ p := by omega
        have qn := hks (k + 1) hl2
        have eB : lgB c h l k = kt l (k + 1) := by unfold lgB; rw [if_pos hl2]
        have hD := HD0.out
        have hN := HN0.out
        rw [eB] at hD hN
        have s4 := hxe _ _ qn.1
        have s5 := hxe _ _ qn.2
        have g0 := hBx.cell 0 _ rfl
        have g1 := hBx.cell 1 _ rfl
        have g2 := hBx.frozen 0
        have g3 := hBx.frozen 1
        have hBy : Blk ((W.setCell ⟨p, 0, none⟩ (.int .i64 (kt l (k + 1)).lo)).setCell ⟨p, 1, none⟩ (.int .i64 (kt l (k + 1)).hi)) p #[.int .i64 (kt l (k + 1)).lo, .int .i64 (kt l (k + 1)).hi] 47 := by simpa using (hBx.set 0 (.int .i64 (kt l (k + 1)).lo)).set 1 (.int .i64 (kt l (k + 1)).hi)
        have HBY := Lib.hid hBy
        have HCL : Hid ((((W.setCell ⟨p, 0, none⟩ (.int .i64 (kt l (k + 1)).lo)).setCell ⟨p, 1, none⟩ (.int .i64 (kt l (k + 1)).hi)).cell? ⟨b, ob + k * 2, none⟩ = some (.int .i64 (kt l k).lo)) ∧ (((W.setCell ⟨p, 0, none⟩ (.int .i64 (kt l (k + 1)).lo)).setCell ⟨p, 1, none⟩ (.int .i64 (kt l (k + 1)).hi)).cell? ⟨b, ob + k * 2 + 1, none⟩ = some (.int .i64 (kt l k).hi))) := Lib.hid ⟨by rw [World.cell?_setCell_far _ _ _ _ (by simpa using Ne.symm hpb), World.cell?_setCell_far _ _ _ _ (by simpa using Ne.symm hpb)]; exact s2, by rw [World.cell?_setCell_far _ _ _ _ (by simpa using Ne.symm hpb), World.cell?_setCell_far _ _ _ _ (by simpa using Ne.symm hpb)]; exact s3⟩
        have HBF : Hid (Below w1.heap.size w1 ((W.setCell ⟨p, 0, none⟩ (.int .i64 (kt l (k + 1)).lo)).setCell ⟨p, 1, none⟩ (.int .i64 (kt l (k + 1)).hi))) := Lib.hid ((hBW.setCell (by simpa using hpw) _).setCell (by simpa using hpw) _)
        clear hBx hBy hB hx qk hks hxe hBW
        go_upto_region 13 with fail
        clear g0 g1 g2 g3 s0 s1 s2 s3 s4 s5
        generalize ((W.setCell ⟨p, 0, none⟩ (.int .i64 (kt l (k + 1)).lo)).setCell ⟨p, 1, none⟩ (.int .i64 (kt l (k + 1)).hi)) = W2 at *
        have g0 := HBY.out.cell 0 _ rfl
        have g1 := HBY.out.cell 1 _ rfl
        obtain ⟨s2, s3⟩ := HCL.out
        clear HCL HBY
        have zD := wrap_id ((kt l (k + 1)).hi - (kt l k).hi) (by rw [hD]; exact I64_of bD)
        rw [hD] at zD
        have zN := wrap_id ((kt l (k + 1)).lo - (kt l k).lo) (by rw [hN]; exact I64_of2 bN)
        rw [hN] at zN
        have hDD := hD
        have hNN := hN
        have nz : ¬ N = 0 := by omega
        by_cases sg : -D ≤ D
        · skip
          have zm := wrap_id (-D) (by unfold I64; omega)
          have z1 := wrap_id (D + N) (by unfold I64; omega)
          have z2 := wrap_id (D + N - 1) (by unfold I64; omega)
          have z3 : (D + N - 1).tdiv N = Q := by rw [Int.tdiv_eq_ediv_of_nonneg (by omega), ← HQ.out]; congr 1; omega
          have z4 := wrap_id Q (by unfold I64; omega)
          by_cases mx : Q ≤ MO
          · skip
            go_wp2_with fail
            go_quiet (fail)
            go_wp2_with fail
            go_quiet (fail)
            go_wp2
            go_roundw
            case rel => exact ⟨k + 1, by omega, by go_num, by rw [HM1.out]; congr 1; omega, HBF.out.trans ((bdrewN (Below.refl _ _)).mono HBF.out.size)⟩
            case measure => simp [intOf]; omega
          · skip
            go_wp2_with fail
            go_quiet (fail)
            go_wp2_with fail
            go_quiet (fail)
            go_wp2
            go_roundw
            case rel => exact ⟨k + 1, by omega, by go_num, by rw [HM1.out]; congr 1; omega, HBF.out.trans ((bdrewN (Below.refl _ _)).mono HBF.out.size)⟩
            case measure => simp [intOf]; omega
        · skip
          have zm := wrap_id (-D) (by unfold I64; omega)
          have z1 := wrap_id (-D + N) (by unfold I64; omega)
          have z2 := wrap_id (-D + N - 1) (by unfold I64; omega)
          have z3 : (-D + N - 1).tdiv N = Q := by rw [Int.tdiv_eq_ediv_of_nonneg (by omega), ← HQ.out]; congr 1; omega
          have z4 := wrap_id Q (by unfold I64; omega)
          by_cases mx : Q ≤ MO
          · skip
            go_wp2_with fail
            go_quiet (fail)
            go_wp2_with fail
            go_quiet (fail)
            go_wp2
            go_roundw
            case rel => exact ⟨k + 1, by omega, by go_num, by rw [HM1.out]; congr 1; omega, HBF.out.trans ((bdrewN (Below.refl _ _)).mono HBF.out.size)⟩
            case measure => simp [intOf]; omega
          · skip
            go_wp2_with fail
            go_quiet (fail)
            go_wp2_with fail
            go_quiet (fail)
            go_wp2
            go_roundw
            case rel => exact ⟨k + 1, by omega, by go_num, by rw [HM1.out]; congr 1; omega, HBF.out.trans ((bdrewN (Below.refl _ _)).mono HBF.out.size)⟩
            case measure => simp [intOf]; omega
      · skip
        have i6 : ¬ (k : Int) + 1 < (l.length : Int) := by omega
        have eB : lgB c h l k = ⟨c, (kt l 0).hi⟩ := by unfold lgB; rw [if_neg hl2, if_neg (by omega)]
        have hD := HD0.out
        have hN := HN0.out
        rw [eB] at hD hN
        simp only at hD hN
        have g0 := hBx.cell 0 _ rfl
        have g1 := hBx.cell 1 _ rfl
        have HBF : Hid (Below w1.heap.size w1 W) := Lib.hid hBW
        clear hBx hB hx qk hks hxe hBW
        have zD := wrap_id ((kt l 0).hi - (kt l k).hi) (by rw [hD]; exact I64_of bD)
        rw [hD] at zD
        have zN := wrap_id (c - (kt l k).lo) (by rw [hN]; exact I64_of2 bN)
        rw [hN] at zN
        have hDD := hD
        have hNN := hN
        have nz : ¬ N = 0 := by omega
        by_cases sg : -D ≤ D
        · skip
          have zm := wrap_id (-D) (by unfold I64; omega)
          have z1 := wrap_id (D + N) (by unfold I64; omega)
          have z2 := wrap_id (D + N - 1) (by unfold I64; omega)
          have z3 : (D + N - 1).tdiv N = Q := by rw [Int.tdiv_eq_ediv_of_nonneg (by omega), ← HQ.out]; congr 1; omega
          have z4 := wrap_id Q (by unfold I64; omega)
          by_cases mx : Q ≤ MO
          · skip
            go_wp2_with fail
            go_quiet (fail)
            go_wp2_with fail
            go_quiet (fail)
            go_wp2
            go_roundw
            case rel => exact ⟨k + 1, by omega, by go_num, by rw [HM1.out]; congr 1; omega, HBF.out.trans ((bdrewN (Below.refl _ _)).mono HBF.out.size)⟩
            case measure => simp [intOf]; omega
          · skip
            go_wp2_with fail
            go_quiet (fail)
            go_wp2_with fail
            go_quiet (fail)
            go_wp2
            go_roundw
            case rel => exact ⟨k + 1, by omega, by go_num, by rw [HM1.out]; congr 1; omega, HBF.out.trans ((bdrewN (Below.refl _ _)).mono HBF.out.size)⟩
            case measure => simp [intOf]; omega
        · skip
          have zm := wrap_id (-D) (by unfold I64; omega)
          have z1 := wrap_id (-D + N) (by unfold I64; omega)
          have z2 := wrap_id (-D + N - 1) (by unfold I64; omega)
          have z3 : (-D + N - 1).tdiv N = Q := by rw [Int.tdiv_eq_ediv_of_nonneg (by omega), ← HQ.out]; congr 1; omega
          have z4 := wrap_id Q (by unfold I64; omega)
          by_cases mx : Q ≤ MO
          · skip
            go_wp2_with fail
            go_quiet (fail)
            go_wp2_with fail
            go_quiet (fail)
            go_wp2
            go_roundw
            case rel => exact ⟨k + 1, by omega, by go_num, by rw [HM1.out]; congr 1; omega, HBF.out.trans ((bdrewN (Below.refl _ _)).mono HBF.out.size)⟩
            case measure => simp [intOf]; omega
          · skip
            go_wp2_with fail
            go_quiet (fail)
            go_wp2_with fail
            go_quiet (fail)
            go_wp2
            go_roundw
            case rel => exact ⟨k + 1, by omega, by go_num, by rw [HM1.out]; congr 1; omega, HBF.out.trans ((bdrewN (Below.refl _ _)).mono HBF.out.size)⟩
            case measure => simp [intOf]; omega
    · skip
      have hke : k = l.length := by omega
      subst hke
      have hm := (mostS_ok HH.out l.length (by unfold nL; omega)).1
      have hr := HR.out _ hB
      have hA := HA1.out.trans (hB.mono HA1.out.size)
      have HF := Lib.hid (fun (qn qd : Int) (hd : 1 ≤ qd ∧ qd ≤ 50) (hn : 0 ≤ qn ∧ qn < c * qd) (P Q : Rt) (hP : WhP c h l qd qn P) (hQ : WhP c h l qd ((qn + more * qd) % (c * qd)) Q) => even_fin (more := more) HH.out hd hn hP hQ)
      obtain ⟨MO, hMO⟩ : ∃ M, mostS c h l l.length = M := ⟨_, rfl⟩
      rw [hMO] at HF hm ⊢
      clear hMO hB HR HA1
      go_wp2_with fail
      refine (time4_any c num den _ hc hin hid).mono ?_
      rintro e w2 ⟨⟨M, D, hD, hM, rfl⟩, hb⟩
      have hr := hr.mono (ext_of_below hb)
      have hA := hA.trans (hb.mono hA.size)
      clear hb
      obtain ⟨hn, hd, hg⟩ := mk_time hc hD hM
      clear hD hM
      generalize (mk M D).n = qn at *
      generalize (mk M D).d = qd at *
      obtain ⟨cy1, cy2⟩ := in_cyc hc hd hn
      have hcd := cd_bd hc hd
      have mb := bd_mul (a := more) (b := qd) (A := 50) (B := 50) (by omega) (by omega) (by omega)
      have u1 := wrap_id (more * qd) (by unfold I64; omega)
      have u2 := wrap_id (qn + more * qd) (by unfold I64; omega)
      have u3 := wrap_id (c * qd) (by unfold I64; omega)
      have u4 := wrap_id (qn + c * qd) (by unfold I64; omega)
      have T1 : TimeOk qn qd := ⟨⟨hd.1, by omega, hg⟩, by omega⟩
      have T2 : TimeOk (qn + more * qd) qd := ⟨⟨hd.1, by omega, by rw [gI_add]; exact hg⟩, by omega⟩
      have T3 : TimeOk (qn + c * qd) qd := ⟨⟨hd.1, by omega, by rw [gI_add]; exact hg⟩, by omega⟩
      have hT := Blk.new w2 #[.int .i64 qn, .int .i64 qd] 24
      have hb := below_box w2 (.cells #[.int .i64 qn, .int .i64 qd] 24)
      have hr := hr.mono (ext_of_below hb)
      have hA := hA.trans (hb.mono hA.size)
      clear hb
      have t0 := hT.cell 0 _ rfl
      have t1 := hT.cell 1 _ rfl
      go_upto_region 17 with fail
      generalize (w2.alloc (.cells #[.int .i64 qn, .int .i64 qd] 24)) = w3 at *
      have hU := Blk.new w3 #[.int .i64 (qn + more * qd), .int .i64 qd] 24
      have hb := below_box w3 (.cells #[.int .i64 (qn + more * qd), .int .i64 qd] 24)
      have hr := hr.mono (ext_of_below hb)
      have hT := hT.below hb hT.lt
      have hA := hA.trans (hb.mono hA.size)
      clear hb
      go_upto_region 18 with fail
      generalize (w3.alloc (.cells #[.int .i64 (qn + more * qd), .int .i64 qd] 24)) = w4 at *
      clear t0 t1
      have t0 := hT.cell 0 _ rfl
      have t1 := hT.cell 1 _ rfl
      have hV := Blk.new w4 #[.int .i64 (qn + c * qd), .int .i64 qd] 24
      have hb := below_box w4 (.cells #[.int .i64 (qn + c * qd), .int .i64 qd] 24)
      have hT := hT.below hb hT.lt
      have hU := hU.below hb hU.lt
      have hr := hr.mono (ext_of_below hb)
      have hA := hA.trans (hb.mono hA.size)
      clear hb
      go_upto_region 19 with fail
      generalize (w4.alloc (.cells #[.int .i64 (qn + c * qd), .int .i64 qd] 24)) = y1 at *
      clear t0 t1
      have t0 := hT.cell 0 _ rfl
      have t1 := hT.cell 1 _ rfl
      go_wp2_with fail
      refine (where_any c h aa ca l qn qd _ hr (by unfold I64; omega)).mono ?_
      rintro e y2 ⟨hW, hb⟩
      obtain ⟨P, hP, rfl⟩ := where_ok HH.out T1 hW
      rw [cy1] at hP
      clear hW t0 t1
      have hT := hT.below hb hT.lt
      have hU := hU.below hb hU.lt
      have hV := hV.below hb hV.lt
      have hr := hr.mono (ext_of_below hb)
      have hA := hA.trans (hb.mono hA.size)
      clear hb
      have hbP := Blk.new y2 #[.int .i64 P.n, .int .i64 P.d] 24
      have hb := below_box y2 (.cells #[.int .i64 P.n, .int .i64 P.d] 24)
      have hT := hT.below hb hT.lt
      have hU := hU.below hb hU.lt
      have hV := hV.below hb hV.lt
      have hr := hr.mono (ext_of_below hb)
      have hA := hA.trans (hb.mono hA.size)
      clear hb
      go_upto_region 20 with fail
      generalize (y2.alloc (.cells #[.int .i64 P.n, .int .i64 P.d] 24)) = y3 at *
      have t0 := hU.cell 0 _ rfl
      have t1 := hU.cell 1 _ rfl
      go_wp2_with fail
      refine (where_any c h aa ca l (qn + more * qd) qd _ hr (by unfold I64; omega)).mono ?_
      rintro e y4 ⟨hW, hb⟩
      obtain ⟨Q, hQ, rfl⟩ := where_ok HH.out T2 hW
      clear hW t0 t1
      have hT := hT.below hb hT.lt
      have hU := hU.below hb hU.lt
      have hV := hV.below hb hV.lt
      have hbP := hbP.below hb hbP.lt
      have hr := hr.mono (ext_of_below hb)
      have hA := hA.trans (hb.mono hA.size)
      clear hb
      have hbQ := Blk.new y4 #[.int .i64 Q.n, .int .i64 Q.d] 24
      have hb := below_box y4 (.cells #[.int .i64 Q.n, .int .i64 Q.d] 24)
      have hT := hT.below hb hT.lt
      have hU := hU.below hb hU.lt
      have hV := hV.below hb hV.lt
      have hbP := hbP.below hb hbP.lt
      have hr := hr.mono (ext_of_below hb)
      have hA := hA.trans (hb.mono hA.size)
      clear hb
      go_upto_region 21 with fail
      generalize (y4.alloc (.cells #[.int .i64 Q.n, .int .i64 Q.d] 24)) = y5 at *
      have t0 := hV.cell 0 _ rfl
      have t1 := hV.cell 1 _ rfl
      go_wp2_with fail
      refine (where_any c h aa ca l (qn + c * qd) qd _ hr (by unfold I64; omega)).mono ?_
      rintro e y6 ⟨hW, hb⟩
      obtain ⟨S, hS, rfl⟩ := where_ok HH.out T3 hW
      rw [cy2] at hS
      clear hW t0 t1
      have hT := hT.below hb hT.lt
      have hU := hU.below hb hU.lt
      have hV := hV.below hb hV.lt
      have hbP := hbP.below hb hbP.lt
      have hbQ := hbQ.below hb hbQ.lt
      have hr := hr.mono (ext_of_below hb)
      have hA := hA.trans (hb.mono hA.size)
      clear hb
      have hbS := Blk.new y6 #[.int .i64 S.n, .int .i64 S.d] 24
      have hb := below_box y6 (.cells #[.int .i64 S.n, .int .i64 S.d] 24)
      have hT := hT.below hb hT.lt
      have hU := hU.below hb hU.lt
      have hV := hV.below hb hV.lt
      have hbP := hbP.below hb hbP.lt
      have hbQ := hbQ.below hb hbQ.lt
      have hr := hr.mono (ext_of_below hb)
      have hA := hA.trans (hb.mono hA.size)
      clear hb
      go_upto_region 22 with fail
      generalize (y6.alloc (.cells #[.int .i64 S.n, .int .i64 S.d] 24)) = y7 at *
      obtain rfl := hP.unique hS
      have hz := Int.emod_nonneg (qn + more * qd) (show c * qd ≠ 0 by omega)
      have hz2 := Int.emod_lt_of_pos (qn + more * qd) (show 0 < c * qd by omega)
      have b1 := hP.bd HH.out hd (by omega)
      have b2 := hQ.bd HH.out hd (by omega)
      obtain ⟨f1, f2⟩ := HF.out qn qd hd hn P Q hP hQ
      have nqq := fun V => neRv P.n P.d V
      have p0 := hbP.cell 0 _ rfl
      have p1 := hbP.cell 1 _ rfl
      have q0 := hbQ.cell 0 _ rfl
      have q1 := hbQ.cell 1 _ rfl
      have s0 := hbS.cell 0 _ rfl
      have s1 := hbS.cell 1 _ rfl
      have m1 := bd_mul (a := P.n) (b := Q.d) (A := 1000000000000) (B := 180000) (by omega) (by omega) (by omega)
      have m2 := bd_mul (a := Q.n) (b := P.d) (A := 1000000000000) (B := 180000) (by omega) (by omega) (by omega)
      have m3 := bd_mul (a := MO) (b := max more (-more)) (A := 1003600) (B := 50) (by omega) (by omega) (by omega)
      have m4 := bd_mul (a := MO * max more (-more)) (b := P.d) (A := 50180000) (B := 180000) (by omega) (by omega) (by omega)
      have m5 := bd_mul (a := MO * max more (-more) * P.d) (b := Q.d) (A := 9032400000000) (B := 180000) (by omega) (by omega) (by omega)
      have z1 := wrap_id (P.n * Q.d) (by unfold I64; omega)
      have z2 := wrap_id (Q.n * P.d) (by unfold I64; omega)
      have z3 := wrap_id (P.n * Q.d - Q.n * P.d) (by unfold I64; omega)
      obtain ⟨DD, hDD⟩ : ∃ D, P.n * Q.d - Q.n * P.d = D := ⟨_, rfl⟩
      have zn := wrap_id (-DD) (by unfold I64; omega)
      have zm := wrap_id (-more) (by unfold I64; omega)
      rw [hDD] at f1 f2 z3
      have HAA := Lib.hid hA
      have z5 := wrap_id (MO * max more (-more)) (by unfold I64; omega)
      have z6 := wrap_id (MO * max more (-more) * P.d) (by unfold I64; omega)
      have z7 := wrap_id (MO * max more (-more) * P.d * Q.d) (by unfold I64; omega)
      have sgn : (-more ≤ more ∧ max more (-more) = more) ∨ (¬ -more ≤ more ∧ max more (-more) = -more) := by omega
      clear hT hU hV hbP hbQ hbS hr hA HF b1 b2 m1 m2 m3 m4 m5 hz hz2 hP hQ hS T1 T2 T3 u1 u2 u3 u4 mb hcd cy1 cy2 hg hm
      rcases sgn with ⟨sm, em⟩ | ⟨sm, em⟩
      · skip
        rw [em] at z5 z6 z7 f1 f2
        clear em
        by_cases sd : -DD ≤ DD
        · skip
          go_wp2_with fail
          refine (turns_any _).mono ?_
          rintro e wz ⟨rfl, hb⟩
          have hA := HAA.out.trans (hb.mono HAA.out.size)
          go_wp2
          go_ret
          exact ⟨rfl, hA⟩
        · skip
          go_wp2_with fail
          refine (turns_any _).mono ?_
          rintro e wz ⟨rfl, hb⟩
          have hA := HAA.out.trans (hb.mono HAA.out.size)
          go_wp2
          go_ret
          exact ⟨rfl, hA⟩
      · skip
        rw [em] at z5 z6 z7 f1 f2
        clear em
        by_cases sd : -DD ≤ DD
        · skip
          go_wp2_with fail
          refine (turns_any _).mono ?_
          rintro e wz ⟨rfl, hb⟩
          have hA := HAA.out.trans (hb.mono HAA.out.size)
          go_wp2
          go_ret
          exact ⟨rfl, hA⟩
        · skip
          go_wp2_with fail
          refine (turns_any _).mono ?_
          rintro e wz ⟨rfl, hb⟩
          have hA := HAA.out.trans (hb.mono HAA.out.size)
          go_wp2
          go_ret
          exact ⟨rfl, hA⟩
end Go.Proofs.Ytnldenjdbgfgmaa
