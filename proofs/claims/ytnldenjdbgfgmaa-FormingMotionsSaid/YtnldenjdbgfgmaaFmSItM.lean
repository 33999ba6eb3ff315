/- The iterator over a path's stretches, where rounds may change what earlier ones made; no statement is proved here. -/
import Derived.Test.YtnldenjdbgfgmaaFmSIt
import Derived.Test.YtnldenjdbgfgmaaFmItM
namespace Go.Proofs.Ytnldenjdbgfgmaa
open Go.RowKit Go.PlainAid
set_option linter.unusedVariables false
set_option linter.unusedSimpArgs false
attribute [local go_sem] Oper.semAt_some

set_option maxHeartbeats 4000000 in
set_option maxRecDepth 100000 in
theorem strItM_any (S : Nat → Prop) (n : Nat) (c h : Int) (a : Option Addr) (cap : Nat) (l : List Sp) (s : Sp) (Bn Cn : Nat) (w : World)
    (hr : RSps (vis (fun k => ¬ S k) w) (.slice a l.length cap) l) (hc : chkM c h l = 0) (hs : I64 s.lo ∧ I64 s.hi) (hSB : ¬ S Bn) (hSC : ¬ S Cn) (hS : ∀ k, S k → k < w.heap.size)
    (hBn : Blk w Bn #[.int .i64 c, .int .i64 h, .slice a l.length cap] 55) (hCn : Blk w Cn #[.int .i64 s.lo, .int .i64 s.hi] 26) :
    SeqM 6 (fun j => j = 1 ∨ j = 2 ∨ j = 6) S Fence.wide n Try.prog 50 #[.pointer (some ⟨Bn, 0, none⟩), .pointer (some ⟨Cn, 0, none⟩)] (encS (strE c h l s)) w := by
  intro lp J Jx W hW hJ hJx hJT hY h0
  rw [encS_len]
  have hWs := hW.size
  have hB0 := hW.blk hBn hSB hBn.lt
  have hC0 := hW.blk hCn hSC hCn.lt
  have hBl := hBn.lt
  have hCl := hCn.lt
  have hB3 := ((hB0.alloc (.cells #[.func (.yield lp) #[] #[]] 86)).alloc (.cells #[.int .i64 0, .int .i64 0, .int .i64 0, .int .i64 0] 41)).alloc (.cells #[.bool false] 4)
  have b0 := hB3.cell 0 _ rfl
  have b1 := hB3.cell 1 _ rfl
  have b2 := hB3.cell 2 _ rfl
  have hBW : Bn < W.heap.size := by omega
  have HL := fun V => legs_any c h (.slice a l.length cap) V
  unfold ptV at HL
  refine callsIn_of_wp_marks Try.func50 rfl trivial ?_ rfl
  simp only [Try.ntmps50, List.size_toArray, List.length_cons, List.length_nil, Nat.reduceAdd, Nat.reduceSub, Array.replicate_succ, Array.replicate_zero, List.push_toArray, List.append_toArray, List.nil_append, List.cons_append]
  gi_wp2_with fail
  refine ⟨trivial, (fun hd => by simp [Fence.wide] at hd), callsIn_wide.2 ?_⟩
  refine (HL _).mono ?_
  rintro e w' ⟨rfl, hw'⟩
  obtain rfl := hw'.symm
  clear HL hw' b0 b1 b2 hB3
  have hA4 : Below W.heap.size W ((((W.alloc (.cells #[.func (.yield lp) #[] #[]] 86)).alloc (.cells #[.int .i64 0, .int .i64 0, .int .i64 0, .int .i64 0] 41)).alloc (.cells #[.bool false] 4)).alloc (.cells #[.int .i64 c, .int .i64 h, .slice a l.length cap] 55)) := (((below_box W _).alloc (by simp) _).alloc (by simp only [World.size_alloc]; omega) _).alloc (by simp only [World.size_alloc]; omega) _
  have hB4 := (((hB0.alloc (.cells #[.func (.yield lp) #[] #[]] 86)).alloc (.cells #[.int .i64 0, .int .i64 0, .int .i64 0, .int .i64 0] 41)).alloc (.cells #[.bool false] 4)).alloc (.cells #[.int .i64 c, .int .i64 h, .slice a l.length cap] 55)
  have hC4 := (((hC0.alloc (.cells #[.func (.yield lp) #[] #[]] 86)).alloc (.cells #[.int .i64 0, .int .i64 0, .int .i64 0, .int .i64 0] 41)).alloc (.cells #[.bool false] 4)).alloc (.cells #[.int .i64 c, .int .i64 h, .slice a l.length cap] 55)
  have hY4 := (((Blk.new W #[.func (.yield lp) #[] #[]] 86).alloc (.cells #[.int .i64 0, .int .i64 0, .int .i64 0, .int .i64 0] 41)).alloc (.cells #[.bool false] 4)).alloc (.cells #[.int .i64 c, .int .i64 h, .slice a l.length cap] 55)
  have hL4 := ((Blk.new (W.alloc (.cells #[.func (.yield lp) #[] #[]] 86)) #[.int .i64 0, .int .i64 0, .int .i64 0, .int .i64 0] 41).alloc (.cells #[.bool false] 4)).alloc (.cells #[.int .i64 c, .int .i64 h, .slice a l.length cap] 55)
  have hF4 := (Blk.new ((W.alloc (.cells #[.func (.yield lp) #[] #[]] 86)).alloc (.cells #[.int .i64 0, .int .i64 0, .int .i64 0, .int .i64 0] 41)) #[.bool false] 4).alloc (.cells #[.int .i64 c, .int .i64 h, .slice a l.length cap] 55)
  have hI4 := Blk.new (((W.alloc (.cells #[.func (.yield lp) #[] #[]] 86)).alloc (.cells #[.int .i64 0, .int .i64 0, .int .i64 0, .int .i64 0] 41)).alloc (.cells #[.bool false] 4)) #[.int .i64 c, .int .i64 h, .slice a l.length cap] 55
  have hz4 : ((((W.alloc (.cells #[.func (.yield lp) #[] #[]] 86)).alloc (.cells #[.int .i64 0, .int .i64 0, .int .i64 0, .int .i64 0] 41)).alloc (.cells #[.bool false] 4)).alloc (.cells #[.int .i64 c, .int .i64 h, .slice a l.length cap] 55)).heap.size = W.heap.size + 4 := by simp
  replace hz4 := And.intro (Nat.le_of_eq hz4) (Nat.le_of_eq hz4.symm)
  simp only [World.size_alloc] at hL4 hF4 hI4
  gi_wp2_with fail
  generalize ((((W.alloc (.cells #[.func (.yield lp) #[] #[]] 86)).alloc (.cells #[.int .i64 0, .int .i64 0, .int .i64 0, .int .i64 0] 41)).alloc (.cells #[.bool false] 4)).alloc (.cells #[.int .i64 c, .int .i64 h, .slice a l.length cap] 55)) = W4 at *
  have hr4 : RSps (vis (fun k => ¬ (S k ∨ k = W.heap.size + 1 ∨ k = W.heap.size + 1 + 1)) W4) (.slice a l.length cap) l := hr.mono (ext_vis (fun p x h1 h2 => by
    have hlt := cell_lt h2
    have h3 := hW.ext p x (vis_cell.2 ⟨h1, h2⟩)
    exact ⟨by rintro (h | h | h) <;> first | exact h1 h | omega, ext_of_below hA4 _ _ h3⟩))
  have hSp : ∀ k, (S k ∨ k = W.heap.size + 1 ∨ k = W.heap.size + 1 + 1) → k < W4.heap.size := by rintro k (h | h | h) <;> first | (have := hS k h; omega) | omega
  have hJ4 : J 0 0 W4 := ownf_below (hJ 0) h0 hA4
  have hCu4 : CurB W.heap.size W4 (runS c h l s 0).2 := ⟨hL4, hF4⟩
  refine wpIn_range_m 0 (fun j => j = 0) (fun k => S k ∨ k = W.heap.size + 1 ∨ k = W.heap.size + 1 + 1) rfl hSp (by simp [Fence.wide]) (gf := 61) (lb := #[.pointer (some ⟨W.heap.size + 1 + 1 + 1, 0, none⟩)]) rfl trivial (enters_of Try.func61 (by kernel_rfl) rfl)
    (legItM_any (fun k => S k ∨ k = W.heap.size + 1 ∨ k = W.heap.size + 1 + 1) Fence.wide _ trivial rfl rfl c h a cap l _ W4 hr4 (by rintro (h | h | h) <;> first | (have := hS _ h; omega) | omega) hSp hI4) (fun k x hx => by obtain ⟨_, rfl⟩ := encL_ix hx; rfl)
    (fun m k X => J m (runS c h l s k).1.length X ∧ CurB W.heap.size X (runS c h l s k).2 ∧ BelS (fun k => S k ∨ k = W.heap.size + 1 ∨ k = W.heap.size + 1 + 1) W4.heap.size W4 X ∧ m ≤ X.heap.size ∧ (0 < k → W.heap.size + 6 < X.heap.size))
    (fun cc X => cc = .ret ∧ Jx X)
    ?hI ?hIx ?hIT ⟨hJ4, hCu4, BelS.refl _ _ _, Nat.zero_le _, fun h => absurd h (by omega)⟩
    (fun x a' X => ∃ Bx vs, W4.heap.size ≤ Bx ∧ x = #[.agg vs] ∧ Blk X Bx vs 80 ∧ a' = { tmps := #[.func (.yield lp) #[] #[], .pointer (some ⟨Bn, 0, none⟩), .pointer (some ⟨Cn, 0, none⟩), .pointer (some ⟨W.heap.size, 0, none⟩), .pointer (some ⟨W.heap.size + 1, 0, none⟩), .pointer (some ⟨W.heap.size + 1 + 1, 0, none⟩), .pointer (some ⟨Bx, 0, none⟩), undef, undef, .agg #[.int .i64 c, .int .i64 h, .slice a l.length cap], .func (.func 61) #[] #[.pointer (some ⟨W.heap.size + 1 + 1 + 1, 0, none⟩)], .agg vs, undef, undef, undef, undef, undef, undef, undef, undef, undef, undef, undef, undef, undef, undef, undef, undef, undef, undef, undef, undef, undef, undef, undef, undef, undef, undef, undef, undef, undef, undef, undef], defers := [] })
    ?hAx ?assign ?body ?done ?stop
  case hI =>
    rintro m k X Y row ⟨h1, h2, h3, h4⟩ hg hr
    exact ⟨hJ m _ X Y row h1 hg (fun r e => ⟨by have := (hr r e).1; omega, (hr r e).2⟩), h2.own hg (fun r e => (hr r e).2), ownFrom_bel (β := Unit) (Nat.le_refl _) (Nat.le_refl _) () X Y row h3 hg hr, Nat.le_trans h4.1 hg.size, fun hk => Nat.lt_of_lt_of_le (h4.2 hk) hg.size⟩
  case hIx =>
    rintro cc k X Y row ⟨h0, h1⟩ hg hr
    exact ⟨h0, hJx () X Y row h1 hg (fun r e => ⟨by have := (hr r e).1; omega, (hr r e).2⟩)⟩
  case hIT =>
    rintro m k X p v ⟨h1, h2, h3, h4⟩ hp ho
    exact ⟨hJT m _ X p v h1 (by omega) (.inr (.inr (by omega))), h2.other p v (by omega) (by omega), h3.set p v (.inl (by omega)), by simpa using h4.1, fun hk => by simpa using h4.2 hk⟩
  case hAx =>
    rintro x a' k X Y row ⟨Bx, vs, h1, h2, h3, h4⟩ hg hr
    exact ⟨Bx, vs, h1, h2, (blk_own (β := Unit) Bx _ (fun _ => vs)) () X Y row h3 hg (fun r e => (hr r e).2), h4⟩
  case assign =>
    rintro j mm k x X K hx hXs hmX ⟨hJk, hCu, hBS, hSz⟩ hK
    obtain ⟨hk, rfl⟩ := encL_ix hx
    clear hx
    unfold lgV at hK ⊢
    have hXb := below_box X (.cells (lgC (lgA h l k) (lgB c h l k)) 80)
    have HJ := Lib.hid (ownf_below (hJ mm) hJk hXb)
    have HC := Lib.hid (hCu.below hXb)
    have HB := Lib.hid (hBS.trans (BelS.of_below (hXb.mono hBS.size)))
    have HS := Lib.hid (BelS.of_below (S := (fun k => S k ∨ k = W.heap.size + 1 ∨ k = W.heap.size + 1 + 1)) hXb)
    have HN := Lib.hid (Blk.new X (lgC (lgA h l k) (lgB c h l k)) 80)
    clear hJk hCu hBS hXb
    unfold lgC at HJ HC HB HS HN
    generalize lgA h l k = x at *
    generalize lgB c h l k = y at *
    gi_wp2
    exact hK _ _ HS.out ⟨HJ.out, HC.out, HB.out, Nat.le_trans hSz.1 (by simp), fun hk => Nat.lt_of_lt_of_le (hSz.2 hk) (by simp)⟩ ⟨X.heap.size, _, hXs, rfl, HN.out, rfl⟩
  case body =>
    rintro j mm k x a' X hx hXs hmX hpv ⟨hJk, hCu, hBS, -⟩ ⟨Bx, vs, hBx, he, hX, rfl⟩
    have hpv0 : W.heap.size + 6 < X.heap.size := by omega
    clear hpv
    obtain ⟨hk, rfl⟩ := encL_ix hx
    unfold lgV at he
    simp only [Array.mk.injEq, List.cons.injEq, and_true, Value.agg.injEq] at he
    subst he
    have hok := legOk_of hc hk
    have hCX := hBS.blk hC4 (by rintro (h | h | h) <;> first | exact hSC h | omega) (by omega)
    have hYX := hBS.blk hY4 (by rintro (h | h | h) <;> first | (have := hS _ h; omega) | omega) (by omega)
    have HI := fun V => inside_any (lgA h l k) (lgB c h l k) s V hok hs
    unfold lgV at HI
    obtain ⟨r, hrI⟩ : ∃ r, insF (lgA h l k) (lgB c h l k) s = r := ⟨_, rfl⟩
    obtain ⟨o, hro⟩ : ∃ o, (runS c h l s k).2 = o := ⟨_, rfl⟩
    obtain ⟨m, hm⟩ : ∃ m, (runS c h l s k).1.length = m := ⟨_, rfl⟩
    have HRN := Lib.hid (fun h0 : insF (lgA h l k) (lgB c h l k) s = none => runS_none h0)
    have HRF := Lib.hid (fun n (h0 : (runS c h l s k).2 = none) (h1 : insF (lgA h l k) (lgB c h l k) s = some n) => runS_first h0 h1)
    have HRJ := Lib.hid (fun p n (h0 : (runS c h l s k).2 = some p) (h1 : insF (lgA h l k) (lgB c h l k) s = some n) h2 => runS_join h0 h1 h2)
    have HRY := Lib.hid (fun p n (h0 : (runS c h l s k).2 = some p) (h1 : insF (lgA h l k) (lgB c h l k) s = some n) h2 => runS_yield hk h0 h1 h2)
    have hSN : ∀ q, W.heap.size ≤ q → ¬ S q := fun q hq x => by have := hS q x; omega
    rw [hrI] at HI HRN HRF HRJ HRY
    rw [hro] at hCu HRF HRJ HRY
    rw [hm] at hJk HRY
    generalize lgA h l k = xa at *
    generalize lgB c h l k = yb at *
    have e0 := hX.cell 0 _ rfl
    have e1 := hX.cell 1 _ rfl
    have e2 := hX.cell 2 _ rfl
    have e3 := hX.cell 3 _ rfl
    have d0 := hCX.cell 0 _ rfl
    have d1 := hCX.cell 1 _ rfl
    have HX := Lib.hid hX
    gi_wp2_with fail
    refine ⟨trivial, (fun hd => by simp [Fence.wide, Fence.inRound] at hd), (CallsIn.inRound j (callsIn_wide.2 (HI _))).mono ?_⟩
    rintro e X2 ⟨rfl, hb2⟩
    clear HI e0 e1 e2 e3 d0 d1 hX
    cases r with
    | none =>
      have hb3 := hb2.trans ((below_box X2 (.cells #[.int .i64 0, .int .i64 0, .int .i64 0, .int .i64 0] 41)).mono hb2.size)
      have HJ := Lib.hid (ownf_below (hJ mm) hJk hb3)
      have HC := Lib.hid (hCu.below hb3)
      have HB := Lib.hid (BelS.of_below (S := (fun b => (S b ∨ b = W.heap.size + 1 ∨ b = W.heap.size + 1 + 1) ∨ (W4.heap.size + 2 + 0 < b ∧ b < mm))) hb3)
      have HB2 := Lib.hid (hBS.trans (belM_down (N := W4.heap.size + 2) (c := 0) HB.out hXs (by omega)))
      have HR := Lib.hid (HRN.out rfl)
      clear hJk hCu hBS hb3 hb2 hCX hYX HX
      unfold insV stV
      gi_wp2
      refine ⟨HB.out, mm, (by have h9 := HB.out.size; simp at h9 ⊢; omega), ?_, ?_, HB2.out, (by have h9 := HB.out.size; simp at h9 ⊢; omega), (by have h9 := HB.out.size; simp at h9; omega)⟩
      · rw [HR.out, hm]; exact HJ.out
      · rw [HR.out, hro]; exact HC.out
    | some nx =>
      have hb3 := hb2.trans ((below_box X2 (.cells (cSt nx) 41)).mono hb2.size)
      have hJ3 := ownf_below (hJ mm) hJk hb3
      have hC3 := hCu.below hb3
      have hB3 : BelS (fun b => (S b ∨ b = W.heap.size + 1 ∨ b = W.heap.size + 1 + 1) ∨ (W4.heap.size + 2 + 0 < b ∧ b < mm)) X.heap.size X (X2.alloc (.cells (cSt nx) 41)) := BelS.of_below hb3
      have hN3 := Blk.new X2 (cSt nx) 41
      have hY3 := hYX.below hb3 hYX.lt
      have hz3 : X.heap.size ≤ X2.heap.size := hb2.size
      clear hJk hCu hb2 hCX hYX HX
      unfold insV stV
      unfold cSt at hb3 hJ3 hC3 hB3 hN3 hY3
      have n0 := hN3.cell 0 _ rfl
      have n1 := hN3.cell 1 _ rfl
      have n2 := hN3.cell 2 _ rfl
      have n3 := hN3.cell 3 _ rfl
      have y0 := hY3.cell 0 _ rfl
      cases o with
      | none =>
        obtain ⟨hL3, hF3⟩ := hC3
        unfold zSt at hL3
        have l0 := hL3.cell 0 _ rfl
        have l1 := hL3.cell 1 _ rfl
        have l2 := hL3.cell 2 _ rfl
        have l3 := hL3.cell 3 _ rfl
        have g0 := hL3.frozen 0
        have g1 := hL3.frozen 1
        have g2 := hL3.frozen 2
        have g3 := hL3.frozen 3
        have f0 := hF3.cell 0 _ rfl
        have f1 := hF3.frozen 0
        obtain ⟨HC, HJ, HB⟩ := putLast hL3 hF3 hB3 (.inl (.inr (.inl rfl))) (.inl (.inr (.inr rfl))) hJ3 (hJT mm) nx
        have HB2 := Lib.hid (hBS.trans (belM_down (N := W4.heap.size + 2) (c := 0) HB.out hXs (by omega)))
        have HR := Lib.hid (HRF.out nx rfl rfl)
        clear hL3 hF3 hB3 hJ3 hN3 hY3 hb3 hBS
        gi_wp2
        refine ⟨fun f e => (by cases e), ?_⟩
        gi_wp2
        refine ⟨HB.out, mm, (by have h9 := HB.out.size; simp at h9 ⊢; omega), ?_, ?_, HB2.out, (by have h9 := HB.out.size; simp at h9 ⊢; omega), (by have h9 := HB.out.size; simp at h9; omega)⟩
        · rw [HR.out]; show J _ (runS c h l s k).1.length _; rw [hm]; exact HJ.out
        · rw [HR.out]; exact HC.out
      | some p =>
        obtain ⟨hL3, hF3⟩ := hC3
        have f0 := hF3.cell 0 _ rfl
        have f1 := hF3.frozen 0
        have hEq := fun V => eql_ratio p.b.n p.b.d nx.a.n nx.a.d V
        by_cases hpn : p.b = nx.a
        · have hq : (p.b.n == nx.a.n && p.b.d == nx.a.d) = true := by rw [hpn]; simp
          rw [hq] at hEq
          obtain ⟨HC, HJ, HB⟩ := putJoin hL3 hF3 hB3 (.inl (.inr (.inl rfl))) hJ3 (hJT mm) nx.b
          have HB2 := Lib.hid (hBS.trans (belM_down (N := W4.heap.size + 2) (c := 0) HB.out hXs (by omega)))
          have HR := Lib.hid (HRJ.out p nx rfl rfl hpn)
          unfold cSt at hL3
          have l0 := hL3.cell 0 _ rfl
          have l1 := hL3.cell 1 _ rfl
          have l2 := hL3.cell 2 _ rfl
          have l3 := hL3.cell 3 _ rfl
          have g0 := hL3.frozen 0
          have g1 := hL3.frozen 1
          have g2 := hL3.frozen 2
          have g3 := hL3.frozen 3
          clear hL3 hF3 hB3 hJ3 hN3 hY3 hb3 hBS hpn hq
          gi_wp2
          refine ⟨HB.out, mm, (by have h9 := HB.out.size; simp at h9 ⊢; omega), ?_, ?_, HB2.out, (by have h9 := HB.out.size; simp at h9 ⊢; omega), (by have h9 := HB.out.size; simp at h9; omega)⟩
          · rw [HR.out]; show J _ (runS c h l s k).1.length _; rw [hm]; exact HJ.out
          · rw [HR.out]; exact HC.out
        · have hq : (p.b.n == nx.a.n && p.b.d == nx.a.d) = false := by
            cases hp1 : p.b; cases hn1 : nx.a
            rw [hp1, hn1] at hpn
            simp only [Rt.mk.injEq] at hpn
            simp only [Bool.and_eq_false_iff, beq_eq_false_iff_ne]
            omega
          rw [hq] at hEq
          obtain ⟨hy1, hy2⟩ := HRY.out p nx rfl rfl hpn
          have HR := Lib.hid hy2
          obtain ⟨fn, tmps, assign, bd, hy, hR⟩ := hY mm m _ _ (encS_at hy1) (by simp only [World.size_alloc]; omega) (by simp only [World.size_alloc]; omega) hJ3
          unfold stV at hy
          unfold cSt at hL3
          have l0 := hL3.cell 0 _ rfl
          have l1 := hL3.cell 1 _ rfl
          have l2 := hL3.cell 2 _ rfl
          have l3 := hL3.cell 3 _ rfl
          have g0 := hL3.frozen 0
          have g1 := hL3.frozen 1
          have g2 := hL3.frozen 2
          have g3 := hL3.frozen 3
          clear hpn hq hy1 hy2 HRY HRF HRJ HRN
          gi_wp2
          refine ⟨(fun hd => by simp [Fence.wide] at hd), (roundIn_wide hR).mono ?_⟩
          rintro e X4 (⟨rfl, ⟨m4, hm4, hJ4'⟩, hb4⟩ | ⟨rfl, hJx4, hk4⟩)
          · have hL4' := hb4.blk hL3 (by rintro (x | x) <;> first | exact hSN _ (by omega) x | omega) hL3.lt
            have hF4' := hb4.blk hF3 (by rintro (x | x) <;> first | exact hSN _ (by omega) x | omega) hF3.lt
            have hN4' := hb4.blk hN3 (by rintro (x | x) <;> first | exact hSN _ (by omega) x | omega) hN3.lt
            have hB4' := hB3.trans ((hb4.monoS (T := (fun b => (S b ∨ b = W.heap.size + 1 ∨ b = W.heap.size + 1 + 1) ∨ (W4.heap.size + 2 + 0 < b ∧ b < mm))) (by rintro q (x | x) <;> first | exact .inl (.inl x) | exact .inr ⟨by omega, x.2⟩)).mono hB3.size)
            clear n0 n1 n2 n3 y0 l0 l1 l2 l3 g0 g1 g2 g3 f0 f1 hy hR hEq
            have n0 := hN4'.cell 0 _ rfl
            have n1 := hN4'.cell 1 _ rfl
            have n2 := hN4'.cell 2 _ rfl
            have n3 := hN4'.cell 3 _ rfl
            have l0 := hL4'.cell 0 _ rfl
            have l1 := hL4'.cell 1 _ rfl
            have l2 := hL4'.cell 2 _ rfl
            have l3 := hL4'.cell 3 _ rfl
            have g0 := hL4'.frozen 0
            have g1 := hL4'.frozen 1
            have g2 := hL4'.frozen 2
            have g3 := hL4'.frozen 3
            have f0 := hF4'.cell 0 _ rfl
            have f1 := hF4'.frozen 0
            obtain ⟨HC, HJ, HB⟩ := putLast hL4' hF4' hB4' (.inl (.inr (.inl rfl))) (.inl (.inr (.inr rfl))) hJ4' (hJT m4) nx
            have HB2 := Lib.hid (hBS.trans (belM_down (N := W4.heap.size + 2) (c := 0) HB.out hXs (by omega)))
            clear hL4' hF4' hB4' hJ4' hN4' hL3 hF3 hB3 hJ3 hN3 hY3 hb3 hBS hb4
            gi_wp2
            refine ⟨HB.out, m4, (by have h9 := HB.out.size; simp at h9 ⊢; omega), ?_, ?_, HB2.out, (by have h9 := HB.out.size; simp at h9 ⊢; omega), (by have h9 := HB.out.size; simp at h9; omega)⟩
            · rw [HR.out]; show J _ ((runS c h l s k).1 ++ [p]).length _; rw [List.length_append, hm]; exact HJ.out
            · rw [HR.out]; exact HC.out
          · have HK := Lib.hid ((keeps_below hb3 (Nat.le_refl _)).trans (keeps_mono hk4 (show W.heap.size ≤ W4.heap.size by omega)))
            clear hy hR hEq hL3 hF3 hB3 hJ3 hN3 hY3 hb3 hBS hk4
            gi_wp2
            exact ⟨HK.out, hJx4⟩
  case stop =>
    rintro D cc X hD ⟨rfl, hx⟩ hKD
    have hx2 := hJx.putObj (s := ()) (.deferred none) hx (by omega) hKD rfl
    have HX := Lib.hid hx2
    clear hx hx2
    gi_wp2
    refine ⟨by simp, .inl ⟨_, _, rfl, run_takeDeferred hKD, ?_⟩⟩
    refine ⟨_, results_none rfl _ _ _, rfl, .inr HX.out⟩
  case done =>
    rintro D mm X hD ⟨hJk, hCu, hBS, hSz⟩ hKD
    replace hD := And.intro (Nat.le_of_eq hD) (Nat.le_of_eq hD.symm)
    have hSz0 : W.heap.size + 6 < X.heap.size := hSz.2 (by rw [encL_len]; unfold nL; omega)
    rw [encL_len] at hJk hCu
    have hDX : D < X.heap.size := (Array.getElem?_eq_some_iff.1 hKD).1
    have hYX := hBS.blk hY4 (by rintro (h | h | h) <;> first | (have := hS _ h; omega) | omega) (by omega)
    have y0 := hYX.cell 0 _ rfl
    obtain ⟨o, hro⟩ : ∃ o, (runS c h l s (nL l)).2 = o := ⟨_, rfl⟩
    have HSL := Lib.hid (fun p (h0 : (runS c h l s (nL l)).2 = some p) => strE_last h0)
    have HSN := Lib.hid (fun (h0 : (runS c h l s (nL l)).2 = none) => strE_none h0)
    rw [hro] at hCu HSL HSN
    generalize (runS c h l s (nL l)).1.length = m at *
    cases o with
    | none =>
      have f0 := hCu.2.cell 0 _ rfl
      have HX := Lib.hid (show J mm (strE c h l s).length (X.putObj D (.deferred none)) by rw [HSN.out rfl]; exact (hJ mm).putObj _ hJk (by omega) hKD rfl)
      clear hJk hBS hYX y0 hCu
      gi_wp2
      refine ⟨by simp, .inl ⟨_, _, rfl, run_takeDeferred hKD, ?_⟩⟩
      refine ⟨_, results_none rfl _ _ _, rfl, .inl ⟨_, HX.out⟩⟩
    | some p =>
      have f0 := hCu.2.cell 0 _ rfl
      have hL := hCu.1
      unfold cSt at hL
      have l0 := hL.cell 0 _ rfl
      have l1 := hL.cell 1 _ rfl
      have l2 := hL.cell 2 _ rfl
      have l3 := hL.cell 3 _ rfl
      obtain ⟨hs1, hs2⟩ := HSL.out p rfl
      obtain ⟨fn, tmps, assign, bd, hy, hR⟩ := hY mm m _ _ (encS_at hs1) hSz.1 (by omega) hJk
      unfold stV at hy
      rw [← hs2] at hR
      clear HSL HSN hs1 hs2 hL hCu hYX hJk
      gi_wp2
      refine ⟨(fun hd => by simp [Fence.wide] at hd), RoundIn.mono ⟨hR.1, fun c cs _ => hR.2 c cs (room_wide _)⟩ ?_⟩
      rintro e X4 (⟨rfl, ⟨m4, -, hJ4'⟩, hb4⟩ | ⟨rfl, hJx4, hk4⟩)
      · have hKD4 : X4.heap[D]? = some (.deferred (some [])) := (hb4.block D hDX (by rintro (x | x) <;> first | (have := hS _ x; omega) | omega)).trans hKD
        have HX := Lib.hid ((hJ m4).putObj (.deferred none) hJ4' (by omega) hKD4 rfl)
        clear hJ4' hy hR hb4
        gi_wp2
        refine ⟨by simp, .inl ⟨_, _, rfl, run_takeDeferred hKD4, ?_⟩⟩
        refine ⟨_, results_none rfl _ _ _, rfl, .inl ⟨_, HX.out⟩⟩
      · have hKD4 : X4.heap[D]? = some (.deferred (some [])) := hk4.same D _ (by omega) hKD rfl
        have HX := Lib.hid (hJx.putObj (s := ()) (.deferred none) hJx4 (by omega) hKD4 rfl)
        clear hJx4 hy hR hk4
        gi_wp2
        refine ⟨by simp, .inl ⟨_, _, rfl, run_takeDeferred hKD4, ?_⟩⟩
        refine ⟨_, results_none rfl _ _ _, rfl, .inr HX.out⟩
end Go.Proofs.Ytnldenjdbgfgmaa
