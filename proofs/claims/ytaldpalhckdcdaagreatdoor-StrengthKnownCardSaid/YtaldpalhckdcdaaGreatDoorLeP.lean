/- How long a lehr is hot, how fast it cools: the program's own; no statement is proved here. -/
import Derived.Test.YtaldpalhckdcdaaGreatDoorLeQ
import Derived.Test.YtaldpalhckdcdaaGreatDoorLeIt
import Derived.Test.YtaldpalhckdcdaaGreatDoorRingIt
import Derived.Test.YtaldpalhckdcdaaGreatDoorWall
namespace Go.Proofs.YtaldpalhckdcdaaGreatDoor
open Go.RowKit Go.PlainAid
set_option linter.unusedVariables false
set_option linter.unusedSimpArgs false
attribute [local go_sem] Oper.semAt_some
theorem pcV_eq (x y : Sp) : pcV x y = .agg #[.int .i64 x.lo, .int .i64 x.hi, .int .i64 y.lo, .int .i64 y.hi] := rfl

set_option maxHeartbeats 4000000 in
set_option maxRecDepth 100000 in
theorem heldF_any (a : Option Addr) (cap : Nat) (l : Lr) (t : Int) (w : World) (h : RLr w (.agg #[.slice a l.knees.length cap, .int .i64 l.factor]) l) (hok : OkLr l) (ht : 0 ≤ t ∧ t ≤ 10000) :
    Calls Tryz.prog 51 #[.agg #[.slice a l.knees.length cap, .int .i64 l.factor], .int .i64 t] w fun e w' => e = .returned (.int .i64 (heldL l t)) ∧ Below w.heap.size w w' := by
  obtain ⟨v1, he, hr, hI⟩ := h
  cases he
  have hmo := hok.most
  have hle := hok.least
  have hA : Below w.heap.size w (((w.alloc (.cells #[.slice a l.knees.length cap, .int .i64 l.factor] 44)).alloc (.cells #[.int .i64 t] 3)).alloc (.cells #[.int .i64 0] 3)) := (((below_boxS w _).alloc (by simp) _).alloc (by simp only [World.size_alloc]; omega) _)
  have hB := (((Blk.new w #[.slice a l.knees.length cap, .int .i64 l.factor] 44).alloc (.cells #[.int .i64 t] 3)).alloc (.cells #[.int .i64 0] 3))
  refine (callsIn_wide (n := 9)).1 ?_
  refine callsIn_of_wp_marks Tryz.func51 rfl trivial ?_ rfl
  simp only [Tryz.ntmps51, List.size_toArray, List.length_cons, List.length_nil, Nat.reduceAdd, Nat.reduceSub, Array.replicate_succ, Array.replicate_zero, List.push_toArray, List.append_toArray, List.nil_append, List.cons_append]
  have c0 := hB.cell 0 _ rfl
  have c1 := hB.cell 1 _ rfl
  gi_wp2_with fail
  refine ⟨trivial, callsIn_wide.2 ?_⟩
  refine (calls_p (pieces_in (.slice a l.knees.length cap) l _ 9)).mono ?_
  rintro e w' ⟨rfl, hw'⟩
  obtain rfl := hw'.symm
  clear hw'
  have hA4 : Below w.heap.size w ((((w.alloc (.cells #[.slice a l.knees.length cap, .int .i64 l.factor] 44)).alloc (.cells #[.int .i64 t] 3)).alloc (.cells #[.int .i64 0] 3)).alloc (.cells #[.slice a l.knees.length cap, .int .i64 l.factor] 44)) := hA.alloc hA.size _
  have hB4 := ((((Blk.new w #[.slice a l.knees.length cap, .int .i64 l.factor] 44).alloc (.cells #[.int .i64 t] 3)).alloc (.cells #[.int .i64 0] 3)).alloc (.cells #[.slice a l.knees.length cap, .int .i64 l.factor] 44))
  have hT4 := (((Blk.new (w.alloc (.cells #[.slice a l.knees.length cap, .int .i64 l.factor] 44)) #[.int .i64 t] 3).alloc (.cells #[.int .i64 0] 3)).alloc (.cells #[.slice a l.knees.length cap, .int .i64 l.factor] 44))
  have hM4 := ((Blk.new ((w.alloc (.cells #[.slice a l.knees.length cap, .int .i64 l.factor] 44)).alloc (.cells #[.int .i64 t] 3)) #[.int .i64 0] 3).alloc (.cells #[.slice a l.knees.length cap, .int .i64 l.factor] 44))
  have hI4 := (Blk.new (((w.alloc (.cells #[.slice a l.knees.length cap, .int .i64 l.factor] 44)).alloc (.cells #[.int .i64 t] 3)).alloc (.cells #[.int .i64 0] 3)) #[.slice a l.knees.length cap, .int .i64 l.factor] 44)
  have hz : ((((w.alloc (.cells #[.slice a l.knees.length cap, .int .i64 l.factor] 44)).alloc (.cells #[.int .i64 t] 3)).alloc (.cells #[.int .i64 0] 3)).alloc (.cells #[.slice a l.knees.length cap, .int .i64 l.factor] 44)).heap.size = w.heap.size + 4 := by simp
  replace hz := And.intro (Nat.le_of_eq hz) (Nat.le_of_eq hz.symm)
  simp only [World.size_alloc] at hT4 hM4 hI4
  clear c0 c1 hA hB
  gi_wp2_with fail
  generalize ((((w.alloc (.cells #[.slice a l.knees.length cap, .int .i64 l.factor] 44)).alloc (.cells #[.int .i64 t] 3)).alloc (.cells #[.int .i64 0] 3)).alloc (.cells #[.slice a l.knees.length cap, .int .i64 l.factor] 44)) = W4 at *
  have hr4 : RSps (vis (fun k => ¬ k = w.heap.size + 1 + 1) W4) (.slice a l.knees.length cap) l.knees := hr.mono (ext_vis_all (ext_of_below hA4) (fun k hk => by omega))
  refine wpIn_range_p (fun k => k = w.heap.size + 1 + 1) rfl (by simp [Fence.wide]) (gf := 101) (lb := #[.pointer (some ⟨w.heap.size + 1 + 1 + 1, 0, none⟩)]) rfl trivial (enters_of Tryz.func101 (by kernel_rfl) rfl)
    (pieceIt_any _ Fence.wide _ trivial rfl rfl _ l _ W4 hle hr4 (by omega) hI4) (fun k x hx => by obtain ⟨_, rfl⟩ := encP_ix hx; rfl)
    (fun k W => Blk W (w.heap.size + 1 + 1) #[.int .i64 (heldK l.knees t k)] 3 ∧ BelS (fun k => k = w.heap.size + 1 + 1) W4.heap.size W4 W ∧ Below w.heap.size w W)
    (fun _ _ => False) (fun _ _ => False)
    (OwnFrom.and (Own.from (blk_own _ _ _) _) (OwnFrom.and (ownFrom_bel (Nat.le_refl _) (Nat.le_refl _)) (ownFrom_below (Nat.le_refl _) (by omega))))
    (fun _ _ _ _ _ hs _ _ => hs.elim) (fun _ _ _ _ h => h.elim) ⟨hM4, BelS.refl _ _ _, hA4⟩
    (fun x a' W => ∃ Bx vs, W4.heap.size ≤ Bx ∧ x = #[.agg vs] ∧ Blk W Bx vs 128 ∧ a' = { tmps := #[.agg #[.slice a l.knees.length cap, .int .i64 l.factor], .int .i64 t, .pointer (some ⟨w.heap.size, 0, none⟩), .pointer (some ⟨w.heap.size + 1, 0, none⟩), .int .i64 0, .pointer (some ⟨w.heap.size + 1 + 1, 0, none⟩), .pointer (some ⟨Bx, 0, none⟩), .agg #[.slice a l.knees.length cap, .int .i64 l.factor], .func (.func 101) #[] #[.pointer (some ⟨w.heap.size + 1 + 1 + 1, 0, none⟩)], .agg vs, undef, undef, undef, undef, undef, undef], defers := [] })
    (fun x a' s' X Y row hs hg hr => by
      obtain ⟨Bx, vs, h1, h2, h3, h4⟩ := hs
      exact ⟨Bx, vs, h1, h2, (blk_own (β := Unit) Bx _ (fun _ => vs)) () X Y row h3 hg (fun r e => (hr r e).2), h4⟩)
    ?assign ?body ?done ?stop ?panic
  case panic => exact fun D ch W _ h => h.elim
  case stop => exact fun D c W _ h => h.elim
  case assign =>
    rintro j k x W K hx hWs ⟨hRk, hBS, hBel⟩ hK
    obtain ⟨hk, rfl⟩ := encP_ix hx
    clear hx
    simp only [pcV] at hK ⊢
    generalize kn l.knees k = x at *
    generalize kn l.knees (k + 1) = y at *
    have hsW : W4.heap.size ≤ W.heap.size := hWs
    gi_wp2
    exact hK _ _ ((KeepsOthers.alloc _ _).from _) (BelS.of_below ((below_boxS W _).mono hsW)) ⟨hRk.alloc _, hBS.trans (BelS.of_below ((below_boxS W _).mono hsW)), hBel.alloc hBel.size _⟩ ⟨W.heap.size, _, hsW, rfl, Blk.new _ _ _, rfl⟩
  case body =>
    rintro j k x a' W hx hWs ⟨hRk, hBS, hBel⟩ ⟨Bx, vs, hBx, he, hX, rfl⟩
    obtain ⟨hk, rfl⟩ := encP_ix hx
    simp only [pcV, Array.mk.injEq, List.cons.injEq, and_true, Value.agg.injEq] at he
    subst he
    have hpo := pOk_of (hok.piece hk)
    have hst : heldK l.knees t (k + 1) = heldK l.knees t k + heldP l.knees t k := rfl
    have hbd := heldK_bd hok t k (by omega)
    have hbd2 := heldP_bd (temp := t) (hok.piece hk)
    have hm2 := (hok.piece hk).m2
    have hph := fun V => pheld_any (kn l.knees k) (kn l.knees (k + 1)) t V hpo ht
    have hTb := hBS.blk hT4 (by omega) (by omega)
    rw [heldQ_eq] at hph
    have lX := hX.lt
    have lR := hRk.lt
    have lT := hTb.lt
    clear hx hpo
    generalize kn l.knees k = x at *
    generalize kn l.knees (k + 1) = y at *
    generalize heldP l.knees t k = q at *
    generalize heldK l.knees t k = s at *
    have x0 := hX.cell 0 _ rfl
    have x1 := hX.cell 1 _ rfl
    have x2 := hX.cell 2 _ rfl
    have x3 := hX.cell 3 _ rfl
    have t0 := hTb.cell 0 _ rfl
    have m0 := hRk.cell 0 _ rfl
    have z := (IntWalk.i64_in (s + q) (by omega))
    have D0 : Below W.heap.size W W.drew := (Below.refl _ _).drew
    have HSV : Hid (∀ V, Below W.heap.size W V → (fun w' : World => w'.cell? ⟨w.heap.size + 1 + 1, 0, none⟩ = some (.int .i64 s) ∧ w'.cell? ⟨w.heap.size + 1, 0, none⟩ = some (.int .i64 t) ∧ w'.cell? ⟨Bx, 0, none⟩ = some (.int .i64 x.lo) ∧ w'.cell? ⟨Bx, 1, none⟩ = some (.int .i64 x.hi) ∧ w'.cell? ⟨Bx, 2, none⟩ = some (.int .i64 y.lo) ∧ w'.cell? ⟨Bx, 3, none⟩ = some (.int .i64 y.hi)) V) := Lib.hid (fun V hV => ⟨ext_of_below hV _ _ m0, ext_of_below hV _ _ t0, ext_of_below hV _ _ x0, ext_of_below hV _ _ x1, ext_of_below hV _ _ x2, ext_of_below hV _ _ x3⟩)
    have HST := Lib.hid hst
    clear hst x0 x1 x2 x3 t0 m0
    gi_wp2_with fail
    refine wpIn_region_till (fun w' : World => w'.cell? ⟨w.heap.size + 1 + 1, 0, none⟩ = some (.int .i64 s) ∧ w'.cell? ⟨w.heap.size + 1, 0, none⟩ = some (.int .i64 t) ∧ w'.cell? ⟨Bx, 0, none⟩ = some (.int .i64 x.lo) ∧ w'.cell? ⟨Bx, 1, none⟩ = some (.int .i64 x.hi) ∧ w'.cell? ⟨Bx, 2, none⟩ = some (.int .i64 y.lo) ∧ w'.cell? ⟨Bx, 3, none⟩ = some (.int .i64 y.hi)) 5 (by kernel_rfl) (by kernel_rfl) (fun ⟨_, _, h⟩ => h) (HSV.out _ D0) (fun hHeld => ?_)
    refine Till.take 0 (some 10) (v := ?_) rfl rfl (by kernel_rfl) (by kernel_rfl) (by kernel_rfl) (by kernel_rfl) (fun _ _ _ h => h) (Or.inl ⟨by rfl, ?_⟩) (by assumption) ?_
    rotate_left
    · (intro w hSw; (try dsimp only at hSw); go_simp; try with_reducible rfl)
    try simp only [Act.put, List.setIfInBounds_toArray, List.set_cons_zero, List.set_cons_succ]
    refine Till.take 1 (some 11) (v := ?_) rfl rfl (by kernel_rfl) (by kernel_rfl) (by kernel_rfl) (by kernel_rfl) (fun _ _ _ h => h) (Or.inl ⟨by rfl, ?_⟩) (by assumption) ?_
    rotate_left
    · (intro w hSw; (try dsimp only at hSw); go_simp; try with_reducible rfl)
    try simp only [Act.put, List.setIfInBounds_toArray, List.set_cons_zero, List.set_cons_succ]
    refine Till.take 2 (some 12) (v := ?_) rfl rfl (by kernel_rfl) (by kernel_rfl) (by kernel_rfl) (by kernel_rfl) (fun _ _ _ h => h) (Or.inl ⟨by rfl, ?_⟩) (by assumption) ?_
    rotate_left
    · (intro w hSw; (try dsimp only at hSw); go_simp; try with_reducible rfl)
    try simp only [Act.put, List.setIfInBounds_toArray, List.set_cons_zero, List.set_cons_succ]
    refine Till.one 3 rfl (by kernel_rfl) (fun K hK => ?_)
    go_simp
    go_at_call 89
    refine (hph _).mono ?_
    rintro e8 w8 ⟨rfl, hb8⟩
    have D1 := D0.trans (hb8.mono D0.size)
    have hh := HSV.out _ D1
    refine hK.out _ _ (fun _ => hh) (fun hHeld2 => ?_)
    clear hK K hph hb8
    try simp only [Act.put, List.setIfInBounds_toArray, List.set_cons_zero, List.set_cons_succ]
    refine Till.take 4 (some 14) (v := ?_) rfl rfl (by kernel_rfl) (by kernel_rfl) (by kernel_rfl) (by kernel_rfl) (fun _ _ _ h => h) (Or.inl ⟨by rfl, ?_⟩) (by assumption) ?_
    rotate_left
    · (intro w hSw; (try dsimp only at hSw); go_simp; try with_reducible rfl)
    try simp only [Act.put, List.setIfInBounds_toArray, List.set_cons_zero, List.set_cons_succ]
    have hR8 := hRk.below D1 lR
    have m0 := hR8.cell 0 _ rfl
    have f0 := hR8.frozen 0
    have HR : Hid (Blk (w8.setCell ⟨w.heap.size + 1 + 1, 0, none⟩ (.int .i64 (s + q))) (w.heap.size + 1 + 1) #[.int .i64 (s + q)] 3) := Lib.hid (by simpa using hR8.set 0 (.int .i64 (s + q)))
    have HB := Lib.hid ((hBel.trans (D1.mono hBel.size)).setCell (p := ⟨w.heap.size + 1 + 1, 0, none⟩) (by simp only; omega) (.int .i64 (s + q)))
    have HK : Hid (KeepsFrom W4.heap.size W (w8.setCell ⟨w.heap.size + 1 + 1, 0, none⟩ (.int .i64 (s + q)))) := Lib.hid ((keeps_below D1 (Nat.le_refl _)).trans ((KeepsOthers.setCell _ _ _).from _))
    have HS : Hid (BelS (fun k => k = w.heap.size + 1 + 1) W4.heap.size W (w8.setCell ⟨w.heap.size + 1 + 1, 0, none⟩ (.int .i64 (s + q)))) := Lib.hid (BelS.set (S := fun k => k = w.heap.size + 1 + 1) (BelS.of_below (D1.mono hWs)) ⟨w.heap.size + 1 + 1, 0, none⟩ _ (.inr rfl))
    have HS2 : Hid (BelS (fun k => k = w.heap.size + 1 + 1) W4.heap.size W4 (w8.setCell ⟨w.heap.size + 1 + 1, 0, none⟩ (.int .i64 (s + q)))) := Lib.hid (BelS.trans hBS HS.out)
    clear hh hHeld hHeld2 D0 D1 hRk hBel hBS HSV hr4 hr hI4 hB4 hT4 hM4 hA4 hR8 hX hTb
    refine Till.one 5 rfl (by kernel_rfl) (fun K hK => ?_)
    go_simp
    refine hK.out _ _ (fun h => absurd rfl h) (fun _ => ?_)
    clear hK K
    refine Till.done (by kernel_rfl) ?_ _
    gi_wp2
    refine ⟨HK.out, HS.out, ?_, HS2.out, HB.out⟩
    rw [HST.out]
    exact HR.out
  case done =>
    rintro D W hD ⟨hRk, hBS, hBel⟩ hKD
    rw [encP_len] at hRk
    have lR := hRk.lt
    have d0 := hRk.cell 0 _ rfl
    have HL : Hid (heldL l t = heldK l.knees t (l.knees.length - 1)) := Lib.hid rfl
    have hPD := Lib.hid (hBel.trans (belowK_b (w := w) (Nat.le_refl _) W D _ (.deferred none) (by omega) hKD rfl rfl))
    generalize heldK l.knees t (l.knees.length - 1) = s at *
    clear hRk hBS hBel hr4 hr hI4 hB4 hT4 hM4 hA4
    gi_wp2
    refine ⟨by simp, .inl ⟨_, _, rfl, run_takeDeferred hKD, ?_⟩⟩
    refine ⟨_, results_tmp rfl _ _ _, ?_, hPD.out⟩
    rw [HL.out]
    rfl

theorem prod_bd {f d : Int} (hf : -10000 ≤ f ∧ f ≤ 10000) (hd : 0 ≤ d ∧ d ≤ 2000) : -20000000 ≤ f * d ∧ f * d ≤ 20000000 := by
  have h1 := Int.mul_le_mul_of_nonneg_right hf.1 hd.1
  have h2 := Int.mul_le_mul_of_nonneg_right hf.2 hd.1
  omega

set_option maxHeartbeats 4000000 in
set_option maxRecDepth 100000 in
theorem steepestF_any (a : Option Addr) (cap : Nat) (l : Lr) (t : Sp) (w : World) (h : RLr w (.agg #[.slice a l.knees.length cap, .int .i64 l.factor]) l) (hok : OkLr l) :
    Calls Tryz.prog 45 #[.agg #[.slice a l.knees.length cap, .int .i64 l.factor], .agg #[.int .i64 t.lo, .int .i64 t.hi]] w fun e w' => e = .returned (.agg #[.int .i64 (steepL l t).1, .int .i64 (steepL l t).2]) ∧ Below w.heap.size w w' := by
  obtain ⟨v1, he, hr, hI⟩ := h
  cases he
  have hmo := hok.most
  have hle := hok.least
  have hA : Below w.heap.size w ((((w.alloc (.cells #[.slice a l.knees.length cap, .int .i64 l.factor] 44)).alloc (.cells #[.int .i64 t.lo, .int .i64 t.hi] 27)).alloc (.cells #[.int .i64 0, .int .i64 0] 96)).alloc (.cells #[.int .i64 0, .int .i64 1] 96)) := ((((below_boxS w _).alloc (by simp) _).alloc (by simp only [World.size_alloc]; omega) _).alloc (by simp only [World.size_alloc]; omega) _)
  have hB := ((((Blk.new w #[.slice a l.knees.length cap, .int .i64 l.factor] 44).alloc (.cells #[.int .i64 t.lo, .int .i64 t.hi] 27)).alloc (.cells #[.int .i64 0, .int .i64 0] 96)).alloc (.cells #[.int .i64 0, .int .i64 1] 96))
  refine (callsIn_wide (n := 9)).1 ?_
  refine callsIn_of_wp_marks Tryz.func45 rfl trivial ?_ rfl
  simp only [Tryz.ntmps45, List.size_toArray, List.length_cons, List.length_nil, Nat.reduceAdd, Nat.reduceSub, Array.replicate_succ, Array.replicate_zero, List.push_toArray, List.append_toArray, List.nil_append, List.cons_append]
  have c0 := hB.cell 0 _ rfl
  have c1 := hB.cell 1 _ rfl
  gi_wp2_with fail
  refine ⟨trivial, callsIn_wide.2 ?_⟩
  refine (calls_p (pieces_in (.slice a l.knees.length cap) l _ 9)).mono ?_
  rintro e w' ⟨rfl, hw'⟩
  obtain rfl := hw'.symm
  clear hw'
  have hA5 : Below w.heap.size w (((((w.alloc (.cells #[.slice a l.knees.length cap, .int .i64 l.factor] 44)).alloc (.cells #[.int .i64 t.lo, .int .i64 t.hi] 27)).alloc (.cells #[.int .i64 0, .int .i64 0] 96)).alloc (.cells #[.int .i64 0, .int .i64 1] 96)).alloc (.cells #[.slice a l.knees.length cap, .int .i64 l.factor] 44)) := hA.alloc hA.size _
  have hB5 := (((((Blk.new w #[.slice a l.knees.length cap, .int .i64 l.factor] 44).alloc (.cells #[.int .i64 t.lo, .int .i64 t.hi] 27)).alloc (.cells #[.int .i64 0, .int .i64 0] 96)).alloc (.cells #[.int .i64 0, .int .i64 1] 96)).alloc (.cells #[.slice a l.knees.length cap, .int .i64 l.factor] 44))
  have hT5 := ((((Blk.new (w.alloc (.cells #[.slice a l.knees.length cap, .int .i64 l.factor] 44)) #[.int .i64 t.lo, .int .i64 t.hi] 27).alloc (.cells #[.int .i64 0, .int .i64 0] 96)).alloc (.cells #[.int .i64 0, .int .i64 1] 96)).alloc (.cells #[.slice a l.knees.length cap, .int .i64 l.factor] 44))
  have hO5 := (((Blk.new ((w.alloc (.cells #[.slice a l.knees.length cap, .int .i64 l.factor] 44)).alloc (.cells #[.int .i64 t.lo, .int .i64 t.hi] 27)) #[.int .i64 0, .int .i64 0] 96).alloc (.cells #[.int .i64 0, .int .i64 1] 96)).alloc (.cells #[.slice a l.knees.length cap, .int .i64 l.factor] 44))
  have hM5 := ((Blk.new (((w.alloc (.cells #[.slice a l.knees.length cap, .int .i64 l.factor] 44)).alloc (.cells #[.int .i64 t.lo, .int .i64 t.hi] 27)).alloc (.cells #[.int .i64 0, .int .i64 0] 96)) #[.int .i64 0, .int .i64 1] 96).alloc (.cells #[.slice a l.knees.length cap, .int .i64 l.factor] 44))
  have hI5 := (Blk.new ((((w.alloc (.cells #[.slice a l.knees.length cap, .int .i64 l.factor] 44)).alloc (.cells #[.int .i64 t.lo, .int .i64 t.hi] 27)).alloc (.cells #[.int .i64 0, .int .i64 0] 96)).alloc (.cells #[.int .i64 0, .int .i64 1] 96)) #[.slice a l.knees.length cap, .int .i64 l.factor] 44)
  have hz : (((((w.alloc (.cells #[.slice a l.knees.length cap, .int .i64 l.factor] 44)).alloc (.cells #[.int .i64 t.lo, .int .i64 t.hi] 27)).alloc (.cells #[.int .i64 0, .int .i64 0] 96)).alloc (.cells #[.int .i64 0, .int .i64 1] 96)).alloc (.cells #[.slice a l.knees.length cap, .int .i64 l.factor] 44)).heap.size = w.heap.size + 5 := by simp
  replace hz := And.intro (Nat.le_of_eq hz) (Nat.le_of_eq hz.symm)
  simp only [World.size_alloc] at hT5 hM5 hI5 hO5
  clear c0 c1 hA hB
  gi_wp2_with fail
  generalize (((((w.alloc (.cells #[.slice a l.knees.length cap, .int .i64 l.factor] 44)).alloc (.cells #[.int .i64 t.lo, .int .i64 t.hi] 27)).alloc (.cells #[.int .i64 0, .int .i64 0] 96)).alloc (.cells #[.int .i64 0, .int .i64 1] 96)).alloc (.cells #[.slice a l.knees.length cap, .int .i64 l.factor] 44)) = W5 at *
  have hr5 : RSps (vis (fun k => ¬ k = w.heap.size + 1 + 1 + 1) W5) (.slice a l.knees.length cap) l.knees := hr.mono (ext_vis_all (ext_of_below hA5) (fun k hk => by omega))
  refine wpIn_range_p (fun k => k = w.heap.size + 1 + 1 + 1) rfl (by simp [Fence.wide]) (gf := 101) (lb := #[.pointer (some ⟨w.heap.size + 1 + 1 + 1 + 1, 0, none⟩)]) rfl trivial (enters_of Tryz.func101 (by kernel_rfl) rfl)
    (pieceIt_any _ Fence.wide _ trivial rfl rfl _ l _ W5 hle hr5 (by omega) hI5) (fun k x hx => by obtain ⟨_, rfl⟩ := encP_ix hx; rfl)
    (fun k W => Blk W (w.heap.size + 1 + 1 + 1) #[.int .i64 (mostK l.knees t k).1, .int .i64 (mostK l.knees t k).2] 96 ∧ BelS (fun k => k = w.heap.size + 1 + 1 + 1) W5.heap.size W5 W ∧ Below w.heap.size w W)
    (fun _ _ => False) (fun _ _ => False)
    (OwnFrom.and (Own.from (blk_own _ _ _) _) (OwnFrom.and (ownFrom_bel (Nat.le_refl _) (Nat.le_refl _)) (ownFrom_below (Nat.le_refl _) (by omega))))
    (fun _ _ _ _ _ hs _ _ => hs.elim) (fun _ _ _ _ h => h.elim) ⟨hM5, BelS.refl _ _ _, hA5⟩
    (fun x a' W => ∃ Bx vs, W5.heap.size ≤ Bx ∧ x = #[.agg vs] ∧ Blk W Bx vs 128 ∧ a' = { tmps := #[.agg #[.slice a l.knees.length cap, .int .i64 l.factor], .agg #[.int .i64 t.lo, .int .i64 t.hi], .pointer (some ⟨w.heap.size, 0, none⟩), .pointer (some ⟨w.heap.size + 1, 0, none⟩), .pointer (some ⟨w.heap.size + 1 + 1, 0, none⟩), .pointer (some ⟨w.heap.size + 1 + 1 + 1, 0, none⟩), .pointer (some ⟨Bx, 0, none⟩), undef, .agg #[.int .i64 0, .int .i64 1], .agg #[.slice a l.knees.length cap, .int .i64 l.factor], .func (.func 101) #[] #[.pointer (some ⟨w.heap.size + 1 + 1 + 1 + 1, 0, none⟩)], .agg vs, undef, undef, undef, undef, undef, undef, undef, undef, undef, undef, undef, undef, undef, undef, undef, undef, undef, undef, undef, undef, undef, undef, undef, undef], defers := [] })
    (fun x a' s' X Y row hs hg hr => by
      obtain ⟨Bx, vs, h1, h2, h3, h4⟩ := hs
      exact ⟨Bx, vs, h1, h2, (blk_own (β := Unit) Bx _ (fun _ => vs)) () X Y row h3 hg (fun r e => (hr r e).2), h4⟩)
    ?assign ?body ?done ?stop ?panic
  case panic => exact fun D ch W _ h => h.elim
  case stop => exact fun D c W _ h => h.elim
  case assign =>
    rintro j k x W K hx hWs ⟨hRk, hBS, hBel⟩ hK
    obtain ⟨hk, rfl⟩ := encP_ix hx
    clear hx
    simp only [pcV] at hK ⊢
    generalize kn l.knees k = x at *
    generalize kn l.knees (k + 1) = y at *
    have hsW : W5.heap.size ≤ W.heap.size := hWs
    gi_wp2
    exact hK _ _ ((KeepsOthers.alloc _ _).from _) (BelS.of_below ((below_boxS W _).mono hsW)) ⟨hRk.alloc _, hBS.trans (BelS.of_below ((below_boxS W _).mono hsW)), hBel.alloc hBel.size _⟩ ⟨W.heap.size, _, hsW, rfl, Blk.new _ _ _, rfl⟩
  case body =>
    rintro j k x a' W hx hWs ⟨hRk, hBS, hBel⟩ ⟨Bx, vs, hBx, he, hX, rfl⟩
    obtain ⟨hk, rfl⟩ := encP_ix hx
    simp only [pcV, Array.mk.injEq, List.cons.injEq, and_true, Value.agg.injEq] at he
    subst he
    have hpo := pOk_of (hok.piece hk)
    have hst : mostK l.knees t (k + 1) = stp l.knees t k (mostK l.knees t k) := rfl
    have hq := mostK_ok hok t k (by omega)
    have hTb := hBS.blk hT5 (by omega) (by omega)
    have lX := hX.lt
    have lR := hRk.lt
    have lT := hTb.lt
    have hsp : ∀ q, stp l.knees t k q = if (decide (t.lo ≤ (kn l.knees k).hi) && decide ((kn l.knees (k + 1)).hi ≤ t.hi)) = true ∧ q.1 * ((kn l.knees (k + 1)).lo - (kn l.knees k).lo) < ((kn l.knees k).hi - (kn l.knees (k + 1)).hi) * q.2 then ((kn l.knees k).hi - (kn l.knees (k + 1)).hi, (kn l.knees (k + 1)).lo - (kn l.knees k).lo) else q := fun q => rfl
    clear hx
    generalize kn l.knees k = x at *
    generalize kn l.knees (k + 1) = y at *
    generalize mostK l.knees t k = q at *
    rw [hsp] at hst
    clear hsp
    obtain ⟨m1, m2, a1, a2, b1, b2, -, -, -, -⟩ := hpo
    obtain ⟨q1, q2, q3, q4⟩ := hq
    have hfa := fun V => falls_any x y V (by unfold I64; omega) (by unfold I64; omega)
    have p1 := prod_bd (f := x.hi - y.hi) (d := q.2) (by omega) (by omega)
    have p2 := prod_bd (f := q.1) (d := y.lo - x.lo) (by omega) (by omega)
    have hex := fun V => exceeds_any (x.hi - y.hi) (y.lo - x.lo) q.1 q.2 V (by unfold I64; omega) (by unfold I64; omega)
    have x0 := hX.cell 0 _ rfl
    have x1 := hX.cell 1 _ rfl
    have x2 := hX.cell 2 _ rfl
    have x3 := hX.cell 3 _ rfl
    have t0 := hTb.cell 0 _ rfl
    have t1 := hTb.cell 1 _ rfl
    have m0 := hRk.cell 0 _ rfl
    have m1' := hRk.cell 1 _ rfl
    have HSV : Hid (∀ V, Below W.heap.size W V → (fun w' : World => w'.cell? ⟨w.heap.size + 1 + 1 + 1, 0, none⟩ = some (.int .i64 q.1) ∧ w'.cell? ⟨w.heap.size + 1 + 1 + 1, 1, none⟩ = some (.int .i64 q.2) ∧ w'.cell? ⟨Bx, 0, none⟩ = some (.int .i64 x.lo) ∧ w'.cell? ⟨Bx, 1, none⟩ = some (.int .i64 x.hi) ∧ w'.cell? ⟨Bx, 2, none⟩ = some (.int .i64 y.lo) ∧ w'.cell? ⟨Bx, 3, none⟩ = some (.int .i64 y.hi)) V) := Lib.hid (fun V hV => ⟨ext_of_below hV _ _ m0, ext_of_below hV _ _ m1', ext_of_below hV _ _ x0, ext_of_below hV _ _ x1, ext_of_below hV _ _ x2, ext_of_below hV _ _ x3⟩)
    have HST := Lib.hid hst
    clear hst p1 p2 m0 m1'
    by_cases h1 : t.lo ≤ x.hi
    case neg =>
      have g1 := decide_eq_false h1
      have D0 : Below W.heap.size W W.drew := (Below.refl _ _).drew
      have HR : Hid (Blk W.drew (w.heap.size + 1 + 1 + 1) #[.int .i64 q.1, .int .i64 q.2] 96) := Lib.hid (hRk.below D0 lR)
      have HB := Lib.hid (hBel.trans (D0.mono hBel.size))
      have HK : Hid (KeepsFrom W5.heap.size W W.drew) := Lib.hid (keeps_below D0 (Nat.le_refl _))
      have HS : Hid (BelS (fun k => k = w.heap.size + 1 + 1 + 1) W5.heap.size W W.drew) := Lib.hid (BelS.of_below (D0.mono hWs))
      have HS2 : Hid (BelS (fun k => k = w.heap.size + 1 + 1 + 1) W5.heap.size W5 W.drew) := Lib.hid (BelS.trans hBS HS.out)
      have HQ : Hid (mostK l.knees t (k + 1) = q) := Lib.hid (by rw [HST.out, if_neg (by rw [g1]; simp)])
      gi_wp2_with fail
      refine wpIn_region_till (fun w' : World => w'.cell? ⟨w.heap.size + 1 + 1 + 1, 0, none⟩ = some (.int .i64 q.1) ∧ w'.cell? ⟨w.heap.size + 1 + 1 + 1, 1, none⟩ = some (.int .i64 q.2) ∧ w'.cell? ⟨Bx, 0, none⟩ = some (.int .i64 x.lo) ∧ w'.cell? ⟨Bx, 1, none⟩ = some (.int .i64 x.hi) ∧ w'.cell? ⟨Bx, 2, none⟩ = some (.int .i64 y.lo) ∧ w'.cell? ⟨Bx, 3, none⟩ = some (.int .i64 y.hi)) 99 (by kernel_rfl) (by kernel_rfl) (fun ⟨_, _, h⟩ => h) (HSV.out _ D0) (fun hHeld => ?_)
      refine Till.take 0 (some 26) (v := ?_) rfl rfl (by kernel_rfl) (by kernel_rfl) (by kernel_rfl) (by kernel_rfl) (fun _ _ _ h => h) (Or.inl ⟨by rfl, ?_⟩) (by assumption) ?_
      rotate_left
      · (intro w hSw; (try dsimp only at hSw); go_simp; try with_reducible rfl)
      try simp only [Act.put, List.setIfInBounds_toArray, List.set_cons_zero, List.set_cons_succ]
      refine Till.take 1 (some 27) (v := ?_) rfl rfl (by kernel_rfl) (by kernel_rfl) (by kernel_rfl) (by kernel_rfl) (fun _ _ _ h => h) (Or.inl ⟨by rfl, ?_⟩) (by assumption) ?_
      rotate_left
      · (intro w hSw; (try dsimp only at hSw); go_simp; try with_reducible rfl)
      try simp only [Act.put, List.setIfInBounds_toArray, List.set_cons_zero, List.set_cons_succ]
      refine Till.take 2 (some 28) (v := undef) rfl rfl (by kernel_rfl) (by kernel_rfl) (by kernel_rfl) (by kernel_rfl) (fun _ _ _ h => h) (Or.inr ⟨by rfl, rfl⟩) (by assumption) ?_
      try simp only [Act.put, List.setIfInBounds_toArray, List.set_cons_zero, List.set_cons_succ]
      refine Till.take 3 (some 29) (v := undef) rfl rfl (by kernel_rfl) (by kernel_rfl) (by kernel_rfl) (by kernel_rfl) (fun _ _ _ h => h) (Or.inr ⟨by rfl, rfl⟩) (by assumption) ?_
      try simp only [Act.put, List.setIfInBounds_toArray, List.set_cons_zero, List.set_cons_succ]
      refine Till.take 4 (some 30) (v := undef) rfl rfl (by kernel_rfl) (by kernel_rfl) (by kernel_rfl) (by kernel_rfl) (fun _ _ _ h => h) (Or.inr ⟨by rfl, rfl⟩) (by assumption) ?_
      try simp only [Act.put, List.setIfInBounds_toArray, List.set_cons_zero, List.set_cons_succ]
      refine Till.take 5 (some 31) (v := undef) rfl rfl (by kernel_rfl) (by kernel_rfl) (by kernel_rfl) (by kernel_rfl) (fun _ _ _ h => h) (Or.inr ⟨by rfl, rfl⟩) (by assumption) ?_
      try simp only [Act.put, List.setIfInBounds_toArray, List.set_cons_zero, List.set_cons_succ]
      refine Till.take 6 (some 32) (v := ?_) rfl rfl (by kernel_rfl) (by kernel_rfl) (by kernel_rfl) (by kernel_rfl) (fun _ _ _ h => h) (Or.inl ⟨by rfl, ?_⟩) (by assumption) ?_
      rotate_left
      · (intro w hSw; (try dsimp only at hSw); go_simp; try with_reducible rfl)
      try simp only [Act.put, List.setIfInBounds_toArray, List.set_cons_zero, List.set_cons_succ]
      refine Till.done (by kernel_rfl) ?_ _
      clear hHeld HSV D0 hRk hBel hBS hr5 hr hI5 hB5 hT5 hM5 hA5 hX hTb hO5
      gi_wp2
      refine ⟨HK.out, HS.out, ?_, HS2.out, HB.out⟩
      rw [HQ.out]
      exact HR.out

    by_cases h2 : y.hi ≤ t.hi
    case neg =>
      have g1 := decide_eq_true h1
      have g2 := decide_eq_false h2
      have D0 : Below W.heap.size W W.drew := (Below.refl _ _).drew
      have HR : Hid (Blk W.drew (w.heap.size + 1 + 1 + 1) #[.int .i64 q.1, .int .i64 q.2] 96) := Lib.hid (hRk.below D0 lR)
      have HB := Lib.hid (hBel.trans (D0.mono hBel.size))
      have HK : Hid (KeepsFrom W5.heap.size W W.drew) := Lib.hid (keeps_below D0 (Nat.le_refl _))
      have HS : Hid (BelS (fun k => k = w.heap.size + 1 + 1 + 1) W5.heap.size W W.drew) := Lib.hid (BelS.of_below (D0.mono hWs))
      have HS2 : Hid (BelS (fun k => k = w.heap.size + 1 + 1 + 1) W5.heap.size W5 W.drew) := Lib.hid (BelS.trans hBS HS.out)
      have HQ : Hid (mostK l.knees t (k + 1) = q) := Lib.hid (by rw [HST.out, if_neg (by rw [g2]; simp)])
      gi_wp2_with fail
      refine wpIn_region_till (fun w' : World => w'.cell? ⟨w.heap.size + 1 + 1 + 1, 0, none⟩ = some (.int .i64 q.1) ∧ w'.cell? ⟨w.heap.size + 1 + 1 + 1, 1, none⟩ = some (.int .i64 q.2) ∧ w'.cell? ⟨Bx, 0, none⟩ = some (.int .i64 x.lo) ∧ w'.cell? ⟨Bx, 1, none⟩ = some (.int .i64 x.hi) ∧ w'.cell? ⟨Bx, 2, none⟩ = some (.int .i64 y.lo) ∧ w'.cell? ⟨Bx, 3, none⟩ = some (.int .i64 y.hi)) 99 (by kernel_rfl) (by kernel_rfl) (fun ⟨_, _, h⟩ => h) (HSV.out _ D0) (fun hHeld => ?_)
      refine Till.take 0 (some 26) (v := ?_) rfl rfl (by kernel_rfl) (by kernel_rfl) (by kernel_rfl) (by kernel_rfl) (fun _ _ _ h => h) (Or.inl ⟨by rfl, ?_⟩) (by assumption) ?_
      rotate_left
      · (intro w hSw; (try dsimp only at hSw); go_simp; try with_reducible rfl)
      try simp only [Act.put, List.setIfInBounds_toArray, List.set_cons_zero, List.set_cons_succ]
      refine Till.take 1 (some 27) (v := ?_) rfl rfl (by kernel_rfl) (by kernel_rfl) (by kernel_rfl) (by kernel_rfl) (fun _ _ _ h => h) (Or.inl ⟨by rfl, ?_⟩) (by assumption) ?_
      rotate_left
      · (intro w hSw; (try dsimp only at hSw); go_simp; try with_reducible rfl)
      try simp only [Act.put, List.setIfInBounds_toArray, List.set_cons_zero, List.set_cons_succ]
      refine Till.take 2 (some 28) (v := undef) rfl rfl (by kernel_rfl) (by kernel_rfl) (by kernel_rfl) (by kernel_rfl) (fun _ _ _ h => h) (Or.inr ⟨by rfl, rfl⟩) (by assumption) ?_
      try simp only [Act.put, List.setIfInBounds_toArray, List.set_cons_zero, List.set_cons_succ]
      refine Till.take 3 (some 29) (v := undef) rfl rfl (by kernel_rfl) (by kernel_rfl) (by kernel_rfl) (by kernel_rfl) (fun _ _ _ h => h) (Or.inr ⟨by rfl, rfl⟩) (by assumption) ?_
      try simp only [Act.put, List.setIfInBounds_toArray, List.set_cons_zero, List.set_cons_succ]
      refine Till.take 4 (some 30) (v := undef) rfl rfl (by kernel_rfl) (by kernel_rfl) (by kernel_rfl) (by kernel_rfl) (fun _ _ _ h => h) (Or.inr ⟨by rfl, rfl⟩) (by assumption) ?_
      try simp only [Act.put, List.setIfInBounds_toArray, List.set_cons_zero, List.set_cons_succ]
      refine Till.take 5 (some 31) (v := undef) rfl rfl (by kernel_rfl) (by kernel_rfl) (by kernel_rfl) (by kernel_rfl) (fun _ _ _ h => h) (Or.inr ⟨by rfl, rfl⟩) (by assumption) ?_
      try simp only [Act.put, List.setIfInBounds_toArray, List.set_cons_zero, List.set_cons_succ]
      refine Till.take 6 (some 32) (v := ?_) rfl rfl (by kernel_rfl) (by kernel_rfl) (by kernel_rfl) (by kernel_rfl) (fun _ _ _ h => h) (Or.inl ⟨by rfl, ?_⟩) (by assumption) ?_
      rotate_left
      · (intro w hSw; (try dsimp only at hSw); go_simp; try with_reducible rfl)
      try simp only [Act.put, List.setIfInBounds_toArray, List.set_cons_zero, List.set_cons_succ]
      refine Till.done (by kernel_rfl) ?_ _
      clear hHeld HSV D0 hRk hBel hBS hr5 hr hI5 hB5 hT5 hM5 hA5 hX hTb hO5
      gi_wp2
      refine ⟨HK.out, HS.out, ?_, HS2.out, HB.out⟩
      rw [HQ.out]
      exact HR.out

    have g1 := decide_eq_true h1
    have g2 := decide_eq_true h2
    have D0 : Below W.heap.size W W.drew := (Below.refl _ _).drew
    gi_wp2_with fail
    refine wpIn_region_till (fun w' : World => w'.cell? ⟨w.heap.size + 1 + 1 + 1, 0, none⟩ = some (.int .i64 q.1) ∧ w'.cell? ⟨w.heap.size + 1 + 1 + 1, 1, none⟩ = some (.int .i64 q.2) ∧ w'.cell? ⟨Bx, 0, none⟩ = some (.int .i64 x.lo) ∧ w'.cell? ⟨Bx, 1, none⟩ = some (.int .i64 x.hi) ∧ w'.cell? ⟨Bx, 2, none⟩ = some (.int .i64 y.lo) ∧ w'.cell? ⟨Bx, 3, none⟩ = some (.int .i64 y.hi)) 99 (by kernel_rfl) (by kernel_rfl) (fun ⟨_, _, h⟩ => h) (HSV.out _ D0) (fun hHeld => ?_)
    refine Till.take 0 (some 26) (v := ?_) rfl rfl (by kernel_rfl) (by kernel_rfl) (by kernel_rfl) (by kernel_rfl) (fun _ _ _ h => h) (Or.inl ⟨by rfl, ?_⟩) (by assumption) ?_
    rotate_left
    · (intro w hSw; (try dsimp only at hSw); go_simp; try with_reducible rfl)
    try simp only [Act.put, List.setIfInBounds_toArray, List.set_cons_zero, List.set_cons_succ]
    refine Till.take 1 (some 27) (v := ?_) rfl rfl (by kernel_rfl) (by kernel_rfl) (by kernel_rfl) (by kernel_rfl) (fun _ _ _ h => h) (Or.inl ⟨by rfl, ?_⟩) (by assumption) ?_
    rotate_left
    · (intro w hSw; (try dsimp only at hSw); go_simp; try with_reducible rfl)
    try simp only [Act.put, List.setIfInBounds_toArray, List.set_cons_zero, List.set_cons_succ]
    refine Till.take 2 (some 28) (v := ?_) rfl rfl (by kernel_rfl) (by kernel_rfl) (by kernel_rfl) (by kernel_rfl) (fun _ _ _ h => h) (Or.inl ⟨by rfl, ?_⟩) (by assumption) ?_
    rotate_left
    · (intro w hSw; (try dsimp only at hSw); go_simp; try with_reducible rfl)
    try simp only [Act.put, List.setIfInBounds_toArray, List.set_cons_zero, List.set_cons_succ]
    refine Till.take 4 (some 30) (v := ?_) rfl rfl (by kernel_rfl) (by kernel_rfl) (by kernel_rfl) (by kernel_rfl) (fun _ _ _ h => h) (Or.inl ⟨by rfl, ?_⟩) (by assumption) ?_
    rotate_left
    · (intro w hSw; (try dsimp only at hSw); go_simp; try with_reducible rfl)
    try simp only [Act.put, List.setIfInBounds_toArray, List.set_cons_zero, List.set_cons_succ]
    refine Till.one 3 rfl (by kernel_rfl) (fun K hK => ?_)
    go_simp
    go_at_call 87
    refine (hfa _).mono ?_
    rintro e8 w8 ⟨rfl, hb8⟩
    have D1 := D0.trans (hb8.mono D0.size)
    have hh := HSV.out _ D1
    refine hK.out _ _ (fun _ => hh) (fun hHeld2 => ?_)
    clear hK K hb8
    try simp only [Act.put, List.setIfInBounds_toArray, List.set_cons_zero, List.set_cons_succ]
    refine Till.one 5 rfl (by kernel_rfl) (fun K hK => ?_)
    go_simp
    go_at_call 88
    refine (hex _).mono ?_
    rintro e9 w9 ⟨rfl, hb9⟩
    have D2 := D1.trans (hb9.mono D1.size)
    have hh9 := HSV.out _ D2
    refine hK.out _ _ (fun _ => hh9) (fun hHeld3 => ?_)
    clear hK K hb9 hex
    try simp only [Act.put, List.setIfInBounds_toArray, List.set_cons_zero, List.set_cons_succ]
    refine Till.take 6 (some 32) (v := ?_) rfl rfl (by kernel_rfl) (by kernel_rfl) (by kernel_rfl) (by kernel_rfl) (fun _ _ _ h => h) (Or.inl ⟨by rfl, ?_⟩) (by assumption) ?_
    rotate_left
    · (intro w hSw; (try dsimp only at hSw); go_simp; try with_reducible rfl)
    try simp only [Act.put, List.setIfInBounds_toArray, List.set_cons_zero, List.set_cons_succ]
    refine Till.done (by kernel_rfl) ?_ _
    clear hHeld hHeld2 hHeld3 hh hh9 x0 x1 x2 x3 t0 t1
    by_cases h3 : q.1 * (y.lo - x.lo) < (x.hi - y.hi) * q.2
    · have g3 := decide_eq_true h3
      have hX9 := hX.below D2 hX.lt
      have x0 := hX9.cell 0 _ rfl
      have x1 := hX9.cell 1 _ rfl
      have x2 := hX9.cell 2 _ rfl
      have x3 := hX9.cell 3 _ rfl
      have HQ : Hid (mostK l.knees t (k + 1) = (x.hi - y.hi, y.lo - x.lo)) := Lib.hid (by rw [HST.out, if_pos ⟨by rw [g1, g2]; rfl, h3⟩])
      clear D0 D1 hX
      gi_wp2_with fail
      refine ⟨trivial, callsIn_wide.2 ?_⟩
      refine (hfa _).mono ?_
      rintro e10 w10 ⟨rfl, hb10⟩
      have D3 := D2.trans (hb10.mono D2.size)
      have hR10 := hRk.below D3 lR
      have m0 := hR10.cell 0 _ rfl
      have m1' := hR10.cell 1 _ rfl
      have f0 := hR10.frozen 0
      have f1 := hR10.frozen 1
      have HR : Hid (Blk ((w10.setCell ⟨w.heap.size + 1 + 1 + 1, 0, none⟩ (.int .i64 (x.hi - y.hi))).setCell ⟨w.heap.size + 1 + 1 + 1, 1, none⟩ (.int .i64 (y.lo - x.lo))) (w.heap.size + 1 + 1 + 1) #[.int .i64 (x.hi - y.hi), .int .i64 (y.lo - x.lo)] 96) := Lib.hid (by simpa using (hR10.set 0 (.int .i64 (x.hi - y.hi))).set 1 (.int .i64 (y.lo - x.lo)))
      have HB := Lib.hid (((hBel.trans (D3.mono hBel.size)).setCell (p := ⟨w.heap.size + 1 + 1 + 1, 0, none⟩) (by simp only; omega) (.int .i64 (x.hi - y.hi))).setCell (p := ⟨w.heap.size + 1 + 1 + 1, 1, none⟩) (by simp only; omega) (.int .i64 (y.lo - x.lo)))
      have HK : Hid (KeepsFrom W5.heap.size W ((w10.setCell ⟨w.heap.size + 1 + 1 + 1, 0, none⟩ (.int .i64 (x.hi - y.hi))).setCell ⟨w.heap.size + 1 + 1 + 1, 1, none⟩ (.int .i64 (y.lo - x.lo)))) := Lib.hid ((keeps_below D3 (Nat.le_refl _)).trans (((KeepsOthers.setCell _ _ _).trans (KeepsOthers.setCell _ _ _)).from _))
      have HS : Hid (BelS (fun k => k = w.heap.size + 1 + 1 + 1) W5.heap.size W ((w10.setCell ⟨w.heap.size + 1 + 1 + 1, 0, none⟩ (.int .i64 (x.hi - y.hi))).setCell ⟨w.heap.size + 1 + 1 + 1, 1, none⟩ (.int .i64 (y.lo - x.lo)))) := Lib.hid (BelS.set (S := fun k => k = w.heap.size + 1 + 1 + 1) (BelS.set (S := fun k => k = w.heap.size + 1 + 1 + 1) (BelS.of_below (D3.mono hWs)) ⟨w.heap.size + 1 + 1 + 1, 0, none⟩ _ (.inr rfl)) ⟨w.heap.size + 1 + 1 + 1, 1, none⟩ _ (.inr rfl))
      have HS2 : Hid (BelS (fun k => k = w.heap.size + 1 + 1 + 1) W5.heap.size W5 ((w10.setCell ⟨w.heap.size + 1 + 1 + 1, 0, none⟩ (.int .i64 (x.hi - y.hi))).setCell ⟨w.heap.size + 1 + 1 + 1, 1, none⟩ (.int .i64 (y.lo - x.lo)))) := Lib.hid (BelS.trans hBS HS.out)
      clear D2 D3 hRk hBel hBS HSV hr5 hr hI5 hB5 hT5 hM5 hA5 hTb hO5 hR10 hX9 hfa x0 x1 x2 x3 hb10
      gi_wp2
      refine ⟨HK.out, HS.out, ?_, HS2.out, HB.out⟩
      rw [HQ.out]
      exact HR.out
    · have g3 := decide_eq_false h3
      have HR : Hid (Blk w9 (w.heap.size + 1 + 1 + 1) #[.int .i64 q.1, .int .i64 q.2] 96) := Lib.hid (hRk.below D2 lR)
      have HB := Lib.hid (hBel.trans (D2.mono hBel.size))
      have HK : Hid (KeepsFrom W5.heap.size W w9) := Lib.hid (keeps_below D2 (Nat.le_refl _))
      have HS : Hid (BelS (fun k => k = w.heap.size + 1 + 1 + 1) W5.heap.size W w9) := Lib.hid (BelS.of_below (D2.mono hWs))
      have HS2 : Hid (BelS (fun k => k = w.heap.size + 1 + 1 + 1) W5.heap.size W5 w9) := Lib.hid (BelS.trans hBS HS.out)
      have HQ : Hid (mostK l.knees t (k + 1) = q) := Lib.hid (by rw [HST.out, if_neg (fun z => h3 z.2)])
      clear HSV D0 D1 D2 hRk hBel hBS hr5 hr hI5 hB5 hT5 hM5 hA5 hX hTb hO5
      gi_wp2
      refine ⟨HK.out, HS.out, ?_, HS2.out, HB.out⟩
      rw [HQ.out]
      exact HR.out
  case done =>
    rintro D W hD ⟨hRk, hBS, hBel⟩ hKD
    rw [encP_len] at hRk
    have lR := hRk.lt
    have d0 := hRk.cell 0 _ rfl
    have d1 := hRk.cell 1 _ rfl
    have hOb := hBS.blk hO5 (by omega) (by omega)
    have lO := hOb.lt
    have o0 := hOb.cell 0 _ rfl
    have o1 := hOb.cell 1 _ rfl
    have f0 := hOb.frozen 0
    have f1 := hOb.frozen 1
    have HL : Hid (steepL l t = mostK l.knees t (l.knees.length - 1)) := Lib.hid rfl
    generalize mostK l.knees t (l.knees.length - 1) = q at *
    have hOF : Blk ((W.setCell ⟨w.heap.size + 1 + 1, 0, none⟩ (.int .i64 q.1)).setCell ⟨w.heap.size + 1 + 1, 1, none⟩ (.int .i64 q.2)) (w.heap.size + 1 + 1) #[.int .i64 q.1, .int .i64 q.2] 96 := by simpa using (hOb.set 0 (.int .i64 q.1)).set 1 (.int .i64 q.2)
    have hKD2 := (KeepsOthers.setCell (W.setCell ⟨w.heap.size + 1 + 1, 0, none⟩ (.int .i64 q.1)) ⟨w.heap.size + 1 + 1, 1, none⟩ (.int .i64 q.2)).same D _ ((KeepsOthers.setCell W ⟨w.heap.size + 1 + 1, 0, none⟩ (.int .i64 q.1)).same D _ hKD rfl) rfl
    have hPD := Lib.hid (((hBel.setCell (p := ⟨w.heap.size + 1 + 1, 0, none⟩) (by simp only; omega) (.int .i64 q.1)).setCell (p := ⟨w.heap.size + 1 + 1, 1, none⟩) (by simp only; omega) (.int .i64 q.2)).trans (belowK_b (w := w) (Nat.le_refl _) _ D _ (.deferred none) (by omega) hKD2 rfl rfl))
    have hOP := hOF.below (belowK_b (w := W5) (Nat.le_refl _) _ D _ (.deferred none) hD hKD2 rfl rfl) (by omega)
    have HP := Lib.hid hOP
    clear hRk hBS hBel hr5 hr hI5 hB5 hT5 hM5 hA5 hOb hOF hOP hO5
    gi_wp2
    refine ⟨by simp, .inl ⟨_, _, rfl, run_takeDeferred hKD2, ?_⟩⟩
    have r0 := HP.out.cell 0 (.int .i64 q.1) (by simp)
    have r1 := HP.out.cell 1 (.int .i64 q.2) (by simp)
    refine ⟨.agg #[.int .i64 q.1, .int .i64 q.2], ?_, by rw [HL.out], hPD.out⟩
    simp [results, Tryz.results45, go_sem, r0, r1]

end Go.Proofs.YtaldpalhckdcdaaGreatDoor
