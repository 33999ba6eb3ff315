/- cheapest, by its contract; no statement is proved here. -/
import Derived.Test.YtpkggjfaefkiiaaCheap
import Derived.Test.YtpkggjfaefkiiaaTillIn
import Derived.Test.YtpkggjfaefkiiaaLinesV
import Derived.Test.YtpkggjfaefkiiaaProv1
import Derived.WalkMore
namespace Go.Proofs.Ytpkggjfaefkiiaa
open Go.RowKit Go.PlainAid Go.Shelf
set_option linter.unusedVariables false
attribute [local go_sem] Oper.semAt_some

theorem alloc7 (w : World) (c0 c1 c2 c3 c4 c5 c6 : Array Value) (t0 t1 t2 t3 t4 t5 t6 : TypeId) :
    Blk (((((((w.alloc (.cells c0 t0)).alloc (.cells c1 t1)).alloc (.cells c2 t2)).alloc (.cells c3 t3)).alloc (.cells c4 t4)).alloc (.cells c5 t5)).alloc (.cells c6 t6)) (w.heap.size) c0 t0 ∧ Blk (((((((w.alloc (.cells c0 t0)).alloc (.cells c1 t1)).alloc (.cells c2 t2)).alloc (.cells c3 t3)).alloc (.cells c4 t4)).alloc (.cells c5 t5)).alloc (.cells c6 t6)) (w.heap.size + 1) c1 t1 ∧ Blk (((((((w.alloc (.cells c0 t0)).alloc (.cells c1 t1)).alloc (.cells c2 t2)).alloc (.cells c3 t3)).alloc (.cells c4 t4)).alloc (.cells c5 t5)).alloc (.cells c6 t6)) (w.heap.size + 1 + 1) c2 t2 ∧ Blk (((((((w.alloc (.cells c0 t0)).alloc (.cells c1 t1)).alloc (.cells c2 t2)).alloc (.cells c3 t3)).alloc (.cells c4 t4)).alloc (.cells c5 t5)).alloc (.cells c6 t6)) (w.heap.size + 1 + 1 + 1) c3 t3 ∧ Blk (((((((w.alloc (.cells c0 t0)).alloc (.cells c1 t1)).alloc (.cells c2 t2)).alloc (.cells c3 t3)).alloc (.cells c4 t4)).alloc (.cells c5 t5)).alloc (.cells c6 t6)) (w.heap.size + 1 + 1 + 1 + 1) c4 t4 ∧ Blk (((((((w.alloc (.cells c0 t0)).alloc (.cells c1 t1)).alloc (.cells c2 t2)).alloc (.cells c3 t3)).alloc (.cells c4 t4)).alloc (.cells c5 t5)).alloc (.cells c6 t6)) (w.heap.size + 1 + 1 + 1 + 1 + 1) c5 t5 ∧ Blk (((((((w.alloc (.cells c0 t0)).alloc (.cells c1 t1)).alloc (.cells c2 t2)).alloc (.cells c3 t3)).alloc (.cells c4 t4)).alloc (.cells c5 t5)).alloc (.cells c6 t6)) (w.heap.size + 1 + 1 + 1 + 1 + 1 + 1) c6 t6 ∧ Below w.heap.size w (((((((w.alloc (.cells c0 t0)).alloc (.cells c1 t1)).alloc (.cells c2 t2)).alloc (.cells c3 t3)).alloc (.cells c4 t4)).alloc (.cells c5 t5)).alloc (.cells c6 t6)) ∧ (((((((w.alloc (.cells c0 t0)).alloc (.cells c1 t1)).alloc (.cells c2 t2)).alloc (.cells c3 t3)).alloc (.cells c4 t4)).alloc (.cells c5 t5)).alloc (.cells c6 t6)).heap.size = w.heap.size + 7 := by
  refine ⟨?_, ?_, ?_, ?_, ?_, ?_, ?_, ?_, by simp⟩
  · have h := Blk.new w c0 t0
    exact ((((((h.alloc _).alloc _).alloc _).alloc _).alloc _).alloc _)
  · have h := Blk.new (w.alloc (.cells c0 t0)) c1 t1
    simp only [World.size_alloc] at h
    exact (((((h.alloc _).alloc _).alloc _).alloc _).alloc _)
  · have h := Blk.new ((w.alloc (.cells c0 t0)).alloc (.cells c1 t1)) c2 t2
    simp only [World.size_alloc] at h
    exact ((((h.alloc _).alloc _).alloc _).alloc _)
  · have h := Blk.new (((w.alloc (.cells c0 t0)).alloc (.cells c1 t1)).alloc (.cells c2 t2)) c3 t3
    simp only [World.size_alloc] at h
    exact (((h.alloc _).alloc _).alloc _)
  · have h := Blk.new ((((w.alloc (.cells c0 t0)).alloc (.cells c1 t1)).alloc (.cells c2 t2)).alloc (.cells c3 t3)) c4 t4
    simp only [World.size_alloc] at h
    exact ((h.alloc _).alloc _)
  · have h := Blk.new (((((w.alloc (.cells c0 t0)).alloc (.cells c1 t1)).alloc (.cells c2 t2)).alloc (.cells c3 t3)).alloc (.cells c4 t4)) c5 t5
    simp only [World.size_alloc] at h
    exact (h.alloc _)
  · have h := Blk.new ((((((w.alloc (.cells c0 t0)).alloc (.cells c1 t1)).alloc (.cells c2 t2)).alloc (.cells c3 t3)).alloc (.cells c4 t4)).alloc (.cells c5 t5)) c6 t6
    simp only [World.size_alloc] at h
    exact h
  · exact (((((((Below.refl _ w).alloc (by first | exact Nat.le_refl _ | (simp only [World.size_alloc]; omega)) _).alloc (by first | exact Nat.le_refl _ | (simp only [World.size_alloc]; omega)) _).alloc (by first | exact Nat.le_refl _ | (simp only [World.size_alloc]; omega)) _).alloc (by first | exact Nat.le_refl _ | (simp only [World.size_alloc]; omega)) _).alloc (by first | exact Nat.le_refl _ | (simp only [World.size_alloc]; omega)) _).alloc (by first | exact Nat.le_refl _ | (simp only [World.size_alloc]; omega)) _).alloc (by first | exact Nat.le_refl _ | (simp only [World.size_alloc]; omega)) _

set_option maxHeartbeats 8000000 in
set_option maxRecDepth 100000 in
theorem cheapest_any (vb vt : Value) (b : Bat) (there : List Int) (lots times : Int) (w : World) (h : RBat w vb b) (hk : OkB b) (ht : RInts w vt there) (hl : there.length = b.mats.length) :
    Calls Try.prog 84 #[vb, vt, .int .i64 lots, .int .i64 times] w (CheapIs b there lots times w) := by
  obtain ⟨a0, k0, a1, k1, a2, k2, a3, k3, rfl⟩ := h.agg
  obtain ⟨at', kt, rfl, -, -⟩ := id ht
  have hmt := hk.mt
  refine (callsIn_wide (n := 5)).1 ?_
  refine callsIn_of_wp_marks Try.func84 rfl trivial ?_ rfl
  simp only [Try.ntmps84, List.size_toArray, List.length_cons, List.length_nil, Nat.reduceAdd, Nat.reduceSub, Array.replicate_succ, Array.replicate_zero, List.push_toArray, List.append_toArray, List.nil_append, List.cons_append]
  have HL := Lib.hid hl
  rw [hl] at ht ⊢
  clear hl
  obtain ⟨B0, B1, B2, B3, B4, B5, B6, hA, hZ⟩ := alloc7 w #[.slice a0 b.oxides.length k0, .slice a1 b.mats.length k1, .slice a2 b.shares.length k2, .slice a3 b.props.length k3, .int .i64 b.redox.lo, .int .i64 b.redox.hi, .int .i64 b.wanted] #[.slice at' b.mats.length kt] #[.int .i64 lots] #[.int .i64 times] #[.slice none 0 0] #[.int .i64 0] #[.bool false] 29 37 3 3 37 3 4
  refine wpIn_wide.2 ?_
  go_wp2
  generalize (((((((w.alloc (.cells #[.slice a0 b.oxides.length k0, .slice a1 b.mats.length k1, .slice a2 b.shares.length k2, .slice a3 b.props.length k3, .int .i64 b.redox.lo, .int .i64 b.redox.hi, .int .i64 b.wanted] 29)).alloc (.cells #[.slice at' b.mats.length kt] 37)).alloc (.cells #[.int .i64 lots] 3)).alloc (.cells #[.int .i64 times] 3)).alloc (.cells #[.slice none 0 0] 37)).alloc (.cells #[.int .i64 0] 3)).alloc (.cells #[.bool false] 4)) = W0 at *
  have hRB := h.mono (ext_of_below hA)
  have e0 := B0.cell 0 _ rfl
  have e1 := B0.cell 1 _ rfl
  have e2 := B0.cell 2 _ rfl
  have e3 := B0.cell 3 _ rfl
  have e4 := B0.cell 4 _ rfl
  have e5 := B0.cell 5 _ rfl
  have e6 := B0.cell 6 _ rfl
  go_step3
  go_wp2_with fail
  refine (lines_okV _ b W0 hRB hk).mono ?_
  rintro e wL ⟨vl, rfl, hvl, hbL⟩
  obtain ⟨pl, jl, rfl, -⟩ := id hvl
  replace B0 := (B0.below hbL (by omega)).alloc (.cells #[.slice pl (linesB b).length jl] 32)
  replace B1 := (B1.below hbL (by omega)).alloc (.cells #[.slice pl (linesB b).length jl] 32)
  replace B2 := (B2.below hbL (by omega)).alloc (.cells #[.slice pl (linesB b).length jl] 32)
  replace B3 := (B3.below hbL (by omega)).alloc (.cells #[.slice pl (linesB b).length jl] 32)
  replace B4 := (B4.below hbL (by omega)).alloc (.cells #[.slice pl (linesB b).length jl] 32)
  replace B5 := (B5.below hbL (by omega)).alloc (.cells #[.slice pl (linesB b).length jl] 32)
  replace B6 := (B6.below hbL (by omega)).alloc (.cells #[.slice pl (linesB b).length jl] 32)
  have BL := Blk.new wL #[.slice pl (linesB b).length jl] 32
  have hbs := hbL.size
  replace hA := (hA.trans (hbL.mono (by omega))).alloc (by omega) (.cells #[.slice pl (linesB b).length jl] 32)
  have hvl2 := hvl.mono (ext_vis_of (T := (W0.heap.size ≤ ·)) (ext_of_below (below_box wL (.cells #[.slice pl (linesB b).length jl] 32))) (fun _ _ hq => hq))
  clear e0 e1 e2 e3 e4 e5 e6 hRB hvl
  have e0 := B0.cell 0 _ rfl
  have e1 := B0.cell 1 _ rfl
  have e2 := B0.cell 2 _ rfl
  have e3 := B0.cell 3 _ rfl
  have e4 := B0.cell 4 _ rfl
  have e5 := B0.cell 5 _ rfl
  have e6 := B0.cell 6 _ rfl
  go_wp2_with fail
  have hzL : (wL.alloc (.cells #[.slice pl (linesB b).length jl] 32)).heap.size = wL.heap.size + 1 := World.size_alloc _ _
  generalize wL.alloc (.cells #[.slice pl (linesB b).length jl] 32) = W1 at *
  refine (prices_any _ b W1 (h.mono (ext_of_below hA)) (by omega) (fun m hm => by have := (hk.mats m hm).price; unfold I64; omega)).mono ?_
  rintro e wP ⟨ve, rfl, hve, hbP⟩
  obtain ⟨pe, je, rfl, -⟩ := id hve
  simp only [List.length_map] at *
  replace B0 := (B0.below hbP (by omega)).alloc (.cells #[.slice pe b.mats.length je] 37)
  replace B1 := (B1.below hbP (by omega)).alloc (.cells #[.slice pe b.mats.length je] 37)
  replace B2 := (B2.below hbP (by omega)).alloc (.cells #[.slice pe b.mats.length je] 37)
  replace B3 := (B3.below hbP (by omega)).alloc (.cells #[.slice pe b.mats.length je] 37)
  replace B4 := (B4.below hbP (by omega)).alloc (.cells #[.slice pe b.mats.length je] 37)
  replace B5 := (B5.below hbP (by omega)).alloc (.cells #[.slice pe b.mats.length je] 37)
  replace B6 := (B6.below hbP (by omega)).alloc (.cells #[.slice pe b.mats.length je] 37)
  replace BL := (BL.below hbP (by omega)).alloc (.cells #[.slice pe b.mats.length je] 37)
  have BP := Blk.new wP #[.slice pe b.mats.length je] 37
  have hbs2 := hbP.size
  replace hA := (hA.trans (hbP.mono (by omega))).alloc (by omega) (.cells #[.slice pe b.mats.length je] 37)
  have hve2 := hve.mono (ext_vis_of (T := (W1.heap.size ≤ ·)) (ext_of_below (below_box wP (.cells #[.slice pe b.mats.length je] 37))) (fun _ _ hq => hq))
  replace hvl2 := hvl2.mono (ext_vis_of (T := (W0.heap.size ≤ ·)) ((ext_of_below hbP).trans (ext_of_below (below_box wP (.cells #[.slice pe b.mats.length je] 37)))) (fun _ _ hq => hq))
  clear e0 e1 e2 e3 e4 e5 e6 hve
  have e0 := B0.cell 0 _ rfl
  have e1 := B0.cell 1 _ rfl
  have e2 := B0.cell 2 _ rfl
  have e3 := B0.cell 3 _ rfl
  have e4 := B0.cell 4 _ rfl
  have e5 := B0.cell 5 _ rfl
  have e6 := B0.cell 6 _ rfl
  go_wp2_with fail
  have BPc := BP.cell 0 _ rfl
  generalize hWX : wP.alloc (.cells #[.slice pe b.mats.length je] 37) = WX at *
  have hzX : wP.heap.size + 1 = WX.heap.size := by rw [← hWX, World.size_alloc]
  clear hWX
  have hle := fun V (e : Below WX.heap.size WX V) => leasts_any _ b V (h.mono (ext_of_below (hA.trans (e.mono hA.size)))) (by omega) (fun m hm => by have := (hk.mats m hm).least; unfold I64; omega)
  have hpr := fun V (e : Below WX.heap.size WX V) => hve2.mono ((vis_ext _ _).trans (ext_of_below e))
  have D0 : Below WX.heap.size WX WX.drew := (Below.refl _ _).drew
  refine wp_mono (Q := fun e A W => match e with | .normal => ∃ (gd : Nat) (v24 : Value), A = { tmps := #[(.agg #[.slice a0 b.oxides.length k0, .slice a1 b.mats.length k1, .slice a2 b.shares.length k2, .slice a3 b.props.length k3, .int .i64 b.redox.lo, .int .i64 b.redox.hi, .int .i64 b.wanted]), .slice at' b.mats.length kt, .int .i64 lots, .int .i64 times, .pointer (some ⟨w.heap.size, 0, none⟩), .pointer (some ⟨w.heap.size + 1, 0, none⟩), .pointer (some ⟨w.heap.size + 1 + 1, 0, none⟩), .pointer (some ⟨w.heap.size + 1 + 1 + 1, 0, none⟩), .pointer (some ⟨w.heap.size + 1 + 1 + 1 + 1, 0, none⟩), .pointer (some ⟨w.heap.size + 1 + 1 + 1 + 1 + 1, 0, none⟩), .pointer (some ⟨w.heap.size + 1 + 1 + 1 + 1 + 1 + 1, 0, none⟩), .pointer (some ⟨wL.heap.size, 0, none⟩), .pointer (some ⟨wP.heap.size, 0, none⟩), .pointer (some ⟨gd, 0, none⟩), undef, undef, undef, undef, (.agg #[.slice a0 b.oxides.length k0, .slice a1 b.mats.length k1, .slice a2 b.shares.length k2, .slice a3 b.props.length k3, .int .i64 b.redox.lo, .int .i64 b.redox.hi, .int .i64 b.wanted]), .slice pl (linesB b).length jl, (.agg #[.slice a0 b.oxides.length k0, .slice a1 b.mats.length k1, .slice a2 b.shares.length k2, .slice a3 b.props.length k3, .int .i64 b.redox.lo, .int .i64 b.redox.hi, .int .i64 b.wanted]), .slice pe b.mats.length je, .slice pe b.mats.length je, (.agg #[.slice a0 b.oxides.length k0, .slice a1 b.mats.length k1, .slice a2 b.shares.length k2, .slice a3 b.props.length k3, .int .i64 b.redox.lo, .int .i64 b.redox.hi, .int .i64 b.wanted]), v24, .int .i64 (dotB (b.mats.map Mat.price) (b.mats.map Mat.least)), undef, undef, undef, undef, undef, undef, undef, undef, undef, undef, undef, undef, undef, undef, undef, undef, undef, undef, undef, undef, undef, undef, undef, undef, undef, undef, undef, undef, undef, undef, undef, undef, undef, undef, undef, undef, undef, undef, undef, undef, undef, undef, undef, undef], defers := [] } ∧ Below WX.heap.size WX W ∧ WX.heap.size ≤ gd ∧ Blk W gd #[.int .i64 (dotB (b.mats.map Mat.price) (b.mats.map Mat.least))] 3 | _ => False) ?reg ?rest
  case reg =>
    refine wp_region_till (fun w' => w'.cell? ⟨w.heap.size, 0, none⟩ = some (.slice a0 b.oxides.length k0) ∧ w'.cell? ⟨w.heap.size, 1, none⟩ = some (.slice a1 b.mats.length k1) ∧ w'.cell? ⟨w.heap.size, 2, none⟩ = some (.slice a2 b.shares.length k2) ∧ w'.cell? ⟨w.heap.size, 3, none⟩ = some (.slice a3 b.props.length k3) ∧ w'.cell? ⟨w.heap.size, 4, none⟩ = some (.int .i64 b.redox.lo) ∧ w'.cell? ⟨w.heap.size, 5, none⟩ = some (.int .i64 b.redox.hi) ∧ w'.cell? ⟨w.heap.size, 6, none⟩ = some (.int .i64 b.wanted) ∧ w'.cell? ⟨wP.heap.size, 0, none⟩ = some (.slice pe b.mats.length je)) 5 (by kernel_rfl) ⟨e0, e1, e2, e3, e4, e5, e6, BPc⟩ (fun hHeld => ?_)
    refine Till.take 0 (some 22) (v := ?_) rfl rfl (by kernel_rfl) (by kernel_rfl) (by kernel_rfl) (by kernel_rfl) (fun _ _ _ h => h) (Or.inl ⟨by rfl, ?_⟩) (by assumption) ?_
    rotate_left
    · (intro w hSw; (try dsimp only at hSw); go_simp; try with_reducible rfl)
    try simp only [Act.put, List.setIfInBounds_toArray, List.set_cons_zero, List.set_cons_succ]
    refine Till.take 1 (some 23) (v := ?_) rfl rfl (by kernel_rfl) (by kernel_rfl) (by kernel_rfl) (by kernel_rfl) (fun _ _ _ h => h) (Or.inl ⟨by rfl, ?_⟩) (by assumption) ?_
    rotate_left
    · (intro w hSw; (try dsimp only at hSw); go_simp; try with_reducible rfl)
    try simp only [Act.put, List.setIfInBounds_toArray, List.set_cons_zero, List.set_cons_succ]
    have hSv : ∀ V, Below WX.heap.size WX V → _ := fun V e => (⟨keepC e e0, keepC e e1, keepC e e2, keepC e e3, keepC e e4, keepC e e5, keepC e e6, keepC e BPc⟩ : (fun w' => w'.cell? ⟨w.heap.size, 0, none⟩ = some (.slice a0 b.oxides.length k0) ∧ w'.cell? ⟨w.heap.size, 1, none⟩ = some (.slice a1 b.mats.length k1) ∧ w'.cell? ⟨w.heap.size, 2, none⟩ = some (.slice a2 b.shares.length k2) ∧ w'.cell? ⟨w.heap.size, 3, none⟩ = some (.slice a3 b.props.length k3) ∧ w'.cell? ⟨w.heap.size, 4, none⟩ = some (.int .i64 b.redox.lo) ∧ w'.cell? ⟨w.heap.size, 5, none⟩ = some (.int .i64 b.redox.hi) ∧ w'.cell? ⟨w.heap.size, 6, none⟩ = some (.int .i64 b.wanted) ∧ w'.cell? ⟨wP.heap.size, 0, none⟩ = some (.slice pe b.mats.length je)) V)
    refine Till.two 2 4 rfl rfl (by kernel_rfl) (fun K hK => ?_) (fun K hK => ?_)
    · go_simp
      go_at_call 119
      refine (hle _ D0).mono ?_
      rintro e wS ⟨vs, rfl, hvs, hbS⟩
      obtain ⟨ps, js, rfl, -⟩ := id hvs
      rw [List.length_map] at hvs
      have BS := (D0).trans (hbS.mono (D0).size)
      refine hK.out _ _ (fun _ => hSv _ BS) (fun _ => ?_)
      clear hK K
      try simp only [Act.put, List.setIfInBounds_toArray, List.set_cons_zero, List.set_cons_succ]
      refine Till.two 3 4 rfl rfl (by kernel_rfl) (fun K hK => ?_) (fun K hK => ?_)
      · go_simp
        go_at_call 76
        refine (dot_any _ _ (b.mats.map Mat.price) (b.mats.map Mat.least) _ (hpr _ BS) (hvs.mono (vis_ext _ _)) (by simp)).mono ?_
        rintro e w9 ⟨rfl, rfl⟩
        refine hK.out _ _ (fun _ => hSv _ BS) (fun _ => ?_)
        clear hK K
        try simp only [Act.put, List.setIfInBounds_toArray, List.set_cons_zero, List.set_cons_succ]
        refine Till.one 4 rfl (by kernel_rfl) (fun K hK => ?_)
        go_simp
        have BA := (BS).alloc (BS).size (.cells #[.int .i64 0] 3)
        have BD := Blk.new wS #[.int .i64 0] 3
        refine hK.out _ _ (fun _ => hSv _ BA) (fun _ => ?_)
        clear hK K
        try simp only [Act.put, List.setIfInBounds_toArray, List.set_cons_zero, List.set_cons_succ]
        have d0 := BD.cell 0 _ rfl
        have z0 := BD.frozen 0
        refine Till.one 5 rfl (by kernel_rfl) (fun K hK => ?_)
        go_simp
        refine hK.out _ _ (fun h => absurd rfl h) (fun _ => ?_)
        clear hK K
        refine Till.done (by kernel_rfl) ?_ _
        exact ⟨_, _, rfl, BS.alloc BS.size _, BS.size, Blk.new _ _ _⟩
      · go_simp
        have BA := (BS).alloc (BS).size (.cells #[.int .i64 0] 3)
        have BD := Blk.new wS #[.int .i64 0] 3
        refine hK.out _ _ (fun _ => hSv _ BA) (fun _ => ?_)
        clear hK K
        try simp only [Act.put, List.setIfInBounds_toArray, List.set_cons_zero, List.set_cons_succ]
        refine Till.one 3 rfl (by kernel_rfl) (fun K hK => ?_)
        go_simp
        go_at_call 76
        refine (dot_any _ _ (b.mats.map Mat.price) (b.mats.map Mat.least) _ (hpr _ BA) ((hvs.mono (vis_ext _ _)).mono (ext_of_below (below_box wS (.cells #[.int .i64 0] 3)))) (by simp)).mono ?_
        rintro e w9 ⟨rfl, rfl⟩
        refine hK.out _ _ (fun _ => hSv _ BA) (fun _ => ?_)
        clear hK K
        try simp only [Act.put, List.setIfInBounds_toArray, List.set_cons_zero, List.set_cons_succ]
        have d0 := BD.cell 0 _ rfl
        have z0 := BD.frozen 0
        refine Till.one 5 rfl (by kernel_rfl) (fun K hK => ?_)
        go_simp
        refine hK.out _ _ (fun h => absurd rfl h) (fun _ => ?_)
        clear hK K
        refine Till.done (by kernel_rfl) ?_ _
        exact ⟨_, _, rfl, BS.alloc BS.size _, BS.size, Blk.new _ _ _⟩
    · go_simp
      have BA := (D0).alloc (D0).size (.cells #[.int .i64 0] 3)
      have BD := Blk.new WX.drew #[.int .i64 0] 3
      refine hK.out _ _ (fun _ => hSv _ BA) (fun _ => ?_)
      clear hK K
      try simp only [Act.put, List.setIfInBounds_toArray, List.set_cons_zero, List.set_cons_succ]
      refine Till.one 2 rfl (by kernel_rfl) (fun K hK => ?_)
      go_simp
      go_at_call 119
      refine (hle _ BA).mono ?_
      rintro e wS ⟨vs, rfl, hvs, hbS⟩
      obtain ⟨ps, js, rfl, -⟩ := id hvs
      rw [List.length_map] at hvs
      have BS := (BA).trans (hbS.mono (BA).size)
      refine hK.out _ _ (fun _ => hSv _ BS) (fun _ => ?_)
      clear hK K
      try simp only [Act.put, List.setIfInBounds_toArray, List.set_cons_zero, List.set_cons_succ]
      refine Till.one 3 rfl (by kernel_rfl) (fun K hK => ?_)
      go_simp
      go_at_call 76
      refine (dot_any _ _ (b.mats.map Mat.price) (b.mats.map Mat.least) _ (hpr _ BS) (hvs.mono (vis_ext _ _)) (by simp)).mono ?_
      rintro e w9 ⟨rfl, rfl⟩
      refine hK.out _ _ (fun _ => hSv _ BS) (fun _ => ?_)
      clear hK K
      try simp only [Act.put, List.setIfInBounds_toArray, List.set_cons_zero, List.set_cons_succ]
      replace BD := BD.below hbS BD.lt
      simp only [World.size_drew] at BD
      have d0 := BD.cell 0 _ rfl
      have z0 := BD.frozen 0
      refine Till.one 5 rfl (by kernel_rfl) (fun K hK => ?_)
      go_simp
      refine hK.out _ _ (fun h => absurd rfl h) (fun _ => ?_)
      clear hK K
      refine Till.done (by kernel_rfl) ?_ _
      exact ⟨_, _, rfl, (BS).setCell (p := ⟨_, 0, none⟩) (Nat.le_refl _) _, (Nat.le_refl _), by simpa using BD.set 0 _⟩
  case rest =>
    rintro e A W hq
    cases e <;> first | exact hq.elim | skip
    obtain ⟨gd, v24, rfl, hbW, hgd, BD⟩ := hq
    replace B0 := B0.below hbW (by omega)
    replace B1 := B1.below hbW (by omega)
    replace B2 := B2.below hbW (by omega)
    replace B3 := B3.below hbW (by omega)
    replace B4 := B4.below hbW (by omega)
    replace B5 := B5.below hbW (by omega)
    replace B6 := B6.below hbW (by omega)
    replace BL := BL.below hbW (by omega)
    replace BP := BP.below hbW (by omega)
    replace hA := hA.trans (hbW.mono (by omega))
    replace hvl2 := hvl2.mono (ext_vis_of (T := (W0.heap.size ≤ ·)) (ext_of_below hbW) (fun _ _ hq => hq))
    replace hve2 := hve2.mono (ext_vis_of (T := (W1.heap.size ≤ ·)) (ext_of_below hbW) (fun _ _ hq => hq))
    have hsW := hbW.size
    clear e0 e1 e2 e3 e4 e5 e6 hle hpr D0 hbW
    have e0 := B0.cell 0 _ rfl
    have e1 := B0.cell 1 _ rfl
    have e2 := B0.cell 2 _ rfl
    have e3 := B0.cell 3 _ rfl
    have e4 := B0.cell 4 _ rfl
    have e5 := B0.cell 5 _ rfl
    have e6 := B0.cell 6 _ rfl
    go_wp2
    go_step3
    go_wp2_with fail
    refine (recipes_any b W a0 a1 a2 a3 k0 k1 k2 k3).mono ?_
    rintro e wR ⟨rfl, rfl⟩
    go_wp2
    have BB := Blk.new W #[.slice a0 b.oxides.length k0, .slice a1 b.mats.length k1, .slice a2 b.shares.length k2, .slice a3 b.props.length k3, .int .i64 b.redox.lo, .int .i64 b.redox.hi, .int .i64 b.wanted] 29
    have hbR := below_box W (.cells #[.slice a0 b.oxides.length k0, .slice a1 b.mats.length k1, .slice a2 b.shares.length k2, .slice a3 b.props.length k3, .int .i64 b.redox.lo, .int .i64 b.redox.hi, .int .i64 b.wanted] 29)
    have hzR : (W.alloc (.cells #[.slice a0 b.oxides.length k0, .slice a1 b.mats.length k1, .slice a2 b.shares.length k2, .slice a3 b.props.length k3, .int .i64 b.redox.lo, .int .i64 b.redox.hi, .int .i64 b.wanted] 29)).heap.size = W.heap.size + 1 := World.size_alloc _ _
    generalize W.alloc (.cells #[.slice a0 b.oxides.length k0, .slice a1 b.mats.length k1, .slice a2 b.shares.length k2, .slice a3 b.props.length k3, .int .i64 b.redox.lo, .int .i64 b.redox.hi, .int .i64 b.wanted] 29) = W2 at *
    replace B0 := B0.below hbR (by omega)
    replace B1 := B1.below hbR (by omega)
    replace B2 := B2.below hbR (by omega)
    replace B3 := B3.below hbR (by omega)
    replace B4 := B4.below hbR (by omega)
    replace B5 := B5.below hbR (by omega)
    replace B6 := B6.below hbR (by omega)
    replace BL := BL.below hbR (by omega)
    replace BP := BP.below hbR (by omega)
    replace BD := BD.below hbR (by have := BD.lt; omega)
    replace hA := hA.trans (hbR.mono (by omega))
    replace hvl2 := hvl2.mono (ext_vis_of (T := (W0.heap.size ≤ ·)) (ext_of_below hbR) (fun _ _ hq => hq))
    replace hve2 := hve2.mono (ext_vis_of (T := (W1.heap.size ≤ ·)) (ext_of_below hbR) (fun _ _ hq => hq))
    clear e0 e1 e2 e3 e4 e5 e6 hbR
    refine (wpIn_wide (n := 5)).1 ?_
    have hS4 : ∀ k, k < w.heap.size → ¬ three (w.heap.size + 1 + 1 + 1 + 1) (w.heap.size + 1 + 1 + 1 + 1 + 1) (w.heap.size + 1 + 1 + 1 + 1 + 1 + 1) k := fun k hk h => by rcases h with h | h | h <;> omega
    have hSB : ¬ three (w.heap.size + 1 + 1 + 1 + 1) (w.heap.size + 1 + 1 + 1 + 1 + 1) (w.heap.size + 1 + 1 + 1 + 1 + 1 + 1) W.heap.size := fun h => by rcases h with h | h | h <;> omega
    have hRB2 : RBat (vis (fun k => ¬ three (w.heap.size + 1 + 1 + 1 + 1) (w.heap.size + 1 + 1 + 1 + 1 + 1) (w.heap.size + 1 + 1 + 1 + 1 + 1 + 1) k) W2) (.agg #[.slice a0 b.oxides.length k0, .slice a1 b.mats.length k1, .slice a2 b.shares.length k2, .slice a3 b.props.length k3, .int .i64 b.redox.lo, .int .i64 b.redox.hi, .int .i64 b.wanted]) b := h.mono (ext_vis_all (ext_of_below hA) hS4)
    have hgdl := BD.lt
    have hI : RowFrom W2.heap.size (CheapI b there lots times (w.heap.size + 1 + 1 + 1 + 1) (w.heap.size + 1 + 1 + 1 + 1 + 1) (w.heap.size + 1 + 1 + 1 + 1 + 1 + 1) W2) := cheapI_row b there lots times (by omega) (by omega) (by omega)
    refine wpIn_rangeFunc_row (S := three (w.heap.size + 1 + 1 + 1 + 1) (w.heap.size + 1 + 1 + 1 + 1 + 1) (w.heap.size + 1 + 1 + 1 + 1 + 1 + 1)) (gf := 134) (lb := #[.pointer (some ⟨W.heap.size, 0, none⟩)]) (enc := fun s => #[.slice (some ⟨s.1, 0, none⟩) b.mats.length s.2]) (Owns := OwnR b W2.heap.size) (xs := recsM b.mats) (w0 := W2) rfl (by omega) rfl trivial (enters_of Try.func134 (by kernel_rfl) rfl)
      (recIt_any _ (5 - 1) (by omega) _ b W.heap.size W2 a0 a1 a2 a3 k0 k1 k2 k3 rfl hRB2 hk hSB BB W2.heap.size (Nat.le_refl _)) ?how (BelowS.refl _ _ _) (fun _ => rfl)
      (CheapI b there lots times (w.heap.size + 1 + 1 + 1 + 1) (w.heap.size + 1 + 1 + 1 + 1 + 1) (w.heap.size + 1 + 1 + 1 + 1 + 1 + 1) W2) (fun c s pre X => c = Code.exit 0 ∧ (CheapI b there lots times (w.heap.size + 1 + 1 + 1 + 1) (w.heap.size + 1 + 1 + 1 + 1 + 1) (w.heap.size + 1 + 1 + 1 + 1 + 1 + 1) W2) s pre X ∧ ∃ r, bestOf b there lots times pre = some (r, dotB (b.mats.map Mat.price) (b.mats.map Mat.least))) hI ?hix ?h0
      (fun s => { tmps := #[(.agg #[.slice a0 b.oxides.length k0, .slice a1 b.mats.length k1, .slice a2 b.shares.length k2, .slice a3 b.props.length k3, .int .i64 b.redox.lo, .int .i64 b.redox.hi, .int .i64 b.wanted]), .slice at' b.mats.length kt, .int .i64 lots, .int .i64 times, .pointer (some ⟨w.heap.size, 0, none⟩), .pointer (some ⟨w.heap.size + 1, 0, none⟩), .pointer (some ⟨w.heap.size + 1 + 1, 0, none⟩), .pointer (some ⟨w.heap.size + 1 + 1 + 1, 0, none⟩), .pointer (some ⟨w.heap.size + 1 + 1 + 1 + 1, 0, none⟩), .pointer (some ⟨w.heap.size + 1 + 1 + 1 + 1 + 1, 0, none⟩), .pointer (some ⟨w.heap.size + 1 + 1 + 1 + 1 + 1 + 1, 0, none⟩), .pointer (some ⟨wL.heap.size, 0, none⟩), .pointer (some ⟨wP.heap.size, 0, none⟩), .pointer (some ⟨gd, 0, none⟩), .slice (some ⟨s.1, 0, none⟩) b.mats.length s.2, undef, undef, undef, (.agg #[.slice a0 b.oxides.length k0, .slice a1 b.mats.length k1, .slice a2 b.shares.length k2, .slice a3 b.props.length k3, .int .i64 b.redox.lo, .int .i64 b.redox.hi, .int .i64 b.wanted]), .slice pl (linesB b).length jl, (.agg #[.slice a0 b.oxides.length k0, .slice a1 b.mats.length k1, .slice a2 b.shares.length k2, .slice a3 b.props.length k3, .int .i64 b.redox.lo, .int .i64 b.redox.hi, .int .i64 b.wanted]), .slice pe b.mats.length je, .slice pe b.mats.length je, (.agg #[.slice a0 b.oxides.length k0, .slice a1 b.mats.length k1, .slice a2 b.shares.length k2, .slice a3 b.props.length k3, .int .i64 b.redox.lo, .int .i64 b.redox.hi, .int .i64 b.wanted]), v24, .int .i64 (dotB (b.mats.map Mat.price) (b.mats.map Mat.least)), (.agg #[.slice a0 b.oxides.length k0, .slice a1 b.mats.length k1, .slice a2 b.shares.length k2, .slice a3 b.props.length k3, .int .i64 b.redox.lo, .int .i64 b.redox.hi, .int .i64 b.wanted]), .func (.func 134) #[] #[.pointer (some ⟨W.heap.size, 0, none⟩)], .slice (some ⟨s.1, 0, none⟩) b.mats.length s.2, undef, undef, undef, undef, undef, undef, undef, undef, undef, undef, undef, undef, undef, undef, undef, undef, undef, undef, undef, undef, undef, undef, undef, undef, undef, undef, undef, undef, undef, undef, undef, undef, undef, undef, undef, undef, undef, undef, undef, undef, undef], defers := [] }) ?assign ?body ?done ?stop
    case how =>
      rintro s x X l o hsl ⟨h1, h2⟩
      refine ⟨h1, h2.imp id ?_⟩
      rintro ⟨g, cap, cur, e1, e2, e3, e4⟩
      cases e1
      exact ⟨_, _, cur, rfl, e2, (World.putObj_heap_other hsl).trans e3, e4⟩
    case hix =>
      exact fun c => ⟨fun s pre X Y hs ⟨h1, h2, h3⟩ hO => ⟨h1, hI.only s pre X Y hs h2 hO, h3⟩, fun s pre X l o o' hl ho hc ⟨h1, h2, h3⟩ => ⟨h1, hI.put s pre X l o o' hl ho hc h2, h3⟩⟩
    case h0 =>
      intro s A hs hbA
      exact ⟨BelowS.of_below hbA, B4.below hbA (by omega), B5.below hbA (by omega), B6.below hbA (by omega)⟩
    case assign =>
      intro l s W3 K hK
      gi_wp2
      exact hK
    case body =>
      rintro l s pre x post W3 hs hx ⟨hb3, hr3⟩ hown
      have hs3 := hb3.size
      have hsA := hA.size
      have hbx := recs_bnd hk (show x ∈ recsM b.mats by rw [hx]; simp)
      have K1 := hb3.blk B1 (fun h => by rcases h with h | h | h <;> omega)
      have K2 := hb3.blk B2 (fun h => by rcases h with h | h | h <;> omega)
      have K3 := hb3.blk B3 (fun h => by rcases h with h | h | h <;> omega)
      have KL := hb3.blk BL (fun h => by rcases h with h | h | h <;> omega)
      have KP := hb3.blk BP (fun h => by rcases h with h | h | h <;> omega)
      have KD := hb3.blk BD (fun h => by rcases h with h | h | h <;> omega)
      have hth : RInts W3 (.slice at' b.mats.length kt) there := ht.mono ((ext_vis_all (ext_of_below hA) hS4).trans hb3.ext)
      have hpr : RInts W3 (.slice pe b.mats.length je) (b.mats.map Mat.price) := hve2.mono ((ext_vis_of (T := fun k => ¬ three (w.heap.size + 1 + 1 + 1 + 1) (w.heap.size + 1 + 1 + 1 + 1 + 1) (w.heap.size + 1 + 1 + 1 + 1 + 1 + 1) k) (Ext.refl _) (fun k _ hk h => by rcases h with h | h | h <;> omega)).trans hb3.ext)
      have hln : RLns W3 (.slice pl (linesB b).length jl) (linesB b) := hvl2.mono ((ext_vis_of (T := fun k => ¬ three (w.heap.size + 1 + 1 + 1 + 1) (w.heap.size + 1 + 1 + 1 + 1 + 1) (w.heap.size + 1 + 1 + 1 + 1 + 1 + 1) k) (Ext.refl _) (fun k _ hk h => by rcases h with h | h | h <;> omega)).trans hb3.ext)
      have hrw : RInts W3 (.slice (some ⟨s.1, 0, none⟩) b.mats.length s.2) x := by
        have hl := hbx.1
        exact own_RInts (l := x) (base := W2.heap.size) (e := 3) (by rw [hl]; exact hown) (by omega) (fun y hy => by have := hbx.2 y hy; unfold I64; omega)
      obtain ⟨av, nv, cv, cc, ff, C4, C5, C6, hres⟩ := res_open hr3
      have HR := Lib.hid hres
      have HX := Lib.hid hx
      have x1 := K1.cell 0 _ rfl
      have x2 := K2.cell 0 _ rfl
      have x3 := K3.cell 0 _ rfl
      have xL := KL.cell 0 _ rfl
      have xP := KP.cell 0 _ rfl
      have xD := KD.cell 0 _ rfl
      have x4 := C4.cell 0 _ rfl
      have x5 := C5.cell 0 _ rfl
      have x6 := C6.cell 0 _ rfl
      have y4 := C4.frozen 0
      have y5 := C5.frozen 0
      have y6 := C6.frozen 0
      clear hres hx
      have hc := dot_any (.slice pe b.mats.length je) (.slice (some ⟨s.1, 0, none⟩) b.mats.length s.2) (b.mats.map Mat.price) x W3 hpr hrw (by simp [hbx.1])
      by_cases hA1 : ff = true ∧ cc ≤ dotB (b.mats.map Mat.price) x
      · obtain ⟨rfl, hle⟩ := hA1
        have hst := step_skip there lots times HR.out hle
        have HS := Lib.hid hst
        have dl : decide (cc ≤ dotB (b.mats.map Mat.price) x) = true := decide_eq_true hle
        clear hst hle
        gi_wp2_with (refine ⟨trivial, ?_⟩; gi_at_call 76 ; refine (CallsIn.inRound l (callsIn_wide.2 hc)).mono ?_; rintro e w9 ⟨rfl, rfl⟩)
        exact ⟨KeepsFrom.refl _ _, BelowS.refl _ _ _, hown, hb3, by rw [bestOf_snoc, HS.out]; exact hr3⟩
      · have hst := step_try there lots times HR.out hA1
        have HS := Lib.hid hst
        have hor : (ff = true ∧ decide (cc ≤ dotB (b.mats.map Mat.price) x) = false) ∨ ff = false := by
          cases ff
          · exact .inr rfl
          · exact .inl ⟨rfl, decide_eq_false (fun h => hA1 ⟨rfl, h⟩)⟩
        clear hst hA1
        rcases hor with ⟨rfl, dl⟩ | rfl
        · gi_wp2_with (refine ⟨trivial, ?_⟩; gi_at_call 76 ; refine (CallsIn.inRound l (callsIn_wide.2 hc)).mono ?_; rintro e w9 ⟨rfl, rfl⟩)
          gi_loopw [40] (fun i wr => ∃ k : Nat, k ≤ (linesB b).length ∧ i = .int .i64 k ∧ Below W3.heap.size W3 wr ∧ KeepsFrom W2.heap.size W3 wr ∧ Hid (((linesB b).take k).all (okLine there lots times x) = true)) (fun i _ => (linesB b).length - (intOf i).toNat)
          case atStart => exact ⟨0, Nat.zero_le _, rfl, Below.refl _ _, KeepsFrom.refl _ _, by simp [Hid]⟩
          case round =>
            obtain ⟨k, hkk, rfl, hbk, hkf, hok⟩ := hrel
            have hq3 := hbk.size
            by_cases hlt : k < (linesB b).length
            · obtain ⟨z, zc, zq, -, ⟨-, hlz⟩, hln2⟩ := id hln
              cases zq
              obtain ⟨b1, o1, rfl, c, u, g0, g1, hc0, rfl, hui⟩ := hln2 k hlt
              obtain ⟨ac, kc, rfl, -, -, -⟩ := id hc0
              have hll := line_len (List.getElem_mem hlt)
              have hlb := (line_bd hk _ (List.getElem_mem hlt))
              have hsn := List.take_succ_eq_append_getElem hlt
              have hlm := List.getElem_mem hlt
              have e1 := ext_of_below hbk
              replace g0 := e1 _ _ g0
              replace g1 := e1 _ _ g1
              replace hc0 := hc0.mono e1
              simp only at g0 g1
              have HSN := Lib.hid hsn
              have HLM := Lib.hid hlm
              clear hln2 e1 hsn hlm
              generalize hlg : (linesB b)[k]'hlt = ln at *
              have HLG := Lib.hid hlg
              have hl1 : ln.fs.length ≤ b.mats.length := by omega
              have hl2 : b.mats.length ≤ ln.fs.length := by omega
              clear hlg hll
              have z1 := (K1.below hbk K1.lt).cell 0 _ rfl
              have z2 := (K2.below hbk K2.lt).cell 0 _ rfl
              have z3 := (K3.below hbk K3.lt).cell 0 _ rfl
              have hX := below_box wr (.cells #[.slice ac ln.fs.length kc, .int .i64 ln.bound] 39)
              have BX := Blk.new wr #[.slice ac ln.fs.length kc, .int .i64 ln.bound] 39
              have J1 := (K1.below hbk K1.lt).below hX (K1.below hbk K1.lt).lt
              have J2 := (K2.below hbk K2.lt).below hX (K2.below hbk K2.lt).lt
              have J3 := (K3.below hbk K3.lt).below hX (K3.below hbk K3.lt).lt
              gi_wp2
              generalize hWV : wr.alloc (.cells #[.slice ac ln.fs.length kc, .int .i64 ln.bound] 39) = WV at *
              have hbV : Below W3.heap.size W3 WV := hbk.trans (hX.mono hbk.size)
              have hbD : Below W3.heap.size W3 WV.drew := hbV.drew
              have hkV : KeepsFrom W2.heap.size W3 WV.drew := hkf.trans (KeepsFrom.of_below (by omega) hX.drew)
              have hth2 := hth.mono (ext_of_below hbD)
              have hrw2 := hrw.mono (ext_of_below hbD)
              have hcc2 := hc0.mono (ext_of_below hX.drew)
              clear z1 z2 z3 g0 g1 hX hWV
              refine wpIn_mono (Q := fun e AZ WZ => match e with | .normal => ∃ q41 q42 q43 q44 q45 q46 q47 q48 q49 q50 q51 q52 q53 q54 q55 q56 q57 q58 q60 : Value, AZ = { tmps := #[(.agg #[.slice a0 b.oxides.length k0, .slice a1 b.mats.length k1, .slice a2 b.shares.length k2, .slice a3 b.props.length k3, .int .i64 b.redox.lo, .int .i64 b.redox.hi, .int .i64 b.wanted]), .slice at' b.mats.length kt, .int .i64 lots, .int .i64 times, .pointer (some ⟨w.heap.size, 0, none⟩), .pointer (some ⟨w.heap.size + 1, 0, none⟩), .pointer (some ⟨w.heap.size + 1 + 1, 0, none⟩), .pointer (some ⟨w.heap.size + 1 + 1 + 1, 0, none⟩), .pointer (some ⟨w.heap.size + 1 + 1 + 1 + 1, 0, none⟩), .pointer (some ⟨w.heap.size + 1 + 1 + 1 + 1 + 1, 0, none⟩), .pointer (some ⟨w.heap.size + 1 + 1 + 1 + 1 + 1 + 1, 0, none⟩), .pointer (some ⟨wL.heap.size, 0, none⟩), .pointer (some ⟨wP.heap.size, 0, none⟩), .pointer (some ⟨gd, 0, none⟩), .slice (some ⟨s.1, 0, none⟩) b.mats.length s.2, .int .i64 (dotB (b.mats.map Mat.price) x), undef, .pointer (some ⟨wr.heap.size, 0, none⟩), (.agg #[.slice a0 b.oxides.length k0, .slice a1 b.mats.length k1, .slice a2 b.shares.length k2, .slice a3 b.props.length k3, .int .i64 b.redox.lo, .int .i64 b.redox.hi, .int .i64 b.wanted]), .slice (some ⟨b1, o1, none⟩) (linesB b).length jl, (.agg #[.slice a0 b.oxides.length k0, .slice a1 b.mats.length k1, .slice a2 b.shares.length k2, .slice a3 b.props.length k3, .int .i64 b.redox.lo, .int .i64 b.redox.hi, .int .i64 b.wanted]), .slice pe b.mats.length je, .slice pe b.mats.length je, (.agg #[.slice a0 b.oxides.length k0, .slice a1 b.mats.length k1, .slice a2 b.shares.length k2, .slice a3 b.props.length k3, .int .i64 b.redox.lo, .int .i64 b.redox.hi, .int .i64 b.wanted]), v24, .int .i64 (dotB (b.mats.map Mat.price) (b.mats.map Mat.least)), (.agg #[.slice a0 b.oxides.length k0, .slice a1 b.mats.length k1, .slice a2 b.shares.length k2, .slice a3 b.props.length k3, .int .i64 b.redox.lo, .int .i64 b.redox.hi, .int .i64 b.wanted]), .func (.func 134) #[] #[.pointer (some ⟨W.heap.size, 0, none⟩)], .slice (some ⟨s.1, 0, none⟩) b.mats.length s.2, .slice pe b.mats.length je, .slice (some ⟨s.1, 0, none⟩) b.mats.length s.2, .int .i64 (dotB (b.mats.map Mat.price) x), .bool true, .bool true, .int .i64 (dotB (b.mats.map Mat.price) x), .int .i64 cc, .bool false, .bool false, .slice (some ⟨b1, o1, none⟩) (linesB b).length jl, .int .i64 ((linesB b).length : Int), .int .i64 (k : Int), q41, q42, q43, q44, q45, q46, q47, q48, q49, q50, q51, q52, q53, q54, q55, q56, q57, q58, .bool (decide (IntKind.i64.wrap (times * ln.bound) < IntKind.i64.wrap (dotB ln.fs there + IntKind.i64.wrap (lots * dotB ln.fs x)))), q60, undef, undef, undef, undef, undef, undef, undef, undef, undef], defers := [] } ∧ WZ = WV.drew | _ => False) ?reg ?rest
              case reg =>
                have D1 := dot_any _ _ ln.fs there _ hcc2 hth2 (by rw [HL.out]; exact hl1)
                have D2 := dot_any _ _ ln.fs x _ hcc2 hrw2 (by rw [hbx.1]; exact hl1)
                refine wpIn_region_till (fun w' => w'.cell? ⟨wr.heap.size, 0, none⟩ = some (.slice ac ln.fs.length kc) ∧ w'.cell? ⟨wr.heap.size, 1, none⟩ = some (.int .i64 ln.bound) ∧ w'.cell? ⟨w.heap.size + 1, 0, none⟩ = some (.slice at' b.mats.length kt) ∧ w'.cell? ⟨w.heap.size + 1 + 1, 0, none⟩ = some (.int .i64 lots) ∧ w'.cell? ⟨w.heap.size + 1 + 1 + 1, 0, none⟩ = some (.int .i64 times)) 99 (by kernel_rfl) (by kernel_rfl) (fun ⟨_, _, h⟩ => h) ⟨BX.cell 0 _ rfl, BX.cell 1 _ rfl, J1.cell 0 _ rfl, J2.cell 0 _ rfl, J3.cell 0 _ rfl⟩ (fun hHeld => ?_)
                refine Till.take 0 (some 44) (v := ?_) rfl rfl (by kernel_rfl) (by kernel_rfl) (by kernel_rfl) (by kernel_rfl) (fun _ _ _ h => h) (Or.inl ⟨by rfl, ?_⟩) (by assumption) ?_
                rotate_left
                · (intro w hSw; (try dsimp only at hSw); go_simp; try with_reducible rfl)
                try simp only [Act.put, List.setIfInBounds_toArray, List.set_cons_zero, List.set_cons_succ]
                refine Till.take 1 (some 45) (v := ?_) rfl rfl (by kernel_rfl) (by kernel_rfl) (by kernel_rfl) (by kernel_rfl) (fun _ _ _ h => h) (Or.inl ⟨by rfl, ?_⟩) (by assumption) ?_
                rotate_left
                · (intro w hSw; (try dsimp only at hSw); go_simp; try with_reducible rfl)
                try simp only [Act.put, List.setIfInBounds_toArray, List.set_cons_zero, List.set_cons_succ]
                refine Till.take 2 (some 46) (v := ?_) rfl rfl (by kernel_rfl) (by kernel_rfl) (by kernel_rfl) (by kernel_rfl) (fun _ _ _ h => h) (Or.inl ⟨by rfl, ?_⟩) (by assumption) ?_
                rotate_left
                · (intro w hSw; (try dsimp only at hSw); go_simp; try with_reducible rfl)
                try simp only [Act.put, List.setIfInBounds_toArray, List.set_cons_zero, List.set_cons_succ]
                refine Till.take 4 (some 48) (v := ?_) rfl rfl (by kernel_rfl) (by kernel_rfl) (by kernel_rfl) (by kernel_rfl) (fun _ _ _ h => h) (Or.inl ⟨by rfl, ?_⟩) (by assumption) ?_
                rotate_left
                · (intro w hSw; (try dsimp only at hSw); go_simp; try with_reducible rfl)
                try simp only [Act.put, List.setIfInBounds_toArray, List.set_cons_zero, List.set_cons_succ]
                refine Till.take 5 (some 49) (v := ?_) rfl rfl (by kernel_rfl) (by kernel_rfl) (by kernel_rfl) (by kernel_rfl) (fun _ _ _ h => h) (Or.inl ⟨by rfl, ?_⟩) (by assumption) ?_
                rotate_left
                · (intro w hSw; (try dsimp only at hSw); go_simp; try with_reducible rfl)
                try simp only [Act.put, List.setIfInBounds_toArray, List.set_cons_zero, List.set_cons_succ]
                refine Till.take 6 (some 50) (v := ?_) rfl rfl (by kernel_rfl) (by kernel_rfl) (by kernel_rfl) (by kernel_rfl) (fun _ _ _ h => h) (Or.inl ⟨by rfl, ?_⟩) (by assumption) ?_
                rotate_left
                · (intro w hSw; (try dsimp only at hSw); go_simp; try with_reducible rfl)
                try simp only [Act.put, List.setIfInBounds_toArray, List.set_cons_zero, List.set_cons_succ]
                refine Till.take 7 (some 51) (v := ?_) rfl rfl (by kernel_rfl) (by kernel_rfl) (by kernel_rfl) (by kernel_rfl) (fun _ _ _ h => h) (Or.inl ⟨by rfl, ?_⟩) (by assumption) ?_
                rotate_left
                · (intro w hSw; (try dsimp only at hSw); go_simp; try with_reducible rfl)
                try simp only [Act.put, List.setIfInBounds_toArray, List.set_cons_zero, List.set_cons_succ]
                refine Till.take 11 (some 55) (v := ?_) rfl rfl (by kernel_rfl) (by kernel_rfl) (by kernel_rfl) (by kernel_rfl) (fun _ _ _ h => h) (Or.inl ⟨by rfl, ?_⟩) (by assumption) ?_
                rotate_left
                · (intro w hSw; (try dsimp only at hSw); go_simp; try with_reducible rfl)
                try simp only [Act.put, List.setIfInBounds_toArray, List.set_cons_zero, List.set_cons_succ]
                refine Till.take 12 (some 56) (v := ?_) rfl rfl (by kernel_rfl) (by kernel_rfl) (by kernel_rfl) (by kernel_rfl) (fun _ _ _ h => h) (Or.inl ⟨by rfl, ?_⟩) (by assumption) ?_
                rotate_left
                · (intro w hSw; (try dsimp only at hSw); go_simp; try with_reducible rfl)
                try simp only [Act.put, List.setIfInBounds_toArray, List.set_cons_zero, List.set_cons_succ]
                refine Till.take 13 (some 57) (v := ?_) rfl rfl (by kernel_rfl) (by kernel_rfl) (by kernel_rfl) (by kernel_rfl) (fun _ _ _ h => h) (Or.inl ⟨by rfl, ?_⟩) (by assumption) ?_
                rotate_left
                · (intro w hSw; (try dsimp only at hSw); go_simp; try with_reducible rfl)
                try simp only [Act.put, List.setIfInBounds_toArray, List.set_cons_zero, List.set_cons_succ]
                refine Till.take 14 (some 58) (v := ?_) rfl rfl (by kernel_rfl) (by kernel_rfl) (by kernel_rfl) (by kernel_rfl) (fun _ _ _ h => h) (Or.inl ⟨by rfl, ?_⟩) (by assumption) ?_
                rotate_left
                · (intro w hSw; (try dsimp only at hSw); go_simp; try with_reducible rfl)
                try simp only [Act.put, List.setIfInBounds_toArray, List.set_cons_zero, List.set_cons_succ]
                refine Till.one 3 rfl (by kernel_rfl) (fun K hK => ?_)
                go_simp
                go_at_call 76 
                refine D1.mono ?_
                rintro e w9 ⟨rfl, rfl⟩
                refine hK.out _ _ (fun _ => hHeld) (fun _ => ?_)
                clear hK K
                try simp only [Act.put, List.setIfInBounds_toArray, List.set_cons_zero, List.set_cons_succ]
                refine Till.one 8 rfl (by kernel_rfl) (fun K hK => ?_)
                go_simp
                go_at_call 76 
                refine D2.mono ?_
                rintro e w9 ⟨rfl, rfl⟩
                refine hK.out _ _ (fun _ => hHeld) (fun _ => ?_)
                clear hK K
                try simp only [Act.put, List.setIfInBounds_toArray, List.set_cons_zero, List.set_cons_succ]
                refine Till.take 9 (some 53) (v := ?_) rfl rfl (by kernel_rfl) (by kernel_rfl) (by kernel_rfl) (by kernel_rfl) (fun _ _ _ h => h) (Or.inl ⟨by rfl, ?_⟩) (by assumption) ?_
                rotate_left
                · (intro w hSw; (try dsimp only at hSw); go_simp; try with_reducible rfl)
                try simp only [Act.put, List.setIfInBounds_toArray, List.set_cons_zero, List.set_cons_succ]
                refine Till.take 10 (some 54) (v := ?_) rfl rfl (by kernel_rfl) (by kernel_rfl) (by kernel_rfl) (by kernel_rfl) (fun _ _ _ h => h) (Or.inl ⟨by rfl, ?_⟩) (by assumption) ?_
                rotate_left
                · (intro w hSw; (try dsimp only at hSw); go_simp; try with_reducible rfl)
                try simp only [Act.put, List.setIfInBounds_toArray, List.set_cons_zero, List.set_cons_succ]
                refine Till.take 15 (some 59) (v := ?_) rfl rfl (by kernel_rfl) (by kernel_rfl) (by kernel_rfl) (by kernel_rfl) (fun _ _ _ h => h) (Or.inl ⟨by rfl, ?_⟩) (by assumption) ?_
                rotate_left
                · (intro w hSw; (try dsimp only at hSw); go_simp; try with_reducible rfl)
                try simp only [Act.put, List.setIfInBounds_toArray, List.set_cons_zero, List.set_cons_succ]
                refine Till.done (by kernel_rfl) ?_ _
                exact ⟨_, _, _, _, _, _, _, _, _, _, _, _, _, _, _, _, _, _, _, rfl, rfl⟩
              case rest =>
                rintro e AZ WZ hq
                cases e <;> first | exact hq.elim | skip
                obtain ⟨q41, q42, q43, q44, q45, q46, q47, q48, q49, q50, q51, q52, q53, q54, q55, q56, q57, q58, q60, rfl, rfl⟩ := hq
                rw [IntWalk.i64_left, IntWalk.i64_left, IntWalk.i64_left]
                have hcond : okLine there lots times x ln = !decide (wrap64 (times * ln.bound) < wrap64 (dotB ln.fs there + wrap64 (lots * dotB ln.fs x))) := by
                  unfold okLine
                  rw [Bool.eq_iff_iff]
                  simp
                have HC := Lib.hid hcond
                clear hcond
                obtain ⟨m1, m2, m3, m4⟩ := cheap_keep (b := b) (base := W2.heap.size) (by omega) (by omega) (by omega) hb3 hr3 hown hbD
                gi_wp2
                · rename_i hd
                  have hno : fitsB b there lots times x = false := by
                    rw [fits_ok]
                    refine Bool.eq_false_iff.2 fun h => ?_
                    have h1 := List.all_eq_true.1 h _ HLM.out
                    rw [HC.out, decide_eq_true hd] at h1
                    cases h1
                  exact ⟨hkV, m1, m2, m3, by rw [bestOf_snoc, HS.out, hno]; exact m4⟩
                · rename_i hd
                  have hnx : ((linesB b).take (k + 1)).all (okLine there lots times x) = true := by
                    rw [HSN.out, List.all_append, hok.out]
                    simp only [List.all_cons, List.all_nil, Bool.and_true, Bool.true_and]
                    rw [HC.out, decide_eq_false (by omega)]
                    rfl
                  clear hd
                  go_roundw
                  case rel => exact ⟨k + 1, by omega, by go_num, hbD, hkV, hnx⟩
                  case measure => simp [intOf]; omega
            · have hall : fitsB b there lots times x = true := by
                have := hok.out
                rw [List.take_of_length_le (by omega)] at this
                exact this
              have HALL := Lib.hid hall
              have hkd : decide (k < (linesB b).length) = false := decide_eq_false hlt
              have hrw2 := hrw.mono (ext_of_below hbk)
              have E4 := C4.below hbk C4.lt
              have E5 := C5.below hbk C5.lt
              have E6 := C6.below hbk C6.lt
              have ED := KD.below hbk KD.lt
              have hcl := clone_any _ x wr hrw2 (by have := hbx.1; omega)
              clear hall
              gi_wp2_with (refine ⟨trivial, ?_⟩; gi_at_call 121 ; refine (CallsIn.inRound l (callsIn_wide.2 hcl)).mono ?_; rintro e wc ⟨v, rfl, hvo, hbc⟩; have hfd := cheap_found (b := b) (c := dotB (b.mats.map Mat.price) x) (by omega) (by omega) (by omega) (by omega) (by omega) (by omega) hs hb3 C4 C5 C6 hown (hbk.trans (hbc.mono hbk.size)) (own_RInts (own_vis (S := (W3.heap.size ≤ ·)) hvo (fun g hg => Nat.le_trans hbk.size (hvo.lt g hg).1)) (by have := hbx.1; omega) (fun y hy => by have := hbx.2 y hy; unfold I64; omega)); obtain ⟨va, vc, rfl⟩ := own_slice hvo; have HF := Lib.hid hfd; clear hfd; have f4 := (E4.below hbc E4.lt).cell 0 _ rfl; have f5 := (E5.below hbc E5.lt).cell 0 _ rfl; have f6 := (E6.below hbc E6.lt).cell 0 _ rfl; have fd := (ED.below hbc ED.lt).cell 0 _ rfl; have g4 := (E4.below hbc E4.lt).frozen 0; have g5 := (E5.below hbc E5.lt).frozen 0; have g6 := (E6.below hbc E6.lt).frozen 0)
              all_goals
                rename_i hq
                have hf2 := HF.out
                have hxl := hbx.1
                rw [hxl] at hf2
                obtain ⟨m1, m2, m3, m4, m5⟩ := hf2
                have hk6 : KeepsFrom W2.heap.size W3 _ := (hkf.trans (KeepsFrom.of_below (by have := hbk.size; omega) hbc)).trans m1
              · exact ⟨hk6, rfl, ⟨m4, by rw [bestOf_snoc, HS.out, HALL.out]; exact m5⟩, x, by rw [bestOf_snoc, HS.out, HALL.out, eq_of_beq hq]; rfl⟩
              · exact ⟨hk6, m2, m3, m4, by rw [bestOf_snoc, HS.out, HALL.out]; exact m5⟩
        · gi_wp2_with (refine ⟨trivial, ?_⟩; gi_at_call 76 ; refine (CallsIn.inRound l (callsIn_wide.2 hc)).mono ?_; rintro e w9 ⟨rfl, rfl⟩)
          gi_loopw [40] (fun i wr => ∃ k : Nat, k ≤ (linesB b).length ∧ i = .int .i64 k ∧ Below W3.heap.size W3 wr ∧ KeepsFrom W2.heap.size W3 wr ∧ Hid (((linesB b).take k).all (okLine there lots times x) = true)) (fun i _ => (linesB b).length - (intOf i).toNat)
          case atStart => exact ⟨0, Nat.zero_le _, rfl, Below.refl _ _, KeepsFrom.refl _ _, by simp [Hid]⟩
          case round =>
            obtain ⟨k, hkk, rfl, hbk, hkf, hok⟩ := hrel
            have hq3 := hbk.size
            by_cases hlt : k < (linesB b).length
            · obtain ⟨z, zc, zq, -, ⟨-, hlz⟩, hln2⟩ := id hln
              cases zq
              obtain ⟨b1, o1, rfl, c, u, g0, g1, hc0, rfl, hui⟩ := hln2 k hlt
              obtain ⟨ac, kc, rfl, -, -, -⟩ := id hc0
              have hll := line_len (List.getElem_mem hlt)
              have hlb := (line_bd hk _ (List.getElem_mem hlt))
              have hsn := List.take_succ_eq_append_getElem hlt
              have hlm := List.getElem_mem hlt
              have e1 := ext_of_below hbk
              replace g0 := e1 _ _ g0
              replace g1 := e1 _ _ g1
              replace hc0 := hc0.mono e1
              simp only at g0 g1
              have HSN := Lib.hid hsn
              have HLM := Lib.hid hlm
              clear hln2 e1 hsn hlm
              generalize hlg : (linesB b)[k]'hlt = ln at *
              have HLG := Lib.hid hlg
              have hl1 : ln.fs.length ≤ b.mats.length := by omega
              have hl2 : b.mats.length ≤ ln.fs.length := by omega
              clear hlg hll
              have z1 := (K1.below hbk K1.lt).cell 0 _ rfl
              have z2 := (K2.below hbk K2.lt).cell 0 _ rfl
              have z3 := (K3.below hbk K3.lt).cell 0 _ rfl
              have hX := below_box wr (.cells #[.slice ac ln.fs.length kc, .int .i64 ln.bound] 39)
              have BX := Blk.new wr #[.slice ac ln.fs.length kc, .int .i64 ln.bound] 39
              have J1 := (K1.below hbk K1.lt).below hX (K1.below hbk K1.lt).lt
              have J2 := (K2.below hbk K2.lt).below hX (K2.below hbk K2.lt).lt
              have J3 := (K3.below hbk K3.lt).below hX (K3.below hbk K3.lt).lt
              gi_wp2
              generalize hWV : wr.alloc (.cells #[.slice ac ln.fs.length kc, .int .i64 ln.bound] 39) = WV at *
              have hbV : Below W3.heap.size W3 WV := hbk.trans (hX.mono hbk.size)
              have hbD : Below W3.heap.size W3 WV.drew := hbV.drew
              have hkV : KeepsFrom W2.heap.size W3 WV.drew := hkf.trans (KeepsFrom.of_below (by omega) hX.drew)
              have hth2 := hth.mono (ext_of_below hbD)
              have hrw2 := hrw.mono (ext_of_below hbD)
              have hcc2 := hc0.mono (ext_of_below hX.drew)
              clear z1 z2 z3 g0 g1 hX hWV
              refine wpIn_mono (Q := fun e AZ WZ => match e with | .normal => ∃ q41 q42 q43 q44 q45 q46 q47 q48 q49 q50 q51 q52 q53 q54 q55 q56 q57 q58 q60 : Value, AZ = { tmps := #[(.agg #[.slice a0 b.oxides.length k0, .slice a1 b.mats.length k1, .slice a2 b.shares.length k2, .slice a3 b.props.length k3, .int .i64 b.redox.lo, .int .i64 b.redox.hi, .int .i64 b.wanted]), .slice at' b.mats.length kt, .int .i64 lots, .int .i64 times, .pointer (some ⟨w.heap.size, 0, none⟩), .pointer (some ⟨w.heap.size + 1, 0, none⟩), .pointer (some ⟨w.heap.size + 1 + 1, 0, none⟩), .pointer (some ⟨w.heap.size + 1 + 1 + 1, 0, none⟩), .pointer (some ⟨w.heap.size + 1 + 1 + 1 + 1, 0, none⟩), .pointer (some ⟨w.heap.size + 1 + 1 + 1 + 1 + 1, 0, none⟩), .pointer (some ⟨w.heap.size + 1 + 1 + 1 + 1 + 1 + 1, 0, none⟩), .pointer (some ⟨wL.heap.size, 0, none⟩), .pointer (some ⟨wP.heap.size, 0, none⟩), .pointer (some ⟨gd, 0, none⟩), .slice (some ⟨s.1, 0, none⟩) b.mats.length s.2, .int .i64 (dotB (b.mats.map Mat.price) x), undef, .pointer (some ⟨wr.heap.size, 0, none⟩), (.agg #[.slice a0 b.oxides.length k0, .slice a1 b.mats.length k1, .slice a2 b.shares.length k2, .slice a3 b.props.length k3, .int .i64 b.redox.lo, .int .i64 b.redox.hi, .int .i64 b.wanted]), .slice (some ⟨b1, o1, none⟩) (linesB b).length jl, (.agg #[.slice a0 b.oxides.length k0, .slice a1 b.mats.length k1, .slice a2 b.shares.length k2, .slice a3 b.props.length k3, .int .i64 b.redox.lo, .int .i64 b.redox.hi, .int .i64 b.wanted]), .slice pe b.mats.length je, .slice pe b.mats.length je, (.agg #[.slice a0 b.oxides.length k0, .slice a1 b.mats.length k1, .slice a2 b.shares.length k2, .slice a3 b.props.length k3, .int .i64 b.redox.lo, .int .i64 b.redox.hi, .int .i64 b.wanted]), v24, .int .i64 (dotB (b.mats.map Mat.price) (b.mats.map Mat.least)), (.agg #[.slice a0 b.oxides.length k0, .slice a1 b.mats.length k1, .slice a2 b.shares.length k2, .slice a3 b.props.length k3, .int .i64 b.redox.lo, .int .i64 b.redox.hi, .int .i64 b.wanted]), .func (.func 134) #[] #[.pointer (some ⟨W.heap.size, 0, none⟩)], .slice (some ⟨s.1, 0, none⟩) b.mats.length s.2, .slice pe b.mats.length je, .slice (some ⟨s.1, 0, none⟩) b.mats.length s.2, .int .i64 (dotB (b.mats.map Mat.price) x), .bool false, .bool false, undef, undef, undef, .bool false, .slice (some ⟨b1, o1, none⟩) (linesB b).length jl, .int .i64 ((linesB b).length : Int), .int .i64 (k : Int), q41, q42, q43, q44, q45, q46, q47, q48, q49, q50, q51, q52, q53, q54, q55, q56, q57, q58, .bool (decide (IntKind.i64.wrap (times * ln.bound) < IntKind.i64.wrap (dotB ln.fs there + IntKind.i64.wrap (lots * dotB ln.fs x)))), q60, undef, undef, undef, undef, undef, undef, undef, undef, undef], defers := [] } ∧ WZ = WV.drew | _ => False) ?reg ?rest
              case reg =>
                have D1 := dot_any _ _ ln.fs there _ hcc2 hth2 (by rw [HL.out]; exact hl1)
                have D2 := dot_any _ _ ln.fs x _ hcc2 hrw2 (by rw [hbx.1]; exact hl1)
                refine wpIn_region_till (fun w' => w'.cell? ⟨wr.heap.size, 0, none⟩ = some (.slice ac ln.fs.length kc) ∧ w'.cell? ⟨wr.heap.size, 1, none⟩ = some (.int .i64 ln.bound) ∧ w'.cell? ⟨w.heap.size + 1, 0, none⟩ = some (.slice at' b.mats.length kt) ∧ w'.cell? ⟨w.heap.size + 1 + 1, 0, none⟩ = some (.int .i64 lots) ∧ w'.cell? ⟨w.heap.size + 1 + 1 + 1, 0, none⟩ = some (.int .i64 times)) 99 (by kernel_rfl) (by kernel_rfl) (fun ⟨_, _, h⟩ => h) ⟨BX.cell 0 _ rfl, BX.cell 1 _ rfl, J1.cell 0 _ rfl, J2.cell 0 _ rfl, J3.cell 0 _ rfl⟩ (fun hHeld => ?_)
                refine Till.take 0 (some 44) (v := ?_) rfl rfl (by kernel_rfl) (by kernel_rfl) (by kernel_rfl) (by kernel_rfl) (fun _ _ _ h => h) (Or.inl ⟨by rfl, ?_⟩) (by assumption) ?_
                rotate_left
                · (intro w hSw; (try dsimp only at hSw); go_simp; try with_reducible rfl)
                try simp only [Act.put, List.setIfInBounds_toArray, List.set_cons_zero, List.set_cons_succ]
                refine Till.take 1 (some 45) (v := ?_) rfl rfl (by kernel_rfl) (by kernel_rfl) (by kernel_rfl) (by kernel_rfl) (fun _ _ _ h => h) (Or.inl ⟨by rfl, ?_⟩) (by assumption) ?_
                rotate_left
                · (intro w hSw; (try dsimp only at hSw); go_simp; try with_reducible rfl)
                try simp only [Act.put, List.setIfInBounds_toArray, List.set_cons_zero, List.set_cons_succ]
                refine Till.take 2 (some 46) (v := ?_) rfl rfl (by kernel_rfl) (by kernel_rfl) (by kernel_rfl) (by kernel_rfl) (fun _ _ _ h => h) (Or.inl ⟨by rfl, ?_⟩) (by assumption) ?_
                rotate_left
                · (intro w hSw; (try dsimp only at hSw); go_simp; try with_reducible rfl)
                try simp only [Act.put, List.setIfInBounds_toArray, List.set_cons_zero, List.set_cons_succ]
                refine Till.take 4 (some 48) (v := ?_) rfl rfl (by kernel_rfl) (by kernel_rfl) (by kernel_rfl) (by kernel_rfl) (fun _ _ _ h => h) (Or.inl ⟨by rfl, ?_⟩) (by assumption) ?_
                rotate_left
                · (intro w hSw; (try dsimp only at hSw); go_simp; try with_reducible rfl)
                try simp only [Act.put, List.setIfInBounds_toArray, List.set_cons_zero, List.set_cons_succ]
                refine Till.take 5 (some 49) (v := ?_) rfl rfl (by kernel_rfl) (by kernel_rfl) (by kernel_rfl) (by kernel_rfl) (fun _ _ _ h => h) (Or.inl ⟨by rfl, ?_⟩) (by assumption) ?_
                rotate_left
                · (intro w hSw; (try dsimp only at hSw); go_simp; try with_reducible rfl)
                try simp only [Act.put, List.setIfInBounds_toArray, List.set_cons_zero, List.set_cons_succ]
                refine Till.take 6 (some 50) (v := ?_) rfl rfl (by kernel_rfl) (by kernel_rfl) (by kernel_rfl) (by kernel_rfl) (fun _ _ _ h => h) (Or.inl ⟨by rfl, ?_⟩) (by assumption) ?_
                rotate_left
                · (intro w hSw; (try dsimp only at hSw); go_simp; try with_reducible rfl)
                try simp only [Act.put, List.setIfInBounds_toArray, List.set_cons_zero, List.set_cons_succ]
                refine Till.take 7 (some 51) (v := ?_) rfl rfl (by kernel_rfl) (by kernel_rfl) (by kernel_rfl) (by kernel_rfl) (fun _ _ _ h => h) (Or.inl ⟨by rfl, ?_⟩) (by assumption) ?_
                rotate_left
                · (intro w hSw; (try dsimp only at hSw); go_simp; try with_reducible rfl)
                try simp only [Act.put, List.setIfInBounds_toArray, List.set_cons_zero, List.set_cons_succ]
                refine Till.take 11 (some 55) (v := ?_) rfl rfl (by kernel_rfl) (by kernel_rfl) (by kernel_rfl) (by kernel_rfl) (fun _ _ _ h => h) (Or.inl ⟨by rfl, ?_⟩) (by assumption) ?_
                rotate_left
                · (intro w hSw; (try dsimp only at hSw); go_simp; try with_reducible rfl)
                try simp only [Act.put, List.setIfInBounds_toArray, List.set_cons_zero, List.set_cons_succ]
                refine Till.take 12 (some 56) (v := ?_) rfl rfl (by kernel_rfl) (by kernel_rfl) (by kernel_rfl) (by kernel_rfl) (fun _ _ _ h => h) (Or.inl ⟨by rfl, ?_⟩) (by assumption) ?_
                rotate_left
                · (intro w hSw; (try dsimp only at hSw); go_simp; try with_reducible rfl)
                try simp only [Act.put, List.setIfInBounds_toArray, List.set_cons_zero, List.set_cons_succ]
                refine Till.take 13 (some 57) (v := ?_) rfl rfl (by kernel_rfl) (by kernel_rfl) (by kernel_rfl) (by kernel_rfl) (fun _ _ _ h => h) (Or.inl ⟨by rfl, ?_⟩) (by assumption) ?_
                rotate_left
                · (intro w hSw; (try dsimp only at hSw); go_simp; try with_reducible rfl)
                try simp only [Act.put, List.setIfInBounds_toArray, List.set_cons_zero, List.set_cons_succ]
                refine Till.take 14 (some 58) (v := ?_) rfl rfl (by kernel_rfl) (by kernel_rfl) (by kernel_rfl) (by kernel_rfl) (fun _ _ _ h => h) (Or.inl ⟨by rfl, ?_⟩) (by assumption) ?_
                rotate_left
                · (intro w hSw; (try dsimp only at hSw); go_simp; try with_reducible rfl)
                try simp only [Act.put, List.setIfInBounds_toArray, List.set_cons_zero, List.set_cons_succ]
                refine Till.one 3 rfl (by kernel_rfl) (fun K hK => ?_)
                go_simp
                go_at_call 76 
                refine D1.mono ?_
                rintro e w9 ⟨rfl, rfl⟩
                refine hK.out _ _ (fun _ => hHeld) (fun _ => ?_)
                clear hK K
                try simp only [Act.put, List.setIfInBounds_toArray, List.set_cons_zero, List.set_cons_succ]
                refine Till.one 8 rfl (by kernel_rfl) (fun K hK => ?_)
                go_simp
                go_at_call 76 
                refine D2.mono ?_
                rintro e w9 ⟨rfl, rfl⟩
                refine hK.out _ _ (fun _ => hHeld) (fun _ => ?_)
                clear hK K
                try simp only [Act.put, List.setIfInBounds_toArray, List.set_cons_zero, List.set_cons_succ]
                refine Till.take 9 (some 53) (v := ?_) rfl rfl (by kernel_rfl) (by kernel_rfl) (by kernel_rfl) (by kernel_rfl) (fun _ _ _ h => h) (Or.inl ⟨by rfl, ?_⟩) (by assumption) ?_
                rotate_left
                · (intro w hSw; (try dsimp only at hSw); go_simp; try with_reducible rfl)
                try simp only [Act.put, List.setIfInBounds_toArray, List.set_cons_zero, List.set_cons_succ]
                refine Till.take 10 (some 54) (v := ?_) rfl rfl (by kernel_rfl) (by kernel_rfl) (by kernel_rfl) (by kernel_rfl) (fun _ _ _ h => h) (Or.inl ⟨by rfl, ?_⟩) (by assumption) ?_
                rotate_left
                · (intro w hSw; (try dsimp only at hSw); go_simp; try with_reducible rfl)
                try simp only [Act.put, List.setIfInBounds_toArray, List.set_cons_zero, List.set_cons_succ]
                refine Till.take 15 (some 59) (v := ?_) rfl rfl (by kernel_rfl) (by kernel_rfl) (by kernel_rfl) (by kernel_rfl) (fun _ _ _ h => h) (Or.inl ⟨by rfl, ?_⟩) (by assumption) ?_
                rotate_left
                · (intro w hSw; (try dsimp only at hSw); go_simp; try with_reducible rfl)
                try simp only [Act.put, List.setIfInBounds_toArray, List.set_cons_zero, List.set_cons_succ]
                refine Till.done (by kernel_rfl) ?_ _
                exact ⟨_, _, _, _, _, _, _, _, _, _, _, _, _, _, _, _, _, _, _, rfl, rfl⟩
              case rest =>
                rintro e AZ WZ hq
                cases e <;> first | exact hq.elim | skip
                obtain ⟨q41, q42, q43, q44, q45, q46, q47, q48, q49, q50, q51, q52, q53, q54, q55, q56, q57, q58, q60, rfl, rfl⟩ := hq
                rw [IntWalk.i64_left, IntWalk.i64_left, IntWalk.i64_left]
                have hcond : okLine there lots times x ln = !decide (wrap64 (times * ln.bound) < wrap64 (dotB ln.fs there + wrap64 (lots * dotB ln.fs x))) := by
                  unfold okLine
                  rw [Bool.eq_iff_iff]
                  simp
                have HC := Lib.hid hcond
                clear hcond
                obtain ⟨m1, m2, m3, m4⟩ := cheap_keep (b := b) (base := W2.heap.size) (by omega) (by omega) (by omega) hb3 hr3 hown hbD
                gi_wp2
                · rename_i hd
                  have hno : fitsB b there lots times x = false := by
                    rw [fits_ok]
                    refine Bool.eq_false_iff.2 fun h => ?_
                    have h1 := List.all_eq_true.1 h _ HLM.out
                    rw [HC.out, decide_eq_true hd] at h1
                    cases h1
                  exact ⟨hkV, m1, m2, m3, by rw [bestOf_snoc, HS.out, hno]; exact m4⟩
                · rename_i hd
                  have hnx : ((linesB b).take (k + 1)).all (okLine there lots times x) = true := by
                    rw [HSN.out, List.all_append, hok.out]
                    simp only [List.all_cons, List.all_nil, Bool.and_true, Bool.true_and]
                    rw [HC.out, decide_eq_false (by omega)]
                    rfl
                  clear hd
                  go_roundw
                  case rel => exact ⟨k + 1, by omega, by go_num, hbD, hkV, hnx⟩
                  case measure => simp [intOf]; omega
            · have hall : fitsB b there lots times x = true := by
                have := hok.out
                rw [List.take_of_length_le (by omega)] at this
                exact this
              have HALL := Lib.hid hall
              have hkd : decide (k < (linesB b).length) = false := decide_eq_false hlt
              have hrw2 := hrw.mono (ext_of_below hbk)
              have E4 := C4.below hbk C4.lt
              have E5 := C5.below hbk C5.lt
              have E6 := C6.below hbk C6.lt
              have ED := KD.below hbk KD.lt
              have hcl := clone_any _ x wr hrw2 (by have := hbx.1; omega)
              clear hall
              gi_wp2_with (refine ⟨trivial, ?_⟩; gi_at_call 121 ; refine (CallsIn.inRound l (callsIn_wide.2 hcl)).mono ?_; rintro e wc ⟨v, rfl, hvo, hbc⟩; have hfd := cheap_found (b := b) (c := dotB (b.mats.map Mat.price) x) (by omega) (by omega) (by omega) (by omega) (by omega) (by omega) hs hb3 C4 C5 C6 hown (hbk.trans (hbc.mono hbk.size)) (own_RInts (own_vis (S := (W3.heap.size ≤ ·)) hvo (fun g hg => Nat.le_trans hbk.size (hvo.lt g hg).1)) (by have := hbx.1; omega) (fun y hy => by have := hbx.2 y hy; unfold I64; omega)); obtain ⟨va, vc, rfl⟩ := own_slice hvo; have HF := Lib.hid hfd; clear hfd; have f4 := (E4.below hbc E4.lt).cell 0 _ rfl; have f5 := (E5.below hbc E5.lt).cell 0 _ rfl; have f6 := (E6.below hbc E6.lt).cell 0 _ rfl; have fd := (ED.below hbc ED.lt).cell 0 _ rfl; have g4 := (E4.below hbc E4.lt).frozen 0; have g5 := (E5.below hbc E5.lt).frozen 0; have g6 := (E6.below hbc E6.lt).frozen 0)
              all_goals
                rename_i hq
                have hf2 := HF.out
                have hxl := hbx.1
                rw [hxl] at hf2
                obtain ⟨m1, m2, m3, m4, m5⟩ := hf2
                have hk6 : KeepsFrom W2.heap.size W3 _ := (hkf.trans (KeepsFrom.of_below (by have := hbk.size; omega) hbc)).trans m1
              · exact ⟨hk6, rfl, ⟨m4, by rw [bestOf_snoc, HS.out, HALL.out]; exact m5⟩, x, by rw [bestOf_snoc, HS.out, HALL.out, eq_of_beq hq]; rfl⟩
              · exact ⟨hk6, m2, m3, m4, by rw [bestOf_snoc, HS.out, HALL.out]; exact m5⟩
    case done =>
      rintro D s W3 hD hs ⟨hb3, hr3⟩ hK
      obtain ⟨av, nv, cv, cc, ff, C4, C5, C6, hres⟩ := res_open hr3
      have HR := Lib.hid hres
      have x4 := C4.cell 0 _ rfl
      have x5 := C5.cell 0 _ rfl
      have x6 := C6.cell 0 _ rfl
      have y4 := C4.frozen 0
      have y5 := C5.frozen 0
      have y6 := C6.frozen 0
      clear hres
      go_wp2
      go_region
      go_wp2
      have hk3 : ((((W3.setCell ⟨w.heap.size + 1 + 1 + 1 + 1, 0, none⟩ (.slice av nv cv)).setCell ⟨w.heap.size + 1 + 1 + 1 + 1 + 1, 0, none⟩ (.int .i64 cc)).setCell ⟨w.heap.size + 1 + 1 + 1 + 1 + 1 + 1, 0, none⟩ (.bool ff)).drew).heap[D]? = some (.deferred (some [])) := by
        have D5 := (blk_same C4 (w.heap.size + 1 + 1 + 1 + 1 + 1)).trans C5
        have D6 := ((blk_same D5 (w.heap.size + 1 + 1 + 1 + 1 + 1 + 1)).trans (blk_same C4 (w.heap.size + 1 + 1 + 1 + 1 + 1 + 1))).trans C6
        exact (blk_same D6 D).trans ((blk_same D5 D).trans ((blk_same C4 D).trans hK))
      refine ⟨by simp, .inl ⟨_, _, rfl, run_takeDeferred hk3, ?_⟩⟩
      have hfw := fun j hj => fin_world (D := D) C4 C5 C6 j hj
      have hos : ((((W3.setCell ⟨w.heap.size + 1 + 1 + 1 + 1, 0, none⟩ (.slice av nv cv)).setCell ⟨w.heap.size + 1 + 1 + 1 + 1 + 1, 0, none⟩ (.int .i64 cc)).setCell ⟨w.heap.size + 1 + 1 + 1 + 1 + 1 + 1, 0, none⟩ (.bool ff)).drew.putObj D (.deferred none)).os = W3.os := rfl
      have htp : ((((W3.setCell ⟨w.heap.size + 1 + 1 + 1 + 1, 0, none⟩ (.slice av nv cv)).setCell ⟨w.heap.size + 1 + 1 + 1 + 1 + 1, 0, none⟩ (.int .i64 cc)).setCell ⟨w.heap.size + 1 + 1 + 1 + 1 + 1 + 1, 0, none⟩ (.bool ff)).drew.putObj D (.deferred none)).tape = W3.tape := rfl
      have hou : ((((W3.setCell ⟨w.heap.size + 1 + 1 + 1 + 1, 0, none⟩ (.slice av nv cv)).setCell ⟨w.heap.size + 1 + 1 + 1 + 1 + 1, 0, none⟩ (.int .i64 cc)).setCell ⟨w.heap.size + 1 + 1 + 1 + 1 + 1 + 1, 0, none⟩ (.bool ff)).drew.putObj D (.deferred none)).output = W3.output := rfl
      have hsz : ((((W3.setCell ⟨w.heap.size + 1 + 1 + 1 + 1, 0, none⟩ (.slice av nv cv)).setCell ⟨w.heap.size + 1 + 1 + 1 + 1 + 1, 0, none⟩ (.int .i64 cc)).setCell ⟨w.heap.size + 1 + 1 + 1 + 1 + 1 + 1, 0, none⟩ (.bool ff)).drew.putObj D (.deferred none)).heap.size = W3.heap.size := by simp
      generalize ((((W3.setCell ⟨w.heap.size + 1 + 1 + 1 + 1, 0, none⟩ (.slice av nv cv)).setCell ⟨w.heap.size + 1 + 1 + 1 + 1 + 1, 0, none⟩ (.int .i64 cc)).setCell ⟨w.heap.size + 1 + 1 + 1 + 1 + 1 + 1, 0, none⟩ (.bool ff)).drew.putObj D (.deferred none)) = W4 at *
      have G4 : Blk W4 (w.heap.size + 1 + 1 + 1 + 1) #[.slice av nv cv] 37 := (hfw _ (by omega)).trans C4
      have G5 : Blk W4 (w.heap.size + 1 + 1 + 1 + 1 + 1) #[.int .i64 cc] 3 := (hfw _ (by omega)).trans C5
      have G6 : Blk W4 (w.heap.size + 1 + 1 + 1 + 1 + 1 + 1) #[.bool ff] 4 := (hfw _ (by omega)).trans C6
      have t4 := G4.cell 0 _ rfl
      have t5 := G5.cell 0 _ rfl
      have t6 := G6.cell 0 _ rfl
      exact ⟨.tuple #[.slice av nv cv, .int .i64 cc, .bool ff], (by simp only [results, Try.results84]; simp [go_sem, t4, t5, t6]), cheap_post hA hD (by omega) (by omega) (by omega) hb3 hK hos htp hou hsz hfw (fun k hk => by have := hA.size; omega) rfl HR.out⟩
    case stop =>
      rintro D c s pre W3 hD hs hpre ⟨rfl, ⟨hb3, hr3⟩, r0, hr0⟩ hK
      have hall : bestOf b there lots times pre = bestOf b there lots times (recsM b.mats) := by
        obtain ⟨post, hpost⟩ := hpre
        rw [← hpost, hr0]
        refine (bestOf_stop b there lots times _ pre post r0 hr0 (fun x hx => ?_)).symm
        exact cost_least hk (by rw [← hpost]; exact List.mem_append.2 (.inr hx))
      have HALL := Lib.hid hall
      clear hall hr0
      obtain ⟨av, nv, cv, cc, ff, C4, C5, C6, hres⟩ := res_open hr3
      have HR := Lib.hid hres
      have x4 := C4.cell 0 _ rfl
      have x5 := C5.cell 0 _ rfl
      have x6 := C6.cell 0 _ rfl
      have y4 := C4.frozen 0
      have y5 := C5.frozen 0
      have y6 := C6.frozen 0
      clear hres
      gi_wp2
      go_wp2
      go_region
      go_wp2
      have hk3 : ((((W3.setCell ⟨w.heap.size + 1 + 1 + 1 + 1, 0, none⟩ (.slice av nv cv)).setCell ⟨w.heap.size + 1 + 1 + 1 + 1 + 1, 0, none⟩ (.int .i64 cc)).setCell ⟨w.heap.size + 1 + 1 + 1 + 1 + 1 + 1, 0, none⟩ (.bool ff)).drew).heap[D]? = some (.deferred (some [])) := by
        have D5 := (blk_same C4 (w.heap.size + 1 + 1 + 1 + 1 + 1)).trans C5
        have D6 := ((blk_same D5 (w.heap.size + 1 + 1 + 1 + 1 + 1 + 1)).trans (blk_same C4 (w.heap.size + 1 + 1 + 1 + 1 + 1 + 1))).trans C6
        exact (blk_same D6 D).trans ((blk_same D5 D).trans ((blk_same C4 D).trans hK))
      refine ⟨by simp, .inl ⟨_, _, rfl, run_takeDeferred hk3, ?_⟩⟩
      have hfw := fun j hj => fin_world (D := D) C4 C5 C6 j hj
      have hos : ((((W3.setCell ⟨w.heap.size + 1 + 1 + 1 + 1, 0, none⟩ (.slice av nv cv)).setCell ⟨w.heap.size + 1 + 1 + 1 + 1 + 1, 0, none⟩ (.int .i64 cc)).setCell ⟨w.heap.size + 1 + 1 + 1 + 1 + 1 + 1, 0, none⟩ (.bool ff)).drew.putObj D (.deferred none)).os = W3.os := rfl
      have htp : ((((W3.setCell ⟨w.heap.size + 1 + 1 + 1 + 1, 0, none⟩ (.slice av nv cv)).setCell ⟨w.heap.size + 1 + 1 + 1 + 1 + 1, 0, none⟩ (.int .i64 cc)).setCell ⟨w.heap.size + 1 + 1 + 1 + 1 + 1 + 1, 0, none⟩ (.bool ff)).drew.putObj D (.deferred none)).tape = W3.tape := rfl
      have hou : ((((W3.setCell ⟨w.heap.size + 1 + 1 + 1 + 1, 0, none⟩ (.slice av nv cv)).setCell ⟨w.heap.size + 1 + 1 + 1 + 1 + 1, 0, none⟩ (.int .i64 cc)).setCell ⟨w.heap.size + 1 + 1 + 1 + 1 + 1 + 1, 0, none⟩ (.bool ff)).drew.putObj D (.deferred none)).output = W3.output := rfl
      have hsz : ((((W3.setCell ⟨w.heap.size + 1 + 1 + 1 + 1, 0, none⟩ (.slice av nv cv)).setCell ⟨w.heap.size + 1 + 1 + 1 + 1 + 1, 0, none⟩ (.int .i64 cc)).setCell ⟨w.heap.size + 1 + 1 + 1 + 1 + 1 + 1, 0, none⟩ (.bool ff)).drew.putObj D (.deferred none)).heap.size = W3.heap.size := by simp
      generalize ((((W3.setCell ⟨w.heap.size + 1 + 1 + 1 + 1, 0, none⟩ (.slice av nv cv)).setCell ⟨w.heap.size + 1 + 1 + 1 + 1 + 1, 0, none⟩ (.int .i64 cc)).setCell ⟨w.heap.size + 1 + 1 + 1 + 1 + 1 + 1, 0, none⟩ (.bool ff)).drew.putObj D (.deferred none)) = W4 at *
      have G4 : Blk W4 (w.heap.size + 1 + 1 + 1 + 1) #[.slice av nv cv] 37 := (hfw _ (by omega)).trans C4
      have G5 : Blk W4 (w.heap.size + 1 + 1 + 1 + 1 + 1) #[.int .i64 cc] 3 := (hfw _ (by omega)).trans C5
      have G6 : Blk W4 (w.heap.size + 1 + 1 + 1 + 1 + 1 + 1) #[.bool ff] 4 := (hfw _ (by omega)).trans C6
      have t4 := G4.cell 0 _ rfl
      have t5 := G5.cell 0 _ rfl
      have t6 := G6.cell 0 _ rfl
      exact ⟨.tuple #[.slice av nv cv, .int .i64 cc, .bool ff], (by simp only [results, Try.results84]; simp [go_sem, t4, t5, t6]), cheap_post hA hD (by omega) (by omega) (by omega) hb3 hK hos htp hou hsz hfw (fun k hk => by have := hA.size; omega) HALL.out HR.out⟩

end Go.Proofs.Ytpkggjfaefkiiaa
