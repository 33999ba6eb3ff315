/- The specification's steepest of a lehr; no statement is proved here. -/
import Derived.Test.YtmmlocjiegkjeaaGreatDoorLeE
import Derived.Test.YtmmlocjiegkjeaaGreatDoorLeQ
import Derived.Test.YtmmlocjiegkjeaaGreatDoorTillIn
namespace Go.Proofs.YtmmlocjiegkjeaaGreatDoor
open Go.RowKit Go.PlainAid
set_option linter.unusedVariables false
set_option linter.unusedSimpArgs false
theorem prod_bd' {f d : Int} (hf : -10000 ≤ f ∧ f ≤ 10000) (hd : 0 ≤ d ∧ d ≤ 2000) : -20000000 ≤ f * d ∧ f * d ≤ 20000000 := by
  have h1 := Int.mul_le_mul_of_nonneg_right hf.1 hd.1
  have h2 := Int.mul_le_mul_of_nonneg_right hf.2 hd.1
  omega

theorem below_belS {S : Nat → Prop} {n m : Nat} {a b c : World} (h : Below n a b) (k : BelS S m b c) (hn : n ≤ m) (hS : ∀ i, i < n → ¬ S i) : Below n a c :=
  ⟨k.os.trans h.os, k.tape.trans h.tape, k.output.trans h.output, Nat.le_trans h.size k.size, fun i hi => (k.block i (Nat.lt_of_lt_of_le hi hn) (hS i hi)).trans (h.block i hi)⟩

set_option maxHeartbeats 4000000 in
set_option maxRecDepth 100000 in
theorem rsteepestF_any (vl : Value) (l : Lr) (t : Sp) (w : World) (h : RLr w vl l) (hok : OkLr l) :
    Calls Tryz.prog 35 #[vl, .agg #[.int .i64 t.lo, .int .i64 t.hi]] w fun e w' => e = .returned (.agg #[.int .i64 (lowQ (steepL l t)).1, .int .i64 (lowQ (steepL l t)).2]) ∧ Below w.heap.size w w' := by
  obtain ⟨v0, rfl, hr, i1⟩ := h
  obtain ⟨a, cap, rfl, hc1, ⟨hc2, hm⟩, hl⟩ := hr
  have hmo := hok.most
  have hle := hok.least
  obtain ⟨ab, ao, rfl, -⟩ := hl 0 (by omega)
  have hA : Below w.heap.size w ((((w.alloc (.cells #[.slice (some ⟨ab, ao, none⟩) l.knees.length cap, .int .i64 l.factor] 24)).alloc (.cells #[.int .i64 t.lo, .int .i64 t.hi] 30)).alloc (.cells #[.int .i64 0, .int .i64 0] 78)).alloc (.cells #[.int .i64 0, .int .i64 1] 78)) := ((((below_boxS w _).alloc (by simp) _).alloc (by simp only [World.size_alloc]; omega) _).alloc (by simp only [World.size_alloc]; omega) _)
  have hB := ((((Blk.new w #[.slice (some ⟨ab, ao, none⟩) l.knees.length cap, .int .i64 l.factor] 24).alloc (.cells #[.int .i64 t.lo, .int .i64 t.hi] 30)).alloc (.cells #[.int .i64 0, .int .i64 0] 78)).alloc (.cells #[.int .i64 0, .int .i64 1] 78))
  have hT := (((Blk.new (w.alloc (.cells #[.slice (some ⟨ab, ao, none⟩) l.knees.length cap, .int .i64 l.factor] 24)) #[.int .i64 t.lo, .int .i64 t.hi] 30).alloc (.cells #[.int .i64 0, .int .i64 0] 78)).alloc (.cells #[.int .i64 0, .int .i64 1] 78))
  have hR := ((Blk.new ((w.alloc (.cells #[.slice (some ⟨ab, ao, none⟩) l.knees.length cap, .int .i64 l.factor] 24)).alloc (.cells #[.int .i64 t.lo, .int .i64 t.hi] 30)) #[.int .i64 0, .int .i64 0] 78).alloc (.cells #[.int .i64 0, .int .i64 1] 78))
  have hO := (Blk.new (((w.alloc (.cells #[.slice (some ⟨ab, ao, none⟩) l.knees.length cap, .int .i64 l.factor] 24)).alloc (.cells #[.int .i64 t.lo, .int .i64 t.hi] 30)).alloc (.cells #[.int .i64 0, .int .i64 0] 78)) #[.int .i64 0, .int .i64 1] 78)
  have hz : ((((w.alloc (.cells #[.slice (some ⟨ab, ao, none⟩) l.knees.length cap, .int .i64 l.factor] 24)).alloc (.cells #[.int .i64 t.lo, .int .i64 t.hi] 30)).alloc (.cells #[.int .i64 0, .int .i64 0] 78)).alloc (.cells #[.int .i64 0, .int .i64 1] 78)).heap.size = w.heap.size + 4 := by simp
  replace hz := And.intro (Nat.le_of_eq hz) (Nat.le_of_eq hz.symm)
  simp only [World.size_alloc] at hT hR hO
  have hlow0 : lowQ (mostK l.knees t 0) = (0, 1) := by simp [mostK, lowQ, gq]
  go_enter Tryz.func35, Tryz.ntmps35
  go_wp2
  generalize ((((w.alloc (.cells #[.slice (some ⟨ab, ao, none⟩) l.knees.length cap, .int .i64 l.factor] 24)).alloc (.cells #[.int .i64 t.lo, .int .i64 t.hi] 30)).alloc (.cells #[.int .i64 0, .int .i64 0] 78)).alloc (.cells #[.int .i64 0, .int .i64 1] 78)) = W0 at *
  go_loopw [6] (fun iv wr => ∃ (j : Nat), j + 1 ≤ l.knees.length ∧ iv = .int .i64 ((j + 1 : Nat) : Int) ∧ Blk wr (w.heap.size + 1 + 1 + 1) #[.int .i64 (lowQ (mostK l.knees t j)).1, .int .i64 (lowQ (mostK l.knees t j)).2] 78 ∧ BelS (fun k => k = w.heap.size + 1 + 1 + 1) W0.heap.size W0 wr) (fun iv _ => l.knees.length - (intOf iv).toNat)
  case atStart => exact ⟨0, by omega, rfl, by rw [hlow0]; exact hO, BelS.refl _ _ _⟩
  case round =>
    obtain ⟨j, hj, rfl, hOr, hBS⟩ := hrel
    have hBr := hBS.blk hB (by omega) (by omega)
    have hTr := hBS.blk hT (by omega) (by omega)
    have lO := hOr.lt
    have lT := hTr.lt
    have hAr : Below w.heap.size w wr := below_belS hA hBS (by omega) (fun i hi => by omega)
    clear hlow0 hO
    by_cases hlt : j + 1 < l.knees.length
    · obtain ⟨b1, o1, he1, p1, p2, -⟩ := hl j (by omega)
      cases he1
      obtain ⟨b2, o2, he2, p3, p4, -⟩ := hl (j + 1) hlt
      cases he2
      have hkx := kn_eq (ks := l.knees) (i := j) (by omega)
      have hky := kn_eq (ks := l.knees) (i := j + 1) hlt
      have hpc := hok.piece hlt
      obtain ⟨m1, m2, a1', a2', b1', b2', -, -, -, -⟩ := pOk_of hpc
      have hst : mostK l.knees t (j + 1) = stp l.knees t j (mostK l.knees t j) := rfl
      have hqo := mostK_ok hok t j (by omega)
      have hlq := lowQ_q hqo
      rw [← hkx] at p1 p2
      rw [← hky] at p3 p4
      clear hkx hky
      have HST := Lib.hid hst
      clear hst
      generalize mostK l.knees t j = q at *
      obtain ⟨x, hx⟩ : ∃ x, kn l.knees j = x := ⟨_, rfl⟩
      obtain ⟨y, hy⟩ : ∃ y, kn l.knees (j + 1) = y := ⟨_, rfl⟩
      rw [hx] at p1 p2 m1 m2 a1' a2'
      rw [hy] at p3 p4 m1 m2 b1' b2'
      have HX := Lib.hid hx
      have HY := Lib.hid hy
      clear hx hy
      have r1 := hlq.n1
      have r2 := hlq.n2
      have r3 := hlq.d1
      have r4 := hlq.d2
      have r5 := hqo.n2
      have r6 := hqo.d2
      have w1 := prod_bd' (f := x.hi - y.hi) (d := (lowQ q).2) (by omega) (by omega)
      have w2 := prod_bd' (f := (lowQ q).1) (d := y.lo - x.lo) (by omega) (by omega)
      have q1 := wrap_id ((x.hi - y.hi) * (lowQ q).2) (by unfold I64; omega)
      have q2 := wrap_id ((lowQ q).1 * (y.lo - x.lo)) (by unfold I64; omega)
      have q3 := wrap_id (x.hi - y.hi) (by unfold I64; omega)
      have q4 := wrap_id (y.lo - x.lo) (by unfold I64; omega)
      clear w1 w2 r1 r2 r3 r4 r5 r6
      have x0 := ext_of_below hAr _ _ p1
      have x1 := ext_of_below hAr _ _ p2
      have y0 := ext_of_below hAr _ _ p3
      have y1 := ext_of_below hAr _ _ p4
      have e0 := hBr.cell 0 _ rfl
      have i3 : (0 : Int) ≤ (j : Int) := Int.natCast_nonneg _
      have i4 : (j : Int) < (l.knees.length : Int) := by omega
      have i5 : IntKind.i64.wrap (j : Int) = (j : Int) := (IntWalk.i64_left _).trans (wrap_id _ (by unfold I64; omega))
      have i6 : (0 : Int) ≤ (j : Int) + 1 := by omega
      have i7 : (j : Int) + 1 < (l.knees.length : Int) := by omega
      have HSV : Hid (∀ V, Below wr.heap.size wr V → (fun w' : World => w'.cell? ⟨w.heap.size, 0, none⟩ = some (.slice (some ⟨ab, ao, none⟩) l.knees.length cap) ∧ w'.cell? ⟨ab, ao + j * 2, none⟩ = some (.int .i64 x.lo) ∧ w'.cell? ⟨ab, ao + j * 2 + 1, none⟩ = some (.int .i64 x.hi) ∧ w'.cell? ⟨ab, ao + (j + 1) * 2, none⟩ = some (.int .i64 y.lo) ∧ w'.cell? ⟨ab, ao + (j + 1) * 2 + 1, none⟩ = some (.int .i64 y.hi)) V) := Lib.hid (fun V hV => ⟨ext_of_below hV _ _ e0, ext_of_below hV _ _ x0, ext_of_below hV _ _ x1, ext_of_below hV _ _ y0, ext_of_below hV _ _ y1⟩)
      have D0 : Below wr.heap.size wr wr.drew := (Below.refl _ _).drew
      clear p1 p2 p3 p4 hl x0 x1 y0 y1 hBr hAr hB hA hT hR
      go_wp2_with fail
      clear e0
      refine wp_region_till (fun w' : World => w'.cell? ⟨w.heap.size, 0, none⟩ = some (.slice (some ⟨ab, ao, none⟩) l.knees.length cap) ∧ w'.cell? ⟨ab, ao + j * 2, none⟩ = some (.int .i64 x.lo) ∧ w'.cell? ⟨ab, ao + j * 2 + 1, none⟩ = some (.int .i64 x.hi) ∧ w'.cell? ⟨ab, ao + (j + 1) * 2, none⟩ = some (.int .i64 y.lo) ∧ w'.cell? ⟨ab, ao + (j + 1) * 2 + 1, none⟩ = some (.int .i64 y.hi)) 99 (by kernel_rfl) (HSV.out _ D0) (fun hHeld => ?_)
      refine Till.take 0 (some 17) (v := ?_) rfl rfl (by kernel_rfl) (by kernel_rfl) (by kernel_rfl) (by kernel_rfl) (fun _ _ _ h => h) (Or.inl ⟨by rfl, ?_⟩) (by assumption) ?_
      rotate_left
      · (intro w hSw; (try dsimp only at hSw); go_simp; try with_reducible rfl)
      try simp only [Act.put, List.setIfInBounds_toArray, List.set_cons_zero, List.set_cons_succ]
      refine Till.take 1 (some 18) (v := ?_) rfl rfl (by kernel_rfl) (by kernel_rfl) (by kernel_rfl) (by kernel_rfl) (fun _ _ _ h => h) (Or.inl ⟨by rfl, ?_⟩) (by assumption) ?_
      rotate_left
      · (intro w hSw; (try dsimp only at hSw); go_simp; try with_reducible rfl)
      try simp only [Act.put, List.setIfInBounds_toArray, List.set_cons_zero, List.set_cons_succ]
      refine Till.take 2 (some 19) (v := ?_) rfl rfl (by kernel_rfl) (by kernel_rfl) (by kernel_rfl) (by kernel_rfl) (fun _ _ _ h => h) (Or.inl ⟨by rfl, ?_⟩) (by assumption) ?_
      rotate_left
      · (intro w hSw; (try dsimp only at hSw); go_simp; try with_reducible rfl)
      try simp only [Act.put, List.setIfInBounds_toArray, List.set_cons_zero, List.set_cons_succ]
      refine Till.take 3 (some 20) (v := ?_) rfl rfl (by kernel_rfl) (by kernel_rfl) (by kernel_rfl) (by kernel_rfl) (fun _ _ _ h => h) (Or.inl ⟨by rfl, ?_⟩) (by assumption) ?_
      rotate_left
      · (intro w hSw; (try dsimp only at hSw); go_simp; try with_reducible rfl)
      try simp only [Act.put, List.setIfInBounds_toArray, List.set_cons_zero, List.set_cons_succ]
      refine Till.take 4 (some 21) (v := ?_) rfl rfl (by kernel_rfl) (by kernel_rfl) (by kernel_rfl) (by kernel_rfl) (fun _ _ _ h => h) (Or.inl ⟨by rfl, ?_⟩) (by assumption) ?_
      rotate_left
      · (intro w hSw; (try dsimp only at hSw); go_simp; try with_reducible rfl)
      try simp only [Act.put, List.setIfInBounds_toArray, List.set_cons_zero, List.set_cons_succ]
      refine Till.take 5 (some 22) (v := ?_) rfl rfl (by kernel_rfl) (by kernel_rfl) (by kernel_rfl) (by kernel_rfl) (fun _ _ _ h => h) (Or.inl ⟨by rfl, ?_⟩) (by assumption) ?_
      rotate_left
      · (intro w hSw; (try dsimp only at hSw); go_simp; try with_reducible rfl)
      try simp only [Act.put, List.setIfInBounds_toArray, List.set_cons_zero, List.set_cons_succ]
      refine Till.take 6 (some 23) (v := ?_) rfl rfl (by kernel_rfl) (by kernel_rfl) (by kernel_rfl) (by kernel_rfl) (fun _ _ _ h => h) (Or.inl ⟨by rfl, ?_⟩) (by assumption) ?_
      rotate_left
      · (intro w hSw; (try dsimp only at hSw); go_simp; try with_reducible rfl)
      try simp only [Act.put, List.setIfInBounds_toArray, List.set_cons_zero, List.set_cons_succ]
      refine Till.take 7 (some 24) (v := ?_) rfl rfl (by kernel_rfl) (by kernel_rfl) (by kernel_rfl) (by kernel_rfl) (fun _ _ _ h => h) (Or.inl ⟨by rfl, ?_⟩) (by assumption) ?_
      rotate_left
      · (intro w hSw; (try dsimp only at hSw); go_simp; try with_reducible rfl)
      try simp only [Act.put, List.setIfInBounds_toArray, List.set_cons_zero, List.set_cons_succ]
      refine Till.take 8 (some 25) (v := ?_) rfl rfl (by kernel_rfl) (by kernel_rfl) (by kernel_rfl) (by kernel_rfl) (fun _ _ _ h => h) (Or.inl ⟨by rfl, ?_⟩) (by assumption) ?_
      rotate_left
      · (intro w hSw; (try dsimp only at hSw); go_simp; try with_reducible rfl)
      try simp only [Act.put, List.setIfInBounds_toArray, List.set_cons_zero, List.set_cons_succ]
      refine Till.take 9 (some 26) (v := ?_) rfl rfl (by kernel_rfl) (by kernel_rfl) (by kernel_rfl) (by kernel_rfl) (fun _ _ _ h => h) (Or.inl ⟨by rfl, ?_⟩) (by assumption) ?_
      rotate_left
      · (intro w hSw; (try dsimp only at hSw); go_simp; try with_reducible rfl)
      try simp only [Act.put, List.setIfInBounds_toArray, List.set_cons_zero, List.set_cons_succ]
      refine Till.take 10 (some 27) (v := ?_) rfl rfl (by kernel_rfl) (by kernel_rfl) (by kernel_rfl) (by kernel_rfl) (fun _ _ _ h => h) (Or.inl ⟨by rfl, ?_⟩) (by assumption) ?_
      rotate_left
      · (intro w hSw; (try dsimp only at hSw); go_simp; try with_reducible rfl)
      try simp only [Act.put, List.setIfInBounds_toArray, List.set_cons_zero, List.set_cons_succ]
      generalize wr.drew = U at *
      refine Till.two 11 12 rfl rfl (by kernel_rfl) (fun K hK => ?_) (fun K hK => ?_)
      case refine_1 =>
        go_simp
        have D1 : Below wr.heap.size wr (U.alloc (.cells #[.int .i64 0, .int .i64 0] 101)) := D0.alloc D0.size _
        refine hK.out _ _ (fun _ => HSV.out _ D1) (fun _ => ?_)
        clear hK K
        try simp only [Act.put, List.setIfInBounds_toArray, List.set_cons_zero, List.set_cons_succ]
        refine Till.one 12 rfl (by kernel_rfl) (fun K hK => ?_)
        go_simp
        have D2 : Below wr.heap.size wr ((U.alloc (.cells #[.int .i64 0, .int .i64 0] 101)).alloc (.cells #[.int .i64 0, .int .i64 0] 101)) := D1.alloc D1.size _
        have hPa := (Blk.new U #[.int .i64 0, .int .i64 0] 101).alloc (.cells #[.int .i64 0, .int .i64 0] 101)
        have hPb := Blk.new (U.alloc (.cells #[.int .i64 0, .int .i64 0] 101)) #[.int .i64 0, .int .i64 0] 101
        simp only [World.size_alloc] at hPa hPb
        refine hK.out _ _ (fun _ => HSV.out _ D2) (fun _ => ?_)
        clear hK K
        try simp only [Act.put, List.setIfInBounds_toArray, List.set_cons_zero, List.set_cons_succ]
        generalize (U.alloc (.cells #[.int .i64 0, .int .i64 0] 101)).alloc (.cells #[.int .i64 0, .int .i64 0] 101) = V at *
        have hzU := D0.size
        have a0 := hPa.cell 0 _ rfl
        have a1 := hPa.cell 1 _ rfl
        have fa0 := hPa.frozen 0
        have fa1 := hPa.frozen 1
        have hPa3 : Blk ((V.setCell ⟨U.heap.size, 0, none⟩ (.int .i64 x.lo)).setCell ⟨U.heap.size, 1, none⟩ (.int .i64 x.hi)) (U.heap.size) #[.int .i64 x.lo, .int .i64 x.hi] 101 := by simpa using (hPa.set 0 (.int .i64 x.lo)).set 1 (.int .i64 x.hi)
        have hPb3 : Blk ((V.setCell ⟨U.heap.size, 0, none⟩ (.int .i64 x.lo)).setCell ⟨U.heap.size, 1, none⟩ (.int .i64 x.hi)) (U.heap.size + 1) #[.int .i64 0, .int .i64 0] 101 := (hPb.other _ _ (by simp)).other _ _ (by simp)
        have D3 := (D2.setCell (p := ⟨U.heap.size, 0, none⟩) (by simp only; omega) (.int .i64 x.lo)).setCell (p := ⟨U.heap.size, 1, none⟩) (by simp only; omega) (.int .i64 x.hi)
        have H3a := Lib.hid hPa3
        have H3b := Lib.hid hPb3
        have HD3 := Lib.hid D3
        clear hPa hPb hPa3 hPb3 D1 D2 D3
        refine Till.one 13 rfl (by kernel_rfl) (fun K hK => ?_)
        go_simp
        refine hK.out _ _ (fun _ => HSV.out _ HD3.out) (fun _ => ?_)
        clear hK K a0 a1 fa0 fa1
        try simp only [Act.put, List.setIfInBounds_toArray, List.set_cons_zero, List.set_cons_succ]
        generalize (V.setCell ⟨U.heap.size, 0, none⟩ (.int .i64 x.lo)).setCell ⟨U.heap.size, 1, none⟩ (.int .i64 x.hi) = V3 at *
        have hPa3 := H3a.out
        have hPb3 := H3b.out
        have D3 := HD3.out
        have b0 := hPb3.cell 0 _ rfl
        have b1 := hPb3.cell 1 _ rfl
        have fb0 := hPb3.frozen 0
        have fb1 := hPb3.frozen 1
        have H4b : Hid (Blk ((V3.setCell ⟨U.heap.size + 1, 0, none⟩ (.int .i64 y.lo)).setCell ⟨U.heap.size + 1, 1, none⟩ (.int .i64 y.hi)) (U.heap.size + 1) #[.int .i64 y.lo, .int .i64 y.hi] 101) := Lib.hid (by simpa using (hPb3.set 0 (.int .i64 y.lo)).set 1 (.int .i64 y.hi))
        have H4a : Hid (Blk ((V3.setCell ⟨U.heap.size + 1, 0, none⟩ (.int .i64 y.lo)).setCell ⟨U.heap.size + 1, 1, none⟩ (.int .i64 y.hi)) (U.heap.size) #[.int .i64 x.lo, .int .i64 x.hi] 101) := Lib.hid ((hPa3.other _ _ (by simp)).other _ _ (by simp))
        have HD4 := Lib.hid ((D3.setCell (p := ⟨U.heap.size + 1, 0, none⟩) (by simp only; omega) (.int .i64 y.lo)).setCell (p := ⟨U.heap.size + 1, 1, none⟩) (by simp only; omega) (.int .i64 y.hi))
        clear hPa3 hPb3 D3 H3a H3b HD3
        refine Till.one 14 rfl (by kernel_rfl) (fun K hK => ?_)
        go_simp
        refine hK.out _ _ (fun _ => HSV.out _ HD4.out) (fun _ => ?_)
        clear hK K b0 b1 fb0 fb1
        try simp only [Act.put, List.setIfInBounds_toArray, List.set_cons_zero, List.set_cons_succ]
        refine Till.done (by kernel_rfl) ?_ _
        generalize (V3.setCell ⟨U.heap.size + 1, 0, none⟩ (.int .i64 y.lo)).setCell ⟨U.heap.size + 1, 1, none⟩ (.int .i64 y.hi) = V4 at *
        have hPa := H4a.out
        have hPb := H4b.out
        have D4 := HD4.out
        clear H4a H4b HD4 HSV D0 hHeld
        have a0 := hPa.cell 0 _ rfl
        have a1 := hPa.cell 1 _ rfl
        have b0 := hPb.cell 0 _ rfl
        have b1 := hPb.cell 1 _ rfl
        have hOV := hOr.below D4 lO
        have hTV := hTr.below D4 lT
        have t0 := hTV.cell 0 _ rfl
        have t1 := hTV.cell 1 _ rfl
        have hSV4 := hBS.trans (BelS.of_below (S := fun k => k = w.heap.size + 1 + 1 + 1) (D4.mono hBS.size))
        have u0 := hOV.cell 0 _ rfl
        have u1 := hOV.cell 1 _ rfl
        have g0 := hOV.frozen 0
        have g1 := hOV.frozen 1
        by_cases h1 : x.hi ≤ y.hi
        · have z1 := decide_eq_true h1
          have HH := Lib.hid (show mostK l.knees t (j + 1) = q by rw [HST.out, stp_skip hqo hpc (.inl (by rw [HX.out, HY.out]; exact h1))])
          have HB1 := Lib.hid hOV
          have HB2 := Lib.hid hSV4
          clear hOV hSV4 D4 hPa hPb hTV
          go_wp2
          go_roundw
          case rel => exact ⟨j + 1, by omega, by go_num, by rw [HH.out]; exact HB1.out, HB2.out⟩
          case measure => simp [intOf]; omega
        have z1 := decide_eq_false h1
        by_cases h2 : t.hi < y.hi
        · have z2 := decide_eq_true h2
          have HH := Lib.hid (show mostK l.knees t (j + 1) = q by rw [HST.out, stp_skip hqo hpc (.inr (.inl (by rw [HY.out]; exact h2)))])
          have HB1 := Lib.hid hOV
          have HB2 := Lib.hid hSV4
          clear hOV hSV4 D4 hPa hPb hTV
          go_wp2
          go_roundw
          case rel => exact ⟨j + 1, by omega, by go_num, by rw [HH.out]; exact HB1.out, HB2.out⟩
          case measure => simp [intOf]; omega
        have z2 := decide_eq_false h2
        by_cases h3 : x.hi < t.lo
        · have z3 := decide_eq_true h3
          have HH := Lib.hid (show mostK l.knees t (j + 1) = q by rw [HST.out, stp_skip hqo hpc (.inr (.inr (by rw [HX.out]; exact h3)))])
          have HB1 := Lib.hid hOV
          have HB2 := Lib.hid hSV4
          clear hOV hSV4 D4 hPa hPb hTV
          go_wp2
          go_roundw
          case rel => exact ⟨j + 1, by omega, by go_num, by rw [HH.out]; exact HB1.out, HB2.out⟩
          case measure => simp [intOf]; omega
        have z3 := decide_eq_false h3
        by_cases h4 : q.1 * (y.lo - x.lo) < (x.hi - y.hi) * q.2
        · have z4 := decide_eq_true ((low_lt hlq (y.lo - x.lo) (x.hi - y.hi)).2 h4)
          have HH := Lib.hid (show mostK l.knees t (j + 1) = (x.hi - y.hi, y.lo - x.lo) by
            rw [HST.out, stp, if_pos ⟨by rw [meetP, HX.out, HY.out, decide_eq_true (show t.lo ≤ x.hi by omega), decide_eq_true (show y.hi ≤ t.hi by omega)]; rfl, by rw [minP, fallP, HX.out, HY.out]; exact h4⟩, minP, fallP, HX.out, HY.out])
          have hqn : QOk (x.hi - y.hi, y.lo - x.lo) := ⟨by simp only; omega, by simp only; omega, m1, m2⟩
          have hlw := fun V => rlowest_any (x.hi - y.hi) (y.lo - x.lo) V hqn
          have HB2 := Lib.hid hSV4
          clear hSV4 HST
          go_wp2_with fail
          refine (hlw _).mono ?_
          rintro e V6 ⟨rfl, hb6⟩
          have hO6 := hOV.below hb6 hOV.lt
          have hl4 := hOV.lt
          have v0 := hO6.cell 0 _ rfl
          have v1 := hO6.cell 1 _ rfl
          have k0 := hO6.frozen 0
          have k1 := hO6.frozen 1
          have HHQ := Lib.hid (show lowQ (mostK l.knees t (j + 1)) = lowQ (x.hi - y.hi, y.lo - x.lo) by rw [HH.out])
          generalize lowQ (x.hi - y.hi, y.lo - x.lo) = p at *
          have HB1 : Hid (Blk ((V6.setCell ⟨w.heap.size + 1 + 1 + 1, 0, none⟩ (.int .i64 p.1)).setCell ⟨w.heap.size + 1 + 1 + 1, 1, none⟩ (.int .i64 p.2)) (w.heap.size + 1 + 1 + 1) #[.int .i64 p.1, .int .i64 p.2] 78) := Lib.hid (by simpa using (hO6.set 0 (.int .i64 p.1)).set 1 (.int .i64 p.2))
          have HB3 : Hid (BelS (fun k => k = w.heap.size + 1 + 1 + 1) W0.heap.size W0 ((V6.setCell ⟨w.heap.size + 1 + 1 + 1, 0, none⟩ (.int .i64 p.1)).setCell ⟨w.heap.size + 1 + 1 + 1, 1, none⟩ (.int .i64 p.2))) := Lib.hid (BelS.set (S := fun k => k = w.heap.size + 1 + 1 + 1) (BelS.set (S := fun k => k = w.heap.size + 1 + 1 + 1) (HB2.out.trans (BelS.of_below (hb6.mono HB2.out.size))) ⟨w.heap.size + 1 + 1 + 1, 0, none⟩ _ (.inr rfl)) ⟨w.heap.size + 1 + 1 + 1, 1, none⟩ _ (.inr rfl))
          clear hOV hO6 hb6 hlw hqn D4 hPa hPb hTV HH HB2 hl4 a0 a1 b0 b1 t0 t1 u0 u1 g0 g1
          go_wp2
          go_roundw
          case rel => exact ⟨j + 1, by omega, by go_num, by rw [HHQ.out]; exact HB1.out, HB3.out⟩
          case measure => simp [intOf]; omega
        · have z4 := decide_eq_false (fun z => h4 ((low_lt hlq (y.lo - x.lo) (x.hi - y.hi)).1 z))
          have HH := Lib.hid (show mostK l.knees t (j + 1) = q by rw [HST.out, stp, if_neg (fun z => h4 (by have := z.2; rw [minP, fallP, HX.out, HY.out] at this; exact this))])
          have HB1 := Lib.hid hOV
          have HB2 := Lib.hid hSV4
          clear hOV hSV4 D4 hPa hPb hTV
          go_wp2
          go_roundw
          case rel => exact ⟨j + 1, by omega, by go_num, by rw [HH.out]; exact HB1.out, HB2.out⟩
          case measure => simp [intOf]; omega
      case refine_2 =>
        go_simp
        have D1 : Below wr.heap.size wr (U.alloc (.cells #[.int .i64 0, .int .i64 0] 101)) := D0.alloc D0.size _
        refine hK.out _ _ (fun _ => HSV.out _ D1) (fun _ => ?_)
        clear hK K
        try simp only [Act.put, List.setIfInBounds_toArray, List.set_cons_zero, List.set_cons_succ]
        refine Till.one 11 rfl (by kernel_rfl) (fun K hK => ?_)
        go_simp
        have D2 : Below wr.heap.size wr ((U.alloc (.cells #[.int .i64 0, .int .i64 0] 101)).alloc (.cells #[.int .i64 0, .int .i64 0] 101)) := D1.alloc D1.size _
        have hPa := Blk.new (U.alloc (.cells #[.int .i64 0, .int .i64 0] 101)) #[.int .i64 0, .int .i64 0] 101
        have hPb := (Blk.new U #[.int .i64 0, .int .i64 0] 101).alloc (.cells #[.int .i64 0, .int .i64 0] 101)
        simp only [World.size_alloc] at hPa hPb
        refine hK.out _ _ (fun _ => HSV.out _ D2) (fun _ => ?_)
        clear hK K
        try simp only [Act.put, List.setIfInBounds_toArray, List.set_cons_zero, List.set_cons_succ]
        generalize (U.alloc (.cells #[.int .i64 0, .int .i64 0] 101)).alloc (.cells #[.int .i64 0, .int .i64 0] 101) = V at *
        have hzU := D0.size
        have a0 := hPa.cell 0 _ rfl
        have a1 := hPa.cell 1 _ rfl
        have fa0 := hPa.frozen 0
        have fa1 := hPa.frozen 1
        have hPa3 : Blk ((V.setCell ⟨U.heap.size + 1, 0, none⟩ (.int .i64 x.lo)).setCell ⟨U.heap.size + 1, 1, none⟩ (.int .i64 x.hi)) (U.heap.size + 1) #[.int .i64 x.lo, .int .i64 x.hi] 101 := by simpa using (hPa.set 0 (.int .i64 x.lo)).set 1 (.int .i64 x.hi)
        have hPb3 : Blk ((V.setCell ⟨U.heap.size + 1, 0, none⟩ (.int .i64 x.lo)).setCell ⟨U.heap.size + 1, 1, none⟩ (.int .i64 x.hi)) (U.heap.size) #[.int .i64 0, .int .i64 0] 101 := (hPb.other _ _ (by simp)).other _ _ (by simp)
        have D3 := (D2.setCell (p := ⟨U.heap.size + 1, 0, none⟩) (by simp only; omega) (.int .i64 x.lo)).setCell (p := ⟨U.heap.size + 1, 1, none⟩) (by simp only; omega) (.int .i64 x.hi)
        have H3a := Lib.hid hPa3
        have H3b := Lib.hid hPb3
        have HD3 := Lib.hid D3
        clear hPa hPb hPa3 hPb3 D1 D2 D3
        refine Till.one 13 rfl (by kernel_rfl) (fun K hK => ?_)
        go_simp
        refine hK.out _ _ (fun _ => HSV.out _ HD3.out) (fun _ => ?_)
        clear hK K a0 a1 fa0 fa1
        try simp only [Act.put, List.setIfInBounds_toArray, List.set_cons_zero, List.set_cons_succ]
        generalize (V.setCell ⟨U.heap.size + 1, 0, none⟩ (.int .i64 x.lo)).setCell ⟨U.heap.size + 1, 1, none⟩ (.int .i64 x.hi) = V3 at *
        have hPa3 := H3a.out
        have hPb3 := H3b.out
        have D3 := HD3.out
        have b0 := hPb3.cell 0 _ rfl
        have b1 := hPb3.cell 1 _ rfl
        have fb0 := hPb3.frozen 0
        have fb1 := hPb3.frozen 1
        have H4b : Hid (Blk ((V3.setCell ⟨U.heap.size, 0, none⟩ (.int .i64 y.lo)).setCell ⟨U.heap.size, 1, none⟩ (.int .i64 y.hi)) (U.heap.size) #[.int .i64 y.lo, .int .i64 y.hi] 101) := Lib.hid (by simpa using (hPb3.set 0 (.int .i64 y.lo)).set 1 (.int .i64 y.hi))
        have H4a : Hid (Blk ((V3.setCell ⟨U.heap.size, 0, none⟩ (.int .i64 y.lo)).setCell ⟨U.heap.size, 1, none⟩ (.int .i64 y.hi)) (U.heap.size + 1) #[.int .i64 x.lo, .int .i64 x.hi] 101) := Lib.hid ((hPa3.other _ _ (by simp)).other _ _ (by simp))
        have HD4 := Lib.hid ((D3.setCell (p := ⟨U.heap.size, 0, none⟩) (by simp only; omega) (.int .i64 y.lo)).setCell (p := ⟨U.heap.size, 1, none⟩) (by simp only; omega) (.int .i64 y.hi))
        clear hPa3 hPb3 D3 H3a H3b HD3
        refine Till.one 14 rfl (by kernel_rfl) (fun K hK => ?_)
        go_simp
        refine hK.out _ _ (fun _ => HSV.out _ HD4.out) (fun _ => ?_)
        clear hK K b0 b1 fb0 fb1
        try simp only [Act.put, List.setIfInBounds_toArray, List.set_cons_zero, List.set_cons_succ]
        refine Till.done (by kernel_rfl) ?_ _
        generalize (V3.setCell ⟨U.heap.size, 0, none⟩ (.int .i64 y.lo)).setCell ⟨U.heap.size, 1, none⟩ (.int .i64 y.hi) = V4 at *
        have hPa := H4a.out
        have hPb := H4b.out
        have D4 := HD4.out
        clear H4a H4b HD4 HSV D0 hHeld
        have a0 := hPa.cell 0 _ rfl
        have a1 := hPa.cell 1 _ rfl
        have b0 := hPb.cell 0 _ rfl
        have b1 := hPb.cell 1 _ rfl
        have hOV := hOr.below D4 lO
        have hTV := hTr.below D4 lT
        have t0 := hTV.cell 0 _ rfl
        have t1 := hTV.cell 1 _ rfl
        have hSV4 := hBS.trans (BelS.of_below (S := fun k => k = w.heap.size + 1 + 1 + 1) (D4.mono hBS.size))
        have u0 := hOV.cell 0 _ rfl
        have u1 := hOV.cell 1 _ rfl
        have g0 := hOV.frozen 0
        have g1 := hOV.frozen 1
        by_cases h1 : x.hi ≤ y.hi
        · have z1 := decide_eq_true h1
          have HH := Lib.hid (show mostK l.knees t (j + 1) = q by rw [HST.out, stp_skip hqo hpc (.inl (by rw [HX.out, HY.out]; exact h1))])
          have HB1 := Lib.hid hOV
          have HB2 := Lib.hid hSV4
          clear hOV hSV4 D4 hPa hPb hTV
          go_wp2
          go_roundw
          case rel => exact ⟨j + 1, by omega, by go_num, by rw [HH.out]; exact HB1.out, HB2.out⟩
          case measure => simp [intOf]; omega
        have z1 := decide_eq_false h1
        by_cases h2 : t.hi < y.hi
        · have z2 := decide_eq_true h2
          have HH := Lib.hid (show mostK l.knees t (j + 1) = q by rw [HST.out, stp_skip hqo hpc (.inr (.inl (by rw [HY.out]; exact h2)))])
          have HB1 := Lib.hid hOV
          have HB2 := Lib.hid hSV4
          clear hOV hSV4 D4 hPa hPb hTV
          go_wp2
          go_roundw
          case rel => exact ⟨j + 1, by omega, by go_num, by rw [HH.out]; exact HB1.out, HB2.out⟩
          case measure => simp [intOf]; omega
        have z2 := decide_eq_false h2
        by_cases h3 : x.hi < t.lo
        · have z3 := decide_eq_true h3
          have HH := Lib.hid (show mostK l.knees t (j + 1) = q by rw [HST.out, stp_skip hqo hpc (.inr (.inr (by rw [HX.out]; exact h3)))])
          have HB1 := Lib.hid hOV
          have HB2 := Lib.hid hSV4
          clear hOV hSV4 D4 hPa hPb hTV
          go_wp2
          go_roundw
          case rel => exact ⟨j + 1, by omega, by go_num, by rw [HH.out]; exact HB1.out, HB2.out⟩
          case measure => simp [intOf]; omega
        have z3 := decide_eq_false h3
        by_cases h4 : q.1 * (y.lo - x.lo) < (x.hi - y.hi) * q.2
        · have z4 := decide_eq_true ((low_lt hlq (y.lo - x.lo) (x.hi - y.hi)).2 h4)
          have HH := Lib.hid (show mostK l.knees t (j + 1) = (x.hi - y.hi, y.lo - x.lo) by
            rw [HST.out, stp, if_pos ⟨by rw [meetP, HX.out, HY.out, decide_eq_true (show t.lo ≤ x.hi by omega), decide_eq_true (show y.hi ≤ t.hi by omega)]; rfl, by rw [minP, fallP, HX.out, HY.out]; exact h4⟩, minP, fallP, HX.out, HY.out])
          have hqn : QOk (x.hi - y.hi, y.lo - x.lo) := ⟨by simp only; omega, by simp only; omega, m1, m2⟩
          have hlw := fun V => rlowest_any (x.hi - y.hi) (y.lo - x.lo) V hqn
          have HB2 := Lib.hid hSV4
          clear hSV4 HST
          go_wp2_with fail
          refine (hlw _).mono ?_
          rintro e V6 ⟨rfl, hb6⟩
          have hO6 := hOV.below hb6 hOV.lt
          have hl4 := hOV.lt
          have v0 := hO6.cell 0 _ rfl
          have v1 := hO6.cell 1 _ rfl
          have k0 := hO6.frozen 0
          have k1 := hO6.frozen 1
          have HHQ := Lib.hid (show lowQ (mostK l.knees t (j + 1)) = lowQ (x.hi - y.hi, y.lo - x.lo) by rw [HH.out])
          generalize lowQ (x.hi - y.hi, y.lo - x.lo) = p at *
          have HB1 : Hid (Blk ((V6.setCell ⟨w.heap.size + 1 + 1 + 1, 0, none⟩ (.int .i64 p.1)).setCell ⟨w.heap.size + 1 + 1 + 1, 1, none⟩ (.int .i64 p.2)) (w.heap.size + 1 + 1 + 1) #[.int .i64 p.1, .int .i64 p.2] 78) := Lib.hid (by simpa using (hO6.set 0 (.int .i64 p.1)).set 1 (.int .i64 p.2))
          have HB3 : Hid (BelS (fun k => k = w.heap.size + 1 + 1 + 1) W0.heap.size W0 ((V6.setCell ⟨w.heap.size + 1 + 1 + 1, 0, none⟩ (.int .i64 p.1)).setCell ⟨w.heap.size + 1 + 1 + 1, 1, none⟩ (.int .i64 p.2))) := Lib.hid (BelS.set (S := fun k => k = w.heap.size + 1 + 1 + 1) (BelS.set (S := fun k => k = w.heap.size + 1 + 1 + 1) (HB2.out.trans (BelS.of_below (hb6.mono HB2.out.size))) ⟨w.heap.size + 1 + 1 + 1, 0, none⟩ _ (.inr rfl)) ⟨w.heap.size + 1 + 1 + 1, 1, none⟩ _ (.inr rfl))
          clear hOV hO6 hb6 hlw hqn D4 hPa hPb hTV HH HB2 hl4 a0 a1 b0 b1 t0 t1 u0 u1 g0 g1
          go_wp2
          go_roundw
          case rel => exact ⟨j + 1, by omega, by go_num, by rw [HHQ.out]; exact HB1.out, HB3.out⟩
          case measure => simp [intOf]; omega
        · have z4 := decide_eq_false (fun z => h4 ((low_lt hlq (y.lo - x.lo) (x.hi - y.hi)).1 z))
          have HH := Lib.hid (show mostK l.knees t (j + 1) = q by rw [HST.out, stp, if_neg (fun z => h4 (by have := z.2; rw [minP, fallP, HX.out, HY.out] at this; exact this))])
          have HB1 := Lib.hid hOV
          have HB2 := Lib.hid hSV4
          clear hOV hSV4 D4 hPa hPb hTV
          go_wp2
          go_roundw
          case rel => exact ⟨j + 1, by omega, by go_num, by rw [HH.out]; exact HB1.out, HB2.out⟩
          case measure => simp [intOf]; omega
    · have hke : j = l.knees.length - 1 := by omega
      have HL := Lib.hid (show steepL l t = mostK l.knees t j by rw [hke]; rfl)
      have hnl : decide ((j : Int) + 1 < (l.knees.length : Int)) = false := decide_eq_false (by omega)
      have e0 := hBr.cell 0 _ rfl
      have hRr := hBS.blk hR (by omega) (by omega)
      generalize mostK l.knees t j = q at *
      obtain ⟨p, hp⟩ : ∃ p, lowQ q = p := ⟨_, rfl⟩
      rw [hp] at hOr
      have HP0 := Lib.hid hp
      clear hp
      have o0 := hOr.cell 0 _ rfl
      have o1 := hOr.cell 1 _ rfl
      have u0 := hRr.cell 0 _ rfl
      have u1 := hRr.cell 1 _ rfl
      have g0 := hRr.frozen 0
      have g1 := hRr.frozen 1
      have HU := Lib.hid ((hRr.set 0 (.int .i64 p.1)).set 1 (.int .i64 p.2))
      have HA := Lib.hid ((hAr.setCell (p := ⟨w.heap.size + 1 + 1, 0, none⟩) (by simp only; omega) (.int .i64 p.1)).setCell (p := ⟨w.heap.size + 1 + 1, 1, none⟩) (by simp only; omega) (.int .i64 p.2))
      have HPP := Lib.hid (show lowQ (steepL l t) = p by rw [HL.out, HP0.out])
      clear hl hke hOr hBS hBr hTr hRr hAr hB hA hT hR
      go_wp2
      have k0 := HU.out.cell 0 (.int .i64 p.1) (by simp)
      have k1 := HU.out.cell 1 (.int .i64 p.2) (by simp)
      refine ⟨rfl, .agg #[.int .i64 p.1, .int .i64 p.2], ?_, by rw [HPP.out], HA.out⟩
      simp [results, Tryz.results35, go_sem, k0, k1]

end Go.Proofs.YtmmlocjiegkjeaaGreatDoor
