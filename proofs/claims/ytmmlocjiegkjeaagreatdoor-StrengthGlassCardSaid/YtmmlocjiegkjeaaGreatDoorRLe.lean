/- The specification's held, steepest, strain of a lehr; no statement is proved here. -/
import Derived.Test.YtmmlocjiegkjeaaGreatDoorLeE
import Derived.Test.YtmmlocjiegkjeaaGreatDoorLeQ
import Derived.Test.YtmmlocjiegkjeaaGreatDoorTillIn
namespace Go.Proofs.YtmmlocjiegkjeaaGreatDoor
open Go.RowKit Go.PlainAid
set_option linter.unusedVariables false
set_option linter.unusedSimpArgs false
set_option maxHeartbeats 4000000 in
set_option maxRecDepth 100000 in
theorem rheldF_any (vl : Value) (l : Lr) (t : Int) (w : World) (h : RLr w vl l) (hok : OkLr l) (ht : 0 ≤ t ∧ t ≤ 10000) :
    Calls Tryz.prog 33 #[vl, .int .i64 t] w fun e w' => e = .returned (.int .i64 (heldL l t)) ∧ Below w.heap.size w w' := by
  obtain ⟨v0, rfl, hr, i1⟩ := h
  obtain ⟨a, cap, rfl, hc1, ⟨hc2, hm⟩, hl⟩ := hr
  have hmo := hok.most
  have hle := hok.least
  obtain ⟨ab, ao, rfl, -⟩ := hl 0 (by omega)
  have hA := below_boxS w (.cells #[.slice (some ⟨ab, ao, none⟩) l.knees.length cap, .int .i64 l.factor] 24)
  have hB := Blk.new w #[.slice (some ⟨ab, ao, none⟩) l.knees.length cap, .int .i64 l.factor] 24
  go_enter Tryz.func33, Tryz.ntmps33
  go_wp2
  generalize w.alloc (.cells #[.slice (some ⟨ab, ao, none⟩) l.knees.length cap, .int .i64 l.factor] 24) = W0 at *
  go_loopw [5, 6] (fun sv iv wr => ∃ (j : Nat), j + 1 ≤ l.knees.length ∧ sv = .int .i64 (heldK l.knees t j) ∧ iv = .int .i64 ((j + 1 : Nat) : Int) ∧ Below W0.heap.size W0 wr) (fun _ iv _ => l.knees.length - (intOf iv).toNat)
  case atStart => exact ⟨0, by omega, rfl, rfl, Below.refl _ _⟩
  case round =>
    obtain ⟨j, hj, rfl, rfl, hb⟩ := hrel
    have hBr := hB.below hb hB.lt
    have hAr := hA.trans (hb.mono hA.size)
    by_cases hlt : j + 1 < l.knees.length
    · obtain ⟨b1, o1, he1, p1, p2, -⟩ := hl j (by omega)
      cases he1
      obtain ⟨b2, o2, he2, p3, p4, -⟩ := hl (j + 1) hlt
      cases he2
      have hkx := kn_eq (ks := l.knees) (i := j) (by omega)
      have hky := kn_eq (ks := l.knees) (i := j + 1) hlt
      have hpo := pOk_of (hok.piece hlt)
      have hst : heldK l.knees t (j + 1) = heldK l.knees t j + heldQ (kn l.knees j) (kn l.knees (j + 1)) t := rfl
      have hbd := heldK_bd hok t j (by omega)
      rw [← hkx] at p1 p2
      rw [← hky] at p3 p4
      clear hkx hky
      generalize kn l.knees j = x at *
      generalize kn l.knees (j + 1) = y at *
      have hqd : heldQ x y t = if t ≤ min x.hi y.hi then y.lo - x.lo else if max x.hi y.hi < t then 0 else (y.lo - x.lo) * (max x.hi y.hi - t) / (max x.hi y.hi - min x.hi y.hi) := rfl
      obtain ⟨m1, m2, a1, a2, b1, b2, c1, c2, d1, d2⟩ := hpo
      have he1 : (if y.hi < x.hi then y.hi else x.hi) = min x.hi y.hi := by split <;> omega
      have he2 : (if x.hi < y.hi then y.hi else x.hi) = max x.hi y.hi := by split <;> omega
      have hmn : min x.hi y.hi ≤ max x.hi y.hi := by omega
      have hb3 : 0 ≤ min x.hi y.hi ∧ max x.hi y.hi ≤ 10000 := by omega
      have HST := Lib.hid hst
      clear hst
      generalize heldK l.knees t j = sm at *
      generalize min x.hi y.hi = lo at *
      generalize max x.hi y.hi = hi at *
      have HQ := Lib.hid hqd
      clear hqd
      have x0 := ext_of_below hAr _ _ p1
      have x1 := ext_of_below hAr _ _ p2
      have y0 := ext_of_below hAr _ _ p3
      have y1 := ext_of_below hAr _ _ p4
      have e0 := hBr.cell 0 _ rfl
      have i3 : (0 : Int) ≤ (j : Int) := Int.natCast_nonneg _
      have i4 : (j : Int) < (l.knees.length : Int) := by omega
      have i5 : IntKind.i64.wrap (j : Int) = (j : Int) := (IntWalk.i64_left _).trans (wrap_id _ (by unfold I64; omega))
      have i6 : (0 : Int) ≤ (j : Int) + 1 := by omega
      have i7 : (j : Int) + 1 < (l.knees.length : Int) := by omega
      have qm := wrap_id (y.lo - x.lo) (by unfold I64; omega)
      have HSV : Hid (∀ V, Below wr.heap.size wr V → (fun w' : World => w'.cell? ⟨w.heap.size, 0, none⟩ = some (.slice (some ⟨ab, ao, none⟩) l.knees.length cap) ∧ w'.cell? ⟨ab, ao + j * 2, none⟩ = some (.int .i64 x.lo) ∧ w'.cell? ⟨ab, ao + j * 2 + 1, none⟩ = some (.int .i64 x.hi) ∧ w'.cell? ⟨ab, ao + (j + 1) * 2, none⟩ = some (.int .i64 y.lo) ∧ w'.cell? ⟨ab, ao + (j + 1) * 2 + 1, none⟩ = some (.int .i64 y.hi)) V) := Lib.hid (fun V hV => ⟨ext_of_below hV _ _ e0, ext_of_below hV _ _ x0, ext_of_below hV _ _ x1, ext_of_below hV _ _ y0, ext_of_below hV _ _ y1⟩)
      have D0 : Below wr.heap.size wr wr.drew := (Below.refl _ _).drew
      clear p1 p2 p3 p4 hl x0 x1 y0 y1 hBr hAr hB hA
      go_wp2_with fail
      clear e0
      refine wp_region_till (fun w' : World => w'.cell? ⟨w.heap.size, 0, none⟩ = some (.slice (some ⟨ab, ao, none⟩) l.knees.length cap) ∧ w'.cell? ⟨ab, ao + j * 2, none⟩ = some (.int .i64 x.lo) ∧ w'.cell? ⟨ab, ao + j * 2 + 1, none⟩ = some (.int .i64 x.hi) ∧ w'.cell? ⟨ab, ao + (j + 1) * 2, none⟩ = some (.int .i64 y.lo) ∧ w'.cell? ⟨ab, ao + (j + 1) * 2 + 1, none⟩ = some (.int .i64 y.hi)) 99 (by kernel_rfl) (HSV.out _ D0) (fun hHeld => ?_)
      refine Till.take 0 (some 19) (v := ?_) rfl rfl (by kernel_rfl) (by kernel_rfl) (by kernel_rfl) (by kernel_rfl) (fun _ _ _ h => h) (Or.inl ⟨by rfl, ?_⟩) (by assumption) ?_
      rotate_left
      · (intro w hSw; (try dsimp only at hSw); go_simp; try with_reducible rfl)
      try simp only [Act.put, List.setIfInBounds_toArray, List.set_cons_zero, List.set_cons_succ]
      refine Till.take 1 (some 20) (v := ?_) rfl rfl (by kernel_rfl) (by kernel_rfl) (by kernel_rfl) (by kernel_rfl) (fun _ _ _ h => h) (Or.inl ⟨by rfl, ?_⟩) (by assumption) ?_
      rotate_left
      · (intro w hSw; (try dsimp only at hSw); go_simp; try with_reducible rfl)
      try simp only [Act.put, List.setIfInBounds_toArray, List.set_cons_zero, List.set_cons_succ]
      refine Till.take 2 (some 21) (v := ?_) rfl rfl (by kernel_rfl) (by kernel_rfl) (by kernel_rfl) (by kernel_rfl) (fun _ _ _ h => h) (Or.inl ⟨by rfl, ?_⟩) (by assumption) ?_
      rotate_left
      · (intro w hSw; (try dsimp only at hSw); go_simp; try with_reducible rfl)
      try simp only [Act.put, List.setIfInBounds_toArray, List.set_cons_zero, List.set_cons_succ]
      refine Till.take 3 (some 22) (v := ?_) rfl rfl (by kernel_rfl) (by kernel_rfl) (by kernel_rfl) (by kernel_rfl) (fun _ _ _ h => h) (Or.inl ⟨by rfl, ?_⟩) (by assumption) ?_
      rotate_left
      · (intro w hSw; (try dsimp only at hSw); go_simp; try with_reducible rfl)
      try simp only [Act.put, List.setIfInBounds_toArray, List.set_cons_zero, List.set_cons_succ]
      refine Till.take 4 (some 23) (v := ?_) rfl rfl (by kernel_rfl) (by kernel_rfl) (by kernel_rfl) (by kernel_rfl) (fun _ _ _ h => h) (Or.inl ⟨by rfl, ?_⟩) (by assumption) ?_
      rotate_left
      · (intro w hSw; (try dsimp only at hSw); go_simp; try with_reducible rfl)
      try simp only [Act.put, List.setIfInBounds_toArray, List.set_cons_zero, List.set_cons_succ]
      refine Till.take 5 (some 24) (v := ?_) rfl rfl (by kernel_rfl) (by kernel_rfl) (by kernel_rfl) (by kernel_rfl) (fun _ _ _ h => h) (Or.inl ⟨by rfl, ?_⟩) (by assumption) ?_
      rotate_left
      · (intro w hSw; (try dsimp only at hSw); go_simp; try with_reducible rfl)
      try simp only [Act.put, List.setIfInBounds_toArray, List.set_cons_zero, List.set_cons_succ]
      refine Till.take 6 (some 25) (v := ?_) rfl rfl (by kernel_rfl) (by kernel_rfl) (by kernel_rfl) (by kernel_rfl) (fun _ _ _ h => h) (Or.inl ⟨by rfl, ?_⟩) (by assumption) ?_
      rotate_left
      · (intro w hSw; (try dsimp only at hSw); go_simp; try with_reducible rfl)
      try simp only [Act.put, List.setIfInBounds_toArray, List.set_cons_zero, List.set_cons_succ]
      refine Till.take 7 (some 26) (v := ?_) rfl rfl (by kernel_rfl) (by kernel_rfl) (by kernel_rfl) (by kernel_rfl) (fun _ _ _ h => h) (Or.inl ⟨by rfl, ?_⟩) (by assumption) ?_
      rotate_left
      · (intro w hSw; (try dsimp only at hSw); go_simp; try with_reducible rfl)
      try simp only [Act.put, List.setIfInBounds_toArray, List.set_cons_zero, List.set_cons_succ]
      refine Till.take 8 (some 27) (v := ?_) rfl rfl (by kernel_rfl) (by kernel_rfl) (by kernel_rfl) (by kernel_rfl) (fun _ _ _ h => h) (Or.inl ⟨by rfl, ?_⟩) (by assumption) ?_
      rotate_left
      · (intro w hSw; (try dsimp only at hSw); go_simp; try with_reducible rfl)
      try simp only [Act.put, List.setIfInBounds_toArray, List.set_cons_zero, List.set_cons_succ]
      refine Till.take 9 (some 28) (v := ?_) rfl rfl (by kernel_rfl) (by kernel_rfl) (by kernel_rfl) (by kernel_rfl) (fun _ _ _ h => h) (Or.inl ⟨by rfl, ?_⟩) (by assumption) ?_
      rotate_left
      · (intro w hSw; (try dsimp only at hSw); go_simp; try with_reducible rfl)
      try simp only [Act.put, List.setIfInBounds_toArray, List.set_cons_zero, List.set_cons_succ]
      refine Till.take 10 (some 29) (v := ?_) rfl rfl (by kernel_rfl) (by kernel_rfl) (by kernel_rfl) (by kernel_rfl) (fun _ _ _ h => h) (Or.inl ⟨by rfl, ?_⟩) (by assumption) ?_
      rotate_left
      · (intro w hSw; (try dsimp only at hSw); go_simp; try with_reducible rfl)
      try simp only [Act.put, List.setIfInBounds_toArray, List.set_cons_zero, List.set_cons_succ]
      generalize wr.drew = U at *
      refine Till.two 11 12 rfl rfl (by kernel_rfl) (fun K hK => ?_) (fun K hK => ?_)
      case refine_1 =>
        go_simp
        have D1 : Below wr.heap.size wr (U.alloc (.cells #[.int .i64 0, .int .i64 0] 101)) := D0.alloc D0.size _
        refine hK.out _ _ (fun _ => HSV.out _ D1) (fun _ => ?_)
        clear hK K
        try simp only [Act.put, List.setIfInBounds_toArray, List.set_cons_zero, List.set_cons_succ]
        refine Till.one 12 rfl (by kernel_rfl) (fun K hK => ?_)
        go_simp
        have D2 : Below wr.heap.size wr ((U.alloc (.cells #[.int .i64 0, .int .i64 0] 101)).alloc (.cells #[.int .i64 0, .int .i64 0] 101)) := D1.alloc D1.size _
        have hPa := (Blk.new U #[.int .i64 0, .int .i64 0] 101).alloc (.cells #[.int .i64 0, .int .i64 0] 101)
        have hPb := Blk.new (U.alloc (.cells #[.int .i64 0, .int .i64 0] 101)) #[.int .i64 0, .int .i64 0] 101
        simp only [World.size_alloc] at hPa hPb
        refine hK.out _ _ (fun _ => HSV.out _ D2) (fun _ => ?_)
        clear hK K
        try simp only [Act.put, List.setIfInBounds_toArray, List.set_cons_zero, List.set_cons_succ]
        generalize (U.alloc (.cells #[.int .i64 0, .int .i64 0] 101)).alloc (.cells #[.int .i64 0, .int .i64 0] 101) = V at *
        have hzU := D0.size
        have a0 := hPa.cell 0 _ rfl
        have a1 := hPa.cell 1 _ rfl
        have fa0 := hPa.frozen 0
        have fa1 := hPa.frozen 1
        have hPa3 : Blk ((V.setCell ⟨U.heap.size, 0, none⟩ (.int .i64 x.lo)).setCell ⟨U.heap.size, 1, none⟩ (.int .i64 x.hi)) (U.heap.size) #[.int .i64 x.lo, .int .i64 x.hi] 101 := by simpa using (hPa.set 0 (.int .i64 x.lo)).set 1 (.int .i64 x.hi)
        have hPb3 : Blk ((V.setCell ⟨U.heap.size, 0, none⟩ (.int .i64 x.lo)).setCell ⟨U.heap.size, 1, none⟩ (.int .i64 x.hi)) (U.heap.size + 1) #[.int .i64 0, .int .i64 0] 101 := (hPb.other _ _ (by simp)).other _ _ (by simp)
        have D3 := (D2.setCell (p := ⟨U.heap.size, 0, none⟩) (by simp only; omega) (.int .i64 x.lo)).setCell (p := ⟨U.heap.size, 1, none⟩) (by simp only; omega) (.int .i64 x.hi)
        have H3a := Lib.hid hPa3
        have H3b := Lib.hid hPb3
        have HD3 := Lib.hid D3
        clear hPa hPb hPa3 hPb3 D1 D2 D3
        refine Till.one 13 rfl (by kernel_rfl) (fun K hK => ?_)
        go_simp
        refine hK.out _ _ (fun _ => HSV.out _ HD3.out) (fun _ => ?_)
        clear hK K a0 a1 fa0 fa1
        try simp only [Act.put, List.setIfInBounds_toArray, List.set_cons_zero, List.set_cons_succ]
        generalize (V.setCell ⟨U.heap.size, 0, none⟩ (.int .i64 x.lo)).setCell ⟨U.heap.size, 1, none⟩ (.int .i64 x.hi) = V3 at *
        have hPa3 := H3a.out
        have hPb3 := H3b.out
        have D3 := HD3.out
        have b0 := hPb3.cell 0 _ rfl
        have b1 := hPb3.cell 1 _ rfl
        have fb0 := hPb3.frozen 0
        have fb1 := hPb3.frozen 1
        have H4b : Hid (Blk ((V3.setCell ⟨U.heap.size + 1, 0, none⟩ (.int .i64 y.lo)).setCell ⟨U.heap.size + 1, 1, none⟩ (.int .i64 y.hi)) (U.heap.size + 1) #[.int .i64 y.lo, .int .i64 y.hi] 101) := Lib.hid (by simpa using (hPb3.set 0 (.int .i64 y.lo)).set 1 (.int .i64 y.hi))
        have H4a : Hid (Blk ((V3.setCell ⟨U.heap.size + 1, 0, none⟩ (.int .i64 y.lo)).setCell ⟨U.heap.size + 1, 1, none⟩ (.int .i64 y.hi)) (U.heap.size) #[.int .i64 x.lo, .int .i64 x.hi] 101) := Lib.hid ((hPa3.other _ _ (by simp)).other _ _ (by simp))
        have HD4 := Lib.hid ((D3.setCell (p := ⟨U.heap.size + 1, 0, none⟩) (by simp only; omega) (.int .i64 y.lo)).setCell (p := ⟨U.heap.size + 1, 1, none⟩) (by simp only; omega) (.int .i64 y.hi))
        clear hPa3 hPb3 D3 H3a H3b HD3
        refine Till.one 14 rfl (by kernel_rfl) (fun K hK => ?_)
        go_simp
        refine hK.out _ _ (fun _ => HSV.out _ HD4.out) (fun _ => ?_)
        clear hK K b0 b1 fb0 fb1
        try simp only [Act.put, List.setIfInBounds_toArray, List.set_cons_zero, List.set_cons_succ]
        refine Till.done (by kernel_rfl) ?_ _
        generalize (V3.setCell ⟨U.heap.size + 1, 0, none⟩ (.int .i64 y.lo)).setCell ⟨U.heap.size + 1, 1, none⟩ (.int .i64 y.hi) = V4 at *
        have hPa := H4a.out
        have hPb := H4b.out
        have D4 := HD4.out
        clear H4a H4b HD4 HSV D0 hHeld
        have a0 := hPa.cell 0 _ rfl
        have a1 := hPa.cell 1 _ rfl
        have b0 := hPb.cell 0 _ rfl
        have b1 := hPb.cell 1 _ rfl
        have E0 : Below V4.heap.size V4 V4.drew := (Below.refl _ _).drew
        have hbF := Lib.hid (hb.trans ((D4.drew).mono hb.size))
        have hPaD : Blk V4.drew (U.heap.size) #[.int .i64 x.lo, .int .i64 x.hi] 101 := hPa
        have hPbD : Blk V4.drew (U.heap.size + 1) #[.int .i64 y.lo, .int .i64 y.hi] 101 := hPb
        have d0 := hPaD.cell 0 _ rfl
        have d2 := hPbD.cell 0 _ rfl
        have d1 := hPaD.cell 1 _ rfl
        have d3 := hPbD.cell 1 _ rfl
        go_wp2_with fail
        refine wp_region_till (fun w' : World => w'.cell? ⟨U.heap.size, 0, none⟩ = some (.int .i64 x.lo) ∧ w'.cell? ⟨U.heap.size, 1, none⟩ = some (.int .i64 x.hi) ∧ w'.cell? ⟨U.heap.size + 1, 0, none⟩ = some (.int .i64 y.lo) ∧ w'.cell? ⟨U.heap.size + 1, 1, none⟩ = some (.int .i64 y.hi)) 99 (by kernel_rfl) ⟨d0, d1, d2, d3⟩ (fun hHeld => ?_)
        refine Till.take 0 (some 30) (v := ?_) rfl rfl (by kernel_rfl) (by kernel_rfl) (by kernel_rfl) (by kernel_rfl) (fun _ _ _ h => h) (Or.inl ⟨by rfl, ?_⟩) (by assumption) ?_
        rotate_left
        · (intro w hSw; (try dsimp only at hSw); go_simp; try with_reducible rfl)
        try simp only [Act.put, List.setIfInBounds_toArray, List.set_cons_zero, List.set_cons_succ]
        refine Till.take 1 (some 31) (v := ?_) rfl rfl (by kernel_rfl) (by kernel_rfl) (by kernel_rfl) (by kernel_rfl) (fun _ _ _ h => h) (Or.inl ⟨by rfl, ?_⟩) (by assumption) ?_
        rotate_left
        · (intro w hSw; (try dsimp only at hSw); go_simp; try with_reducible rfl)
        try simp only [Act.put, List.setIfInBounds_toArray, List.set_cons_zero, List.set_cons_succ]
        refine Till.take 2 (some 32) (v := ?_) rfl rfl (by kernel_rfl) (by kernel_rfl) (by kernel_rfl) (by kernel_rfl) (fun _ _ _ h => h) (Or.inl ⟨by rfl, ?_⟩) (by assumption) ?_
        rotate_left
        · (intro w hSw; (try dsimp only at hSw); go_simp; try with_reducible rfl)
        try simp only [Act.put, List.setIfInBounds_toArray, List.set_cons_zero, List.set_cons_succ]
        refine Till.take 3 (some 33) (v := ?_) rfl rfl (by kernel_rfl) (by kernel_rfl) (by kernel_rfl) (by kernel_rfl) (fun _ _ _ h => h) (Or.inl ⟨by rfl, ?_⟩) (by assumption) ?_
        rotate_left
        · (intro w hSw; (try dsimp only at hSw); go_simp; try with_reducible rfl)
        try simp only [Act.put, List.setIfInBounds_toArray, List.set_cons_zero, List.set_cons_succ]
        refine Till.take 4 (some 34) (v := ?_) rfl rfl (by kernel_rfl) (by kernel_rfl) (by kernel_rfl) (by kernel_rfl) (fun _ _ _ h => h) (Or.inl ⟨by rfl, ?_⟩) (by assumption) ?_
        rotate_left
        · (intro w hSw; (try dsimp only at hSw); go_simp; try with_reducible rfl)
        try simp only [Act.put, List.setIfInBounds_toArray, List.set_cons_zero, List.set_cons_succ]
        refine Till.take 5 (some 35) (v := ?_) rfl rfl (by kernel_rfl) (by kernel_rfl) (by kernel_rfl) (by kernel_rfl) (fun _ _ _ h => h) (Or.inl ⟨by rfl, ?_⟩) (by assumption) ?_
        rotate_left
        · (intro w hSw; (try dsimp only at hSw); go_simp; try with_reducible rfl)
        try simp only [Act.put, List.setIfInBounds_toArray, List.set_cons_zero, List.set_cons_succ]
        refine Till.take 6 (some 36) (v := ?_) rfl rfl (by kernel_rfl) (by kernel_rfl) (by kernel_rfl) (by kernel_rfl) (fun _ _ _ h => h) (Or.inl ⟨by rfl, ?_⟩) (by assumption) ?_
        rotate_left
        · (intro w hSw; (try dsimp only at hSw); go_simp; try with_reducible rfl)
        try simp only [Act.put, List.setIfInBounds_toArray, List.set_cons_zero, List.set_cons_succ]
        refine Till.take 7 (some 37) (v := ?_) rfl rfl (by kernel_rfl) (by kernel_rfl) (by kernel_rfl) (by kernel_rfl) (fun _ _ _ h => h) (Or.inl ⟨by rfl, ?_⟩) (by assumption) ?_
        rotate_left
        · (intro w hSw; (try dsimp only at hSw); go_simp; try with_reducible rfl)
        try simp only [Act.put, List.setIfInBounds_toArray, List.set_cons_zero, List.set_cons_succ]
        refine Till.take 8 (some 38) (v := ?_) rfl rfl (by kernel_rfl) (by kernel_rfl) (by kernel_rfl) (by kernel_rfl) (fun _ _ _ h => h) (Or.inl ⟨by rfl, ?_⟩) (by assumption) ?_
        rotate_left
        · (intro w hSw; (try dsimp only at hSw); go_simp; try with_reducible rfl)
        try simp only [Act.put, List.setIfInBounds_toArray, List.set_cons_zero, List.set_cons_succ]
        refine Till.take 9 (some 39) (v := ?_) rfl rfl (by kernel_rfl) (by kernel_rfl) (by kernel_rfl) (by kernel_rfl) (fun _ _ _ h => h) (Or.inl ⟨by rfl, ?_⟩) (by assumption) ?_
        rotate_left
        · (intro w hSw; (try dsimp only at hSw); go_simp; try with_reducible rfl)
        try simp only [Act.put, List.setIfInBounds_toArray, List.set_cons_zero, List.set_cons_succ]
        refine Till.take 10 (some 9) (v := ?_) rfl rfl (by kernel_rfl) (by kernel_rfl) (by kernel_rfl) (by kernel_rfl) (fun _ _ _ h => h) (Or.inl ⟨by rfl, ?_⟩) (by assumption) ?_
        rotate_left
        · (intro w hSw; (try dsimp only at hSw); go_simp; try with_reducible rfl)
        try simp only [Act.put, List.setIfInBounds_toArray, List.set_cons_zero, List.set_cons_succ]
        refine Till.take 11 (some 10) (v := ?_) rfl rfl (by kernel_rfl) (by kernel_rfl) (by kernel_rfl) (by kernel_rfl) (fun _ _ _ h => h) (Or.inl ⟨by rfl, ?_⟩) (by assumption) ?_
        rotate_left
        · (intro w hSw; (try dsimp only at hSw); go_simp; try with_reducible rfl)
        try simp only [Act.put, List.setIfInBounds_toArray, List.set_cons_zero, List.set_cons_succ]
        refine Till.done (by kernel_rfl) ?_ _
        clear hHeld a0 a1 b0 b1 hPa hPb D4 E0 hPaD hPbD hb d1 d3
        generalize V4.drew = V5 at *
        try simp only [he1, he2]
        by_cases h1 : t ≤ lo
        · have g1 := decide_eq_true h1
          have HH := Lib.hid (show heldK l.knees t (j + 1) = sm + (y.lo - x.lo) by rw [HST.out, HQ.out, if_pos h1])
          have HB := hbF
          have w1 := wrap_id (sm + (y.lo - x.lo)) (by unfold I64; omega)
          go_wp2
          go_roundw
          case rel => exact ⟨j + 1, by omega, by rw [HH.out], by go_num, HB.out⟩
          case measure => simp [intOf]; omega

        by_cases h2 : hi < t
        · have g1 := decide_eq_false h1
          have g2 : decide (t ≤ hi) = false := decide_eq_false (by omega)
          have HH := Lib.hid (show heldK l.knees t (j + 1) = sm by rw [HST.out, HQ.out, if_neg h1, if_pos h2]; omega)
          have HB := hbF
          go_wp2
          go_roundw
          case rel => exact ⟨j + 1, by omega, by rw [HH.out], by go_num, HB.out⟩
          case measure => simp [intOf]; omega

        · have g1 := decide_eq_false h1
          have g2 : decide (t ≤ hi) = true := decide_eq_true (by omega)
          have hdv := div_between (m := y.lo - x.lo) (x := hi - t) (y := hi - lo) (by omega) (by omega) (by omega) (by omega)
          have HH := Lib.hid (show heldK l.knees t (j + 1) = sm + (y.lo - x.lo) * (hi - t) / (hi - lo) by rw [HST.out, HQ.out, if_neg h1, if_neg h2])
          have w3 := mulB (a := y.lo - x.lo) (b := hi - t) (A := 2000) (B := 10000) (by omega) (by omega)
          have q1 := wrap_id (hi - t) (by unfold I64; omega)
          have q2 := wrap_id (hi - lo) (by unfold I64; omega)
          have q3 := wrap_id ((y.lo - x.lo) * (hi - t)) (by unfold I64; omega)
          have hdn := fun V => rdown_any ((y.lo - x.lo) * (hi - t)) (hi - lo) V (by omega) (by omega)
          have w1 := wrap_id (sm + (y.lo - x.lo) * (hi - t) / (hi - lo)) (by unfold I64; omega)
          have HB := hbF
          clear hdv w3
          go_wp2_with fail
          refine (hdn _).mono ?_
          rintro e w' ⟨rfl, rfl⟩
          clear hdn
          go_wp2
          go_roundw
          case rel => exact ⟨j + 1, by omega, by rw [HH.out, w1], by go_num, HB.out⟩
          case measure => simp [intOf]; omega

      case refine_2 =>
        go_simp
        have D1 : Below wr.heap.size wr (U.alloc (.cells #[.int .i64 0, .int .i64 0] 101)) := D0.alloc D0.size _
        refine hK.out _ _ (fun _ => HSV.out _ D1) (fun _ => ?_)
        clear hK K
        try simp only [Act.put, List.setIfInBounds_toArray, List.set_cons_zero, List.set_cons_succ]
        refine Till.one 11 rfl (by kernel_rfl) (fun K hK => ?_)
        go_simp
        have D2 : Below wr.heap.size wr ((U.alloc (.cells #[.int .i64 0, .int .i64 0] 101)).alloc (.cells #[.int .i64 0, .int .i64 0] 101)) := D1.alloc D1.size _
        have hPa := Blk.new (U.alloc (.cells #[.int .i64 0, .int .i64 0] 101)) #[.int .i64 0, .int .i64 0] 101
        have hPb := (Blk.new U #[.int .i64 0, .int .i64 0] 101).alloc (.cells #[.int .i64 0, .int .i64 0] 101)
        simp only [World.size_alloc] at hPa hPb
        refine hK.out _ _ (fun _ => HSV.out _ D2) (fun _ => ?_)
        clear hK K
        try simp only [Act.put, List.setIfInBounds_toArray, List.set_cons_zero, List.set_cons_succ]
        generalize (U.alloc (.cells #[.int .i64 0, .int .i64 0] 101)).alloc (.cells #[.int .i64 0, .int .i64 0] 101) = V at *
        have hzU := D0.size
        have a0 := hPa.cell 0 _ rfl
        have a1 := hPa.cell 1 _ rfl
        have fa0 := hPa.frozen 0
        have fa1 := hPa.frozen 1
        have hPa3 : Blk ((V.setCell ⟨U.heap.size + 1, 0, none⟩ (.int .i64 x.lo)).setCell ⟨U.heap.size + 1, 1, none⟩ (.int .i64 x.hi)) (U.heap.size + 1) #[.int .i64 x.lo, .int .i64 x.hi] 101 := by simpa using (hPa.set 0 (.int .i64 x.lo)).set 1 (.int .i64 x.hi)
        have hPb3 : Blk ((V.setCell ⟨U.heap.size + 1, 0, none⟩ (.int .i64 x.lo)).setCell ⟨U.heap.size + 1, 1, none⟩ (.int .i64 x.hi)) (U.heap.size) #[.int .i64 0, .int .i64 0] 101 := (hPb.other _ _ (by simp)).other _ _ (by simp)
        have D3 := (D2.setCell (p := ⟨U.heap.size + 1, 0, none⟩) (by simp only; omega) (.int .i64 x.lo)).setCell (p := ⟨U.heap.size + 1, 1, none⟩) (by simp only; omega) (.int .i64 x.hi)
        have H3a := Lib.hid hPa3
        have H3b := Lib.hid hPb3
        have HD3 := Lib.hid D3
        clear hPa hPb hPa3 hPb3 D1 D2 D3
        refine Till.one 13 rfl (by kernel_rfl) (fun K hK => ?_)
        go_simp
        refine hK.out _ _ (fun _ => HSV.out _ HD3.out) (fun _ => ?_)
        clear hK K a0 a1 fa0 fa1
        try simp only [Act.put, List.setIfInBounds_toArray, List.set_cons_zero, List.set_cons_succ]
        generalize (V.setCell ⟨U.heap.size + 1, 0, none⟩ (.int .i64 x.lo)).setCell ⟨U.heap.size + 1, 1, none⟩ (.int .i64 x.hi) = V3 at *
        have hPa3 := H3a.out
        have hPb3 := H3b.out
        have D3 := HD3.out
        have b0 := hPb3.cell 0 _ rfl
        have b1 := hPb3.cell 1 _ rfl
        have fb0 := hPb3.frozen 0
        have fb1 := hPb3.frozen 1
        have H4b : Hid (Blk ((V3.setCell ⟨U.heap.size, 0, none⟩ (.int .i64 y.lo)).setCell ⟨U.heap.size, 1, none⟩ (.int .i64 y.hi)) (U.heap.size) #[.int .i64 y.lo, .int .i64 y.hi] 101) := Lib.hid (by simpa using (hPb3.set 0 (.int .i64 y.lo)).set 1 (.int .i64 y.hi))
        have H4a : Hid (Blk ((V3.setCell ⟨U.heap.size, 0, none⟩ (.int .i64 y.lo)).setCell ⟨U.heap.size, 1, none⟩ (.int .i64 y.hi)) (U.heap.size + 1) #[.int .i64 x.lo, .int .i64 x.hi] 101) := Lib.hid ((hPa3.other _ _ (by simp)).other _ _ (by simp))
        have HD4 := Lib.hid ((D3.setCell (p := ⟨U.heap.size, 0, none⟩) (by simp only; omega) (.int .i64 y.lo)).setCell (p := ⟨U.heap.size, 1, none⟩) (by simp only; omega) (.int .i64 y.hi))
        clear hPa3 hPb3 D3 H3a H3b HD3
        refine Till.one 14 rfl (by kernel_rfl) (fun K hK => ?_)
        go_simp
        refine hK.out _ _ (fun _ => HSV.out _ HD4.out) (fun _ => ?_)
        clear hK K b0 b1 fb0 fb1
        try simp only [Act.put, List.setIfInBounds_toArray, List.set_cons_zero, List.set_cons_succ]
        refine Till.done (by kernel_rfl) ?_ _
        generalize (V3.setCell ⟨U.heap.size, 0, none⟩ (.int .i64 y.lo)).setCell ⟨U.heap.size, 1, none⟩ (.int .i64 y.hi) = V4 at *
        have hPa := H4a.out
        have hPb := H4b.out
        have D4 := HD4.out
        clear H4a H4b HD4 HSV D0 hHeld
        have a0 := hPa.cell 0 _ rfl
        have a1 := hPa.cell 1 _ rfl
        have b0 := hPb.cell 0 _ rfl
        have b1 := hPb.cell 1 _ rfl
        have E0 : Below V4.heap.size V4 V4.drew := (Below.refl _ _).drew
        have hbF := Lib.hid (hb.trans ((D4.drew).mono hb.size))
        have hPaD : Blk V4.drew (U.heap.size + 1) #[.int .i64 x.lo, .int .i64 x.hi] 101 := hPa
        have hPbD : Blk V4.drew (U.heap.size) #[.int .i64 y.lo, .int .i64 y.hi] 101 := hPb
        have d0 := hPaD.cell 0 _ rfl
        have d2 := hPbD.cell 0 _ rfl
        have d1 := hPaD.cell 1 _ rfl
        have d3 := hPbD.cell 1 _ rfl
        go_wp2_with fail
        refine wp_region_till (fun w' : World => w'.cell? ⟨U.heap.size + 1, 0, none⟩ = some (.int .i64 x.lo) ∧ w'.cell? ⟨U.heap.size + 1, 1, none⟩ = some (.int .i64 x.hi) ∧ w'.cell? ⟨U.heap.size, 0, none⟩ = some (.int .i64 y.lo) ∧ w'.cell? ⟨U.heap.size, 1, none⟩ = some (.int .i64 y.hi)) 99 (by kernel_rfl) ⟨d0, d1, d2, d3⟩ (fun hHeld => ?_)
        refine Till.take 0 (some 30) (v := ?_) rfl rfl (by kernel_rfl) (by kernel_rfl) (by kernel_rfl) (by kernel_rfl) (fun _ _ _ h => h) (Or.inl ⟨by rfl, ?_⟩) (by assumption) ?_
        rotate_left
        · (intro w hSw; (try dsimp only at hSw); go_simp; try with_reducible rfl)
        try simp only [Act.put, List.setIfInBounds_toArray, List.set_cons_zero, List.set_cons_succ]
        refine Till.take 1 (some 31) (v := ?_) rfl rfl (by kernel_rfl) (by kernel_rfl) (by kernel_rfl) (by kernel_rfl) (fun _ _ _ h => h) (Or.inl ⟨by rfl, ?_⟩) (by assumption) ?_
        rotate_left
        · (intro w hSw; (try dsimp only at hSw); go_simp; try with_reducible rfl)
        try simp only [Act.put, List.setIfInBounds_toArray, List.set_cons_zero, List.set_cons_succ]
        refine Till.take 2 (some 32) (v := ?_) rfl rfl (by kernel_rfl) (by kernel_rfl) (by kernel_rfl) (by kernel_rfl) (fun _ _ _ h => h) (Or.inl ⟨by rfl, ?_⟩) (by assumption) ?_
        rotate_left
        · (intro w hSw; (try dsimp only at hSw); go_simp; try with_reducible rfl)
        try simp only [Act.put, List.setIfInBounds_toArray, List.set_cons_zero, List.set_cons_succ]
        refine Till.take 3 (some 33) (v := ?_) rfl rfl (by kernel_rfl) (by kernel_rfl) (by kernel_rfl) (by kernel_rfl) (fun _ _ _ h => h) (Or.inl ⟨by rfl, ?_⟩) (by assumption) ?_
        rotate_left
        · (intro w hSw; (try dsimp only at hSw); go_simp; try with_reducible rfl)
        try simp only [Act.put, List.setIfInBounds_toArray, List.set_cons_zero, List.set_cons_succ]
        refine Till.take 4 (some 34) (v := ?_) rfl rfl (by kernel_rfl) (by kernel_rfl) (by kernel_rfl) (by kernel_rfl) (fun _ _ _ h => h) (Or.inl ⟨by rfl, ?_⟩) (by assumption) ?_
        rotate_left
        · (intro w hSw; (try dsimp only at hSw); go_simp; try with_reducible rfl)
        try simp only [Act.put, List.setIfInBounds_toArray, List.set_cons_zero, List.set_cons_succ]
        refine Till.take 5 (some 35) (v := ?_) rfl rfl (by kernel_rfl) (by kernel_rfl) (by kernel_rfl) (by kernel_rfl) (fun _ _ _ h => h) (Or.inl ⟨by rfl, ?_⟩) (by assumption) ?_
        rotate_left
        · (intro w hSw; (try dsimp only at hSw); go_simp; try with_reducible rfl)
        try simp only [Act.put, List.setIfInBounds_toArray, List.set_cons_zero, List.set_cons_succ]
        refine Till.take 6 (some 36) (v := ?_) rfl rfl (by kernel_rfl) (by kernel_rfl) (by kernel_rfl) (by kernel_rfl) (fun _ _ _ h => h) (Or.inl ⟨by rfl, ?_⟩) (by assumption) ?_
        rotate_left
        · (intro w hSw; (try dsimp only at hSw); go_simp; try with_reducible rfl)
        try simp only [Act.put, List.setIfInBounds_toArray, List.set_cons_zero, List.set_cons_succ]
        refine Till.take 7 (some 37) (v := ?_) rfl rfl (by kernel_rfl) (by kernel_rfl) (by kernel_rfl) (by kernel_rfl) (fun _ _ _ h => h) (Or.inl ⟨by rfl, ?_⟩) (by assumption) ?_
        rotate_left
        · (intro w hSw; (try dsimp only at hSw); go_simp; try with_reducible rfl)
        try simp only [Act.put, List.setIfInBounds_toArray, List.set_cons_zero, List.set_cons_succ]
        refine Till.take 8 (some 38) (v := ?_) rfl rfl (by kernel_rfl) (by kernel_rfl) (by kernel_rfl) (by kernel_rfl) (fun _ _ _ h => h) (Or.inl ⟨by rfl, ?_⟩) (by assumption) ?_
        rotate_left
        · (intro w hSw; (try dsimp only at hSw); go_simp; try with_reducible rfl)
        try simp only [Act.put, List.setIfInBounds_toArray, List.set_cons_zero, List.set_cons_succ]
        refine Till.take 9 (some 39) (v := ?_) rfl rfl (by kernel_rfl) (by kernel_rfl) (by kernel_rfl) (by kernel_rfl) (fun _ _ _ h => h) (Or.inl ⟨by rfl, ?_⟩) (by assumption) ?_
        rotate_left
        · (intro w hSw; (try dsimp only at hSw); go_simp; try with_reducible rfl)
        try simp only [Act.put, List.setIfInBounds_toArray, List.set_cons_zero, List.set_cons_succ]
        refine Till.take 10 (some 9) (v := ?_) rfl rfl (by kernel_rfl) (by kernel_rfl) (by kernel_rfl) (by kernel_rfl) (fun _ _ _ h => h) (Or.inl ⟨by rfl, ?_⟩) (by assumption) ?_
        rotate_left
        · (intro w hSw; (try dsimp only at hSw); go_simp; try with_reducible rfl)
        try simp only [Act.put, List.setIfInBounds_toArray, List.set_cons_zero, List.set_cons_succ]
        refine Till.take 11 (some 10) (v := ?_) rfl rfl (by kernel_rfl) (by kernel_rfl) (by kernel_rfl) (by kernel_rfl) (fun _ _ _ h => h) (Or.inl ⟨by rfl, ?_⟩) (by assumption) ?_
        rotate_left
        · (intro w hSw; (try dsimp only at hSw); go_simp; try with_reducible rfl)
        try simp only [Act.put, List.setIfInBounds_toArray, List.set_cons_zero, List.set_cons_succ]
        refine Till.done (by kernel_rfl) ?_ _
        clear hHeld a0 a1 b0 b1 hPa hPb D4 E0 hPaD hPbD hb d1 d3
        generalize V4.drew = V5 at *
        try simp only [he1, he2]
        by_cases h1 : t ≤ lo
        · have g1 := decide_eq_true h1
          have HH := Lib.hid (show heldK l.knees t (j + 1) = sm + (y.lo - x.lo) by rw [HST.out, HQ.out, if_pos h1])
          have HB := hbF
          have w1 := wrap_id (sm + (y.lo - x.lo)) (by unfold I64; omega)
          go_wp2
          go_roundw
          case rel => exact ⟨j + 1, by omega, by rw [HH.out], by go_num, HB.out⟩
          case measure => simp [intOf]; omega

        by_cases h2 : hi < t
        · have g1 := decide_eq_false h1
          have g2 : decide (t ≤ hi) = false := decide_eq_false (by omega)
          have HH := Lib.hid (show heldK l.knees t (j + 1) = sm by rw [HST.out, HQ.out, if_neg h1, if_pos h2]; omega)
          have HB := hbF
          go_wp2
          go_roundw
          case rel => exact ⟨j + 1, by omega, by rw [HH.out], by go_num, HB.out⟩
          case measure => simp [intOf]; omega

        · have g1 := decide_eq_false h1
          have g2 : decide (t ≤ hi) = true := decide_eq_true (by omega)
          have hdv := div_between (m := y.lo - x.lo) (x := hi - t) (y := hi - lo) (by omega) (by omega) (by omega) (by omega)
          have HH := Lib.hid (show heldK l.knees t (j + 1) = sm + (y.lo - x.lo) * (hi - t) / (hi - lo) by rw [HST.out, HQ.out, if_neg h1, if_neg h2])
          have w3 := mulB (a := y.lo - x.lo) (b := hi - t) (A := 2000) (B := 10000) (by omega) (by omega)
          have q1 := wrap_id (hi - t) (by unfold I64; omega)
          have q2 := wrap_id (hi - lo) (by unfold I64; omega)
          have q3 := wrap_id ((y.lo - x.lo) * (hi - t)) (by unfold I64; omega)
          have hdn := fun V => rdown_any ((y.lo - x.lo) * (hi - t)) (hi - lo) V (by omega) (by omega)
          have w1 := wrap_id (sm + (y.lo - x.lo) * (hi - t) / (hi - lo)) (by unfold I64; omega)
          have HB := hbF
          clear hdv w3
          go_wp2_with fail
          refine (hdn _).mono ?_
          rintro e w' ⟨rfl, rfl⟩
          clear hdn
          go_wp2
          go_roundw
          case rel => exact ⟨j + 1, by omega, by rw [HH.out, w1], by go_num, HB.out⟩
          case measure => simp [intOf]; omega

    · have hke : j = l.knees.length - 1 := by omega
      have HL := Lib.hid (show heldL l t = heldK l.knees t j by rw [hke]; rfl)
      have hnl : decide ((j : Int) + 1 < (l.knees.length : Int)) = false := decide_eq_false (by omega)
      have e0 := hBr.cell 0 _ rfl
      clear hl hke
      go_wp2
      go_ret
      exact ⟨ret_int HL.out.symm, hAr⟩


end Go.Proofs.YtmmlocjiegkjeaaGreatDoor
