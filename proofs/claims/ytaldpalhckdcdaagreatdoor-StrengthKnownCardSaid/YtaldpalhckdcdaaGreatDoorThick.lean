/- How thick a ring is: the program's own; no statement is proved here. -/
import Derived.Test.YtaldpalhckdcdaaGreatDoorTill
namespace Go.Proofs.YtaldpalhckdcdaaGreatDoor
open Go.RowKit Go.PlainAid
set_option linter.unusedVariables false
/-- the circle's number, from both sides: the two variables. -/
def Circ (w : World) : Prop := w.cell? ⟨0, 0, none⟩ = some (.int .i64 355) ∧ w.cell? ⟨0, 1, none⟩ = some (.int .i64 113) ∧ w.cell? ⟨1, 0, none⟩ = some (.int .i64 333) ∧ w.cell? ⟨1, 1, none⟩ = some (.int .i64 106)
theorem Circ.mono {w w' : World} (e : Ext w w') (h : Circ w) : Circ w' := ⟨e _ _ h.1, e _ _ h.2.1, e _ _ h.2.2.1, e _ _ h.2.2.2⟩

set_option maxHeartbeats 1000000 in
set_option maxRecDepth 100000 in
theorem thickness_any (r : Rg) (s : Sp) (w : World) (hr : OkR r) (hs : OkW s) (hC : Circ w) :
    Calls Tryz.prog 84 #[.agg (rgCells r).toArray, .agg #[.int .i64 s.lo, .int .i64 s.hi]] w fun e w' => e = .returned (.agg #[.int .i64 (thickR r s).lo, .int .i64 (thickR r s).hi]) ∧ Below w.heap.size w w' := by
  obtain ⟨b1, b2, b3, b4, b5, b6⟩ := thick_bd hr hs
  have q1 := wrap_id (200 * s.lo) (by unfold I64; omega)
  have q2 := wrap_id (200 * s.lo * r.share.lo) (by unfold I64; omega)
  have q3 := wrap_id (r.radius.hi * r.height.hi) (by unfold I64; omega)
  have q4 := wrap_id (200 * s.hi) (by unfold I64; omega)
  have q5 := wrap_id (200 * s.hi * r.share.hi) (by unfold I64; omega)
  have q6 := wrap_id (r.radius.lo * r.height.lo) (by unfold I64; omega)
  have hlo : (thickR r s).lo = (200 * s.lo * r.share.lo * 113) / (r.radius.hi * r.height.hi * 355) := rfl
  have hhi : (thickR r s).hi = (200 * s.hi * r.share.hi * 106 + r.radius.lo * r.height.lo * 333 - 1) / (r.radius.lo * r.height.lo * 333) := rfl
  replace hlo := Lib.hid hlo
  replace hhi := Lib.hid hhi
  generalize thickR r s = T at *
  simp only [rgCells]
  go_enter Tryz.func84, Tryz.ntmps84
  have hA : Below w.heap.size w (((((w.alloc (.cells #[.int .i64 r.radius.lo, .int .i64 r.radius.hi, .int .i64 r.height.lo, .int .i64 r.height.hi, .int .i64 r.share.lo, .int .i64 r.share.hi, .int .i64 r.factor.lo, .int .i64 r.factor.hi, .int .i64 r.hit.lo, .int .i64 r.hit.hi] 63)).alloc (.cells #[.int .i64 s.lo, .int .i64 s.hi] 27)).alloc (.cells #[.int .i64 0, .int .i64 0] 27)).alloc (.cells #[.int .i64 (200 * s.lo * r.share.lo), .int .i64 (r.radius.hi * r.height.hi)] 96)).alloc (.cells #[.int .i64 (200 * s.hi * r.share.hi), .int .i64 (r.radius.lo * r.height.lo)] 96)) := ((((below_boxS w _).alloc (by simp) _).alloc (by simp only [World.size_alloc]; omega) _).alloc (by simp only [World.size_alloc]; omega) _).alloc (by simp only [World.size_alloc]; omega) _
  have hO := ((Blk.new (((w.alloc (.cells #[.int .i64 r.radius.lo, .int .i64 r.radius.hi, .int .i64 r.height.lo, .int .i64 r.height.hi, .int .i64 r.share.lo, .int .i64 r.share.hi, .int .i64 r.factor.lo, .int .i64 r.factor.hi, .int .i64 r.hit.lo, .int .i64 r.hit.hi] 63)).alloc (.cells #[.int .i64 s.lo, .int .i64 s.hi] 27))) #[.int .i64 0, .int .i64 0] 27).alloc (.cells #[.int .i64 (200 * s.lo * r.share.lo), .int .i64 (r.radius.hi * r.height.hi)] 96)).alloc (.cells #[.int .i64 (200 * s.hi * r.share.hi), .int .i64 (r.radius.lo * r.height.lo)] 96)
  have hX := (Blk.new (((w.alloc (.cells #[.int .i64 r.radius.lo, .int .i64 r.radius.hi, .int .i64 r.height.lo, .int .i64 r.height.hi, .int .i64 r.share.lo, .int .i64 r.share.hi, .int .i64 r.factor.lo, .int .i64 r.factor.hi, .int .i64 r.hit.lo, .int .i64 r.hit.hi] 63)).alloc (.cells #[.int .i64 s.lo, .int .i64 s.hi] 27)).alloc (.cells #[.int .i64 0, .int .i64 0] 27)) #[.int .i64 (200 * s.lo * r.share.lo), .int .i64 (r.radius.hi * r.height.hi)] 96).alloc (.cells #[.int .i64 (200 * s.hi * r.share.hi), .int .i64 (r.radius.lo * r.height.lo)] 96)
  have hY := Blk.new (((((w.alloc (.cells #[.int .i64 r.radius.lo, .int .i64 r.radius.hi, .int .i64 r.height.lo, .int .i64 r.height.hi, .int .i64 r.share.lo, .int .i64 r.share.hi, .int .i64 r.factor.lo, .int .i64 r.factor.hi, .int .i64 r.hit.lo, .int .i64 r.hit.hi] 63)).alloc (.cells #[.int .i64 s.lo, .int .i64 s.hi] 27)).alloc (.cells #[.int .i64 0, .int .i64 0] 27)).alloc (.cells #[.int .i64 (200 * s.lo * r.share.lo), .int .i64 (r.radius.hi * r.height.hi)] 96))) #[.int .i64 (200 * s.hi * r.share.hi), .int .i64 (r.radius.lo * r.height.lo)] 96
  simp only [World.size_alloc] at hO hX hY
  have hCC := hC.mono (ext_of_below hA)
  go_wp2_with fail
  generalize (((((w.alloc (.cells #[.int .i64 r.radius.lo, .int .i64 r.radius.hi, .int .i64 r.height.lo, .int .i64 r.height.hi, .int .i64 r.share.lo, .int .i64 r.share.hi, .int .i64 r.factor.lo, .int .i64 r.factor.hi, .int .i64 r.hit.lo, .int .i64 r.hit.hi] 63)).alloc (.cells #[.int .i64 s.lo, .int .i64 s.hi] 27)).alloc (.cells #[.int .i64 0, .int .i64 0] 27)).alloc (.cells #[.int .i64 (200 * s.lo * r.share.lo), .int .i64 (r.radius.hi * r.height.hi)] 96)).alloc (.cells #[.int .i64 (200 * s.hi * r.share.hi), .int .i64 (r.radius.lo * r.height.lo)] 96)) = W at *
  clear hC q1 q2 q3 q4 q5 q6 b1 b4
  generalize 200 * s.lo * r.share.lo = x at *
  generalize 200 * s.hi * r.share.hi = y at *
  generalize r.radius.hi * r.height.hi = d at *
  generalize r.radius.lo * r.height.lo = e at *
  have p1 := wrap_id (x * 113) (by unfold I64; omega)
  have p2 := wrap_id (d * 355) (by unfold I64; omega)
  have p3 := wrap_id (y * 106) (by unfold I64; omega)
  have p4 := wrap_id (e * 333) (by unfold I64; omega)
  have hby1 := fun V => by_any x d 355 113 V
  have hby2 := fun V => by_any y e 333 106 V
  rw [p1, p2] at hby1
  rw [p3, p4] at hby2
  have hdn := fun V => down_any (x * 113) (d * 355) V (by omega) (by omega)
  have hup := fun V => up_any (y * 106) (e * 333) V (by omega) (by omega)
  obtain ⟨g0, g1, g2, g3⟩ := hCC
  have D0 : Below W.heap.size W W.drew := (Below.refl _ _).drew
  have x0 := hX.cell 0 _ rfl
  have x1 := hX.cell 1 _ rfl
  have y0 := hY.cell 0 _ rfl
  have y1 := hY.cell 1 _ rfl
  have lX := hX.lt
  have lY := hY.lt
  have lO := hO.lt
  have hsv : ∀ V, Below W.heap.size W V → (fun w' : World => w'.cell? ⟨w.heap.size + 1 + 1 + 1, 0, none⟩ = some (.int .i64 x) ∧ w'.cell? ⟨w.heap.size + 1 + 1 + 1, 1, none⟩ = some (.int .i64 d) ∧ w'.cell? ⟨w.heap.size + 1 + 1 + 1 + 1, 0, none⟩ = some (.int .i64 y) ∧ w'.cell? ⟨w.heap.size + 1 + 1 + 1 + 1, 1, none⟩ = some (.int .i64 e) ∧ w'.cell? ⟨0, 0, none⟩ = some (.int .i64 355) ∧ w'.cell? ⟨0, 1, none⟩ = some (.int .i64 113) ∧ w'.cell? ⟨1, 0, none⟩ = some (.int .i64 333) ∧ w'.cell? ⟨1, 1, none⟩ = some (.int .i64 106)) V := fun V hV => ⟨ext_of_below hV _ _ x0, ext_of_below hV _ _ x1, ext_of_below hV _ _ y0, ext_of_below hV _ _ y1, ext_of_below hV _ _ g0, ext_of_below hV _ _ g1, ext_of_below hV _ _ g2, ext_of_below hV _ _ g3⟩
  clear p1 p2 p3 p4 b2 b3 b5 b6 hX hY
  refine wp_region_till (fun w' : World => w'.cell? ⟨w.heap.size + 1 + 1 + 1, 0, none⟩ = some (.int .i64 x) ∧ w'.cell? ⟨w.heap.size + 1 + 1 + 1, 1, none⟩ = some (.int .i64 d) ∧ w'.cell? ⟨w.heap.size + 1 + 1 + 1 + 1, 0, none⟩ = some (.int .i64 y) ∧ w'.cell? ⟨w.heap.size + 1 + 1 + 1 + 1, 1, none⟩ = some (.int .i64 e) ∧ w'.cell? ⟨0, 0, none⟩ = some (.int .i64 355) ∧ w'.cell? ⟨0, 1, none⟩ = some (.int .i64 113) ∧ w'.cell? ⟨1, 0, none⟩ = some (.int .i64 333) ∧ w'.cell? ⟨1, 1, none⟩ = some (.int .i64 106)) 9 (by kernel_rfl) (hsv _ D0) (fun hHeld => ?_)
  refine Till.take 0 (some 37) (v := ?_) rfl rfl (by kernel_rfl) (by kernel_rfl) (by kernel_rfl) (by kernel_rfl) (fun _ _ _ h => h) (Or.inl ⟨by rfl, ?_⟩) (by assumption) ?_
  rotate_left
  · (intro w hSw; (try dsimp only at hSw); go_simp; try with_reducible rfl)
  try simp only [Act.put, List.setIfInBounds_toArray, List.set_cons_zero, List.set_cons_succ]
  refine Till.take 1 (some 38) (v := ?_) rfl rfl (by kernel_rfl) (by kernel_rfl) (by kernel_rfl) (by kernel_rfl) (fun _ _ _ h => h) (Or.inl ⟨by rfl, ?_⟩) (by assumption) ?_
  rotate_left
  · (intro w hSw; (try dsimp only at hSw); go_simp; try with_reducible rfl)
  try simp only [Act.put, List.setIfInBounds_toArray, List.set_cons_zero, List.set_cons_succ]
  refine Till.take 4 (some 41) (v := ?_) rfl rfl (by kernel_rfl) (by kernel_rfl) (by kernel_rfl) (by kernel_rfl) (fun _ _ _ h => h) (Or.inl ⟨by rfl, ?_⟩) (by assumption) ?_
  rotate_left
  · (intro w hSw; (try dsimp only at hSw); go_simp; try with_reducible rfl)
  try simp only [Act.put, List.setIfInBounds_toArray, List.set_cons_zero, List.set_cons_succ]
  refine Till.take 5 (some 42) (v := ?_) rfl rfl (by kernel_rfl) (by kernel_rfl) (by kernel_rfl) (by kernel_rfl) (fun _ _ _ h => h) (Or.inl ⟨by rfl, ?_⟩) (by assumption) ?_
  rotate_left
  · (intro w hSw; (try dsimp only at hSw); go_simp; try with_reducible rfl)
  try simp only [Act.put, List.setIfInBounds_toArray, List.set_cons_zero, List.set_cons_succ]
  refine Till.one 2 rfl (by kernel_rfl) (fun K hK => ?_)
  go_simp
  go_at_call 99
  refine (hby1 _).mono ?_
  rintro e1 w1 ⟨rfl, hb1⟩
  have D1 := D0.trans (hb1.mono D0.size)
  refine hK.out _ _ (fun _ => hsv _ D1) (fun hHeld2 => ?_)
  clear hK K hby1
  try simp only [Act.put, List.setIfInBounds_toArray, List.set_cons_zero, List.set_cons_succ]
  refine Till.one 3 rfl (by kernel_rfl) (fun K hK => ?_)
  go_simp
  go_at_call 61
  refine (hdn _).mono ?_
  rintro e2 w2 ⟨rfl, hb2⟩
  have D2 := D1.trans (hb2.mono D1.size)
  refine hK.out _ _ (fun _ => hsv _ D2) (fun hHeld3 => ?_)
  clear hK K hdn hb2 hHeld2
  try simp only [Act.put, List.setIfInBounds_toArray, List.set_cons_zero, List.set_cons_succ]
  refine Till.one 6 rfl (by kernel_rfl) (fun K hK => ?_)
  go_simp
  go_at_call 99
  refine (hby2 _).mono ?_
  rintro e3 w3 ⟨rfl, hb3⟩
  have D3 := D2.trans (hb3.mono D2.size)
  refine hK.out _ _ (fun _ => hsv _ D3) (fun hHeld4 => ?_)
  clear hK K hby2 hb3 hHeld3
  try simp only [Act.put, List.setIfInBounds_toArray, List.set_cons_zero, List.set_cons_succ]
  refine Till.one 7 rfl (by kernel_rfl) (fun K hK => ?_)
  go_simp
  go_at_call 62
  refine (hup _).mono ?_
  rintro e4 w4 ⟨rfl, hb4⟩
  have D4 := D3.trans (hb4.mono D3.size)
  refine hK.out _ _ (fun _ => hsv _ D4) (fun hHeld5 => ?_)
  clear hK K hup hb4 hHeld4
  try simp only [Act.put, List.setIfInBounds_toArray, List.set_cons_zero, List.set_cons_succ]
  have hh5 := hsv _ D4
  dsimp only at hh5
  refine Till.take 8 (some 45) (v := ?_) rfl rfl (by kernel_rfl) (by kernel_rfl) (by kernel_rfl) (by kernel_rfl) (fun _ _ _ h => h) (Or.inl ⟨by rfl, ?_⟩) (by assumption) ?_
  rotate_left
  · (intro w hSw; (try dsimp only at hSw); go_simp; try with_reducible rfl)
  try simp only [Act.put, List.setIfInBounds_toArray, List.set_cons_zero, List.set_cons_succ]
  have hO4 := hO.below D4 lO
  have z0 := hO4.cell 0 _ rfl
  have z1 := hO4.cell 1 _ rfl
  have f0 := hO4.frozen 0
  have f1 := hO4.frozen 1
  have HF : Hid (Blk ((w4.setCell ⟨w.heap.size + 1 + 1, 0, none⟩ (.int .i64 (x * 113 / (d * 355)))).setCell ⟨w.heap.size + 1 + 1, 1, none⟩ (.int .i64 ((y * 106 + e * 333 - 1) / (e * 333)))) (w.heap.size + 1 + 1) #[.int .i64 (x * 113 / (d * 355)), .int .i64 ((y * 106 + e * 333 - 1) / (e * 333))] 27) := Lib.hid (by
    have := (hO4.set 0 (.int .i64 (x * 113 / (d * 355)))).set 1 (.int .i64 ((y * 106 + e * 333 - 1) / (e * 333)))
    simpa using this)
  have hAF := hA.trans (D4.mono hA.size)
  have HB := Lib.hid ((hAF.setCell (p := ⟨w.heap.size + 1 + 1, 0, none⟩) (by simp only; omega) (.int .i64 (x * 113 / (d * 355)))).setCell (p := ⟨w.heap.size + 1 + 1, 1, none⟩) (by simp only; omega) (.int .i64 ((y * 106 + e * 333 - 1) / (e * 333))))
  clear hh5 hHeld D0 D1 D2 D3 D4 hO hO4 hA hAF hsv g0 g1 g2 g3 x0 x1 y0 y1 hb1
  refine Till.one 9 rfl (by kernel_rfl) (fun K hK => ?_)
  go_simp
  refine hK.out _ _ (fun h => absurd rfl h) (fun _ => ?_)
  clear hK K
  refine Till.done (by kernel_rfl) ?_ _
  go_wp2
  have r0 := HF.out.cell 0 _ rfl
  have r1 := HF.out.cell 1 _ rfl
  refine ⟨rfl, .agg #[.int .i64 (x * 113 / (d * 355)), .int .i64 ((y * 106 + e * 333 - 1) / (e * 333))], ?_, by rw [hlo.out, hhi.out], HB.out⟩
  simp only [List.getElem_toArray, List.getElem_cons_zero, List.getElem_cons_succ] at r0 r1
  simp [results, Tryz.results84, go_sem, r0, r1]

end Go.Proofs.YtaldpalhckdcdaaGreatDoor
