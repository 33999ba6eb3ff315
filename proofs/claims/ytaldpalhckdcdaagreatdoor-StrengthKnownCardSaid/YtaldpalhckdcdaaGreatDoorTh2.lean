/- How thick the rings of a bottle are: the closure of Thickness, walked; no statement is proved here. -/
import Derived.Test.YtaldpalhckdcdaaGreatDoorTh1
namespace Go.Proofs.YtaldpalhckdcdaaGreatDoor
open Go.RowKit Go.PlainAid
set_option linter.unusedVariables false
attribute [local go_sem] Oper.semAt_some
set_option maxHeartbeats 2000000 in
set_option maxRecDepth 100000 in
theorem thick1_any (v0 : Value) (b : Bot) (s : Sp) (p0 p1 : Nat) (w : World) (hB : Blk w p0 #[v0, .int .i64 b.flaw, .int .i64 b.tough] 24) (hS : Blk w p1 #[.int .i64 s.lo, .int .i64 s.hi] 27)
    (hr : RRgs w v0 b.rings) (hI : I64 b.flaw ∧ I64 b.tough) (hC : Circ w) :
    Calls Tryz.prog 98 #[.pointer (some ⟨p0, 0, none⟩), .pointer (some ⟨p1, 0, none⟩)] w
      (Finds (fun W v => (thickS b s).2 = 0 ∧ RSps W v (thickS b s).1) (fun n => n ≠ 0 ∧ n = (thickS b s).2) w) := by
  have hRB : RBot w (.agg #[v0, .int .i64 b.flaw, .int .i64 b.tough]) b := ⟨v0, rfl, hr, hI⟩
  have hrr := hr
  obtain ⟨a, cap, rfl, hc1, ⟨hc2, hm⟩, hl⟩ := hr
  have c0 := hB.cell 0 _ rfl
  have c1 := hB.cell 1 _ rfl
  have c2 := hB.cell 2 _ rfl
  have hnb := needBottle_in _ b w 9 hRB
  have hmk := run_make_sp b.rings.length
  have hlB := hB.lt
  have hlS := hS.lt
  clear hl hRB
  refine (callsIn_wide (n := 9)).1 ?_
  refine callsIn_of_wp_marks Tryz.func98 rfl trivial ?_ rfl
  simp only [Tryz.ntmps98, List.size_toArray, List.length_cons, List.length_nil, Nat.reduceAdd, Nat.reduceSub, Array.replicate_succ, Array.replicate_zero, List.push_toArray, List.append_toArray, List.nil_append, List.cons_append]
  gi_wp2_with fail
  refine ⟨trivial, callsIn_wide.2 ?_⟩
  refine (calls_p hnb).mono ?_
  rintro e w1 ⟨(⟨hc, rfl⟩ | ⟨hc, rfl⟩), hb1⟩
  rotate_left
  · have ht : thickS b s = ([], checkS b) := by simp [thickS, hc]
    exact ⟨hb1, .inr ⟨_, rfl, hc, by rw [ht]⟩⟩
  have hB1 := hB.below hb1 hlB
  have hS1 := hS.below hb1 hlS
  have d0 := hS1.cell 0 _ rfl
  have d1 := hS1.cell 1 _ rfl
  have HC := Lib.hid hc
  clear hnb c0 c1 c2 hc
  gi_wp2_with fail
  refine ⟨trivial, callsIn_wide.2 ?_⟩
  refine (calls_p (within_in s 1 100000 w1 9)).mono ?_
  rintro e w2 ⟨rfl, hb2⟩
  have hA2 := hb1.trans (hb2.mono hb1.size)
  cases hw : wi s 1 100000 with
  | false =>
    gi_wp2_with fail
    refine ⟨trivial, callsIn_wide.2 ?_⟩
    refine (calls_p (need_no 1 _ 9)).mono ?_
    rintro e w' ⟨rfl, rfl⟩
    have ht : thickS b s = ([], 1) := by simp [thickS, HC.out, hw]
    exact ⟨hA2, .inr ⟨_, rfl, by decide, by rw [ht]⟩⟩
  | true =>
  have hB2 := hB1.below hb2 hB1.lt
  have hS2 := hS1.below hb2 hS1.lt
  have hlB2 := hB2.lt
  have hlS2 := hS2.lt
  have c0 := hB2.cell 0 _ rfl
  have c1 := hB2.cell 1 _ rfl
  have c2 := hB2.cell 2 _ rfl
  have hok := okS_of HC.out
  have hmo := hok.most
  have HM := Lib.hid (hmk (by omega))
  have HW := Lib.hid hw
  clear d0 d1 hb2 hmk hS1 hB1 hw
  gi_wp2_with fail
  refine ⟨trivial, callsIn_wide.2 ?_⟩
  refine (calls_p (need_ok 1 _ 9)).mono ?_
  rintro e w' ⟨rfl, hw'⟩
  obtain rfl := hw'.symm
  clear hw'
  have hmk := HM.out
  gi_wp2_with fail
  refine ⟨trivial, callsIn_wide.2 ?_⟩
  refine (calls_p (rings_in (.slice a b.rings.length cap) b _ 9)).mono ?_
  rintro e w' ⟨rfl, rfl⟩
  have hb5 : Below w2.heap.size w2 (((w2.alloc (.cells (madeCells #[.int .i64 0, .int .i64 0] (b.rings.length * 2)) 27)).alloc (.cells #[.slice (some ⟨w2.heap.size, 0, none⟩) b.rings.length b.rings.length] 28)).alloc (.cells #[.slice a b.rings.length cap, .int .i64 b.flaw, .int .i64 b.tough] 24)) := ((below_boxS w2 _).alloc (by simp) _).alloc (by simp only [World.size_alloc]; omega) _
  have hA5 := hA2.trans (hb5.mono hA2.size)
  have hrow : SpUpto (((w2.alloc (.cells (madeCells #[.int .i64 0, .int .i64 0] (b.rings.length * 2)) 27)).alloc (.cells #[.slice (some ⟨w2.heap.size, 0, none⟩) b.rings.length b.rings.length] 28)).alloc (.cells #[.slice a b.rings.length cap, .int .i64 b.flaw, .int .i64 b.tough] 24)) w2.heap.size b.rings.length (thickL b s) 0 := by
    obtain ⟨f, hf⟩ := rowIs_made2 w2 b.rings.length
    exact ⟨f, (hf.alloc _).alloc _, fun i _ h => absurd h (by omega)⟩
  have hall := (Blk.new (w2.alloc (.cells (madeCells #[.int .i64 0, .int .i64 0] (b.rings.length * 2)) 27)) #[.slice (some ⟨w2.heap.size, 0, none⟩) b.rings.length b.rings.length] 28).alloc (.cells #[.slice a b.rings.length cap, .int .i64 b.flaw, .int .i64 b.tough] 24)
  have hit := Blk.new ((w2.alloc (.cells (madeCells #[.int .i64 0, .int .i64 0] (b.rings.length * 2)) 27)).alloc (.cells #[.slice (some ⟨w2.heap.size, 0, none⟩) b.rings.length b.rings.length] 28)) #[.slice a b.rings.length cap, .int .i64 b.flaw, .int .i64 b.tough] 24
  have hz : (((w2.alloc (.cells (madeCells #[.int .i64 0, .int .i64 0] (b.rings.length * 2)) 27)).alloc (.cells #[.slice (some ⟨w2.heap.size, 0, none⟩) b.rings.length b.rings.length] 28)).alloc (.cells #[.slice a b.rings.length cap, .int .i64 b.flaw, .int .i64 b.tough] 24)).heap.size = w2.heap.size + 3 := by simp
  replace hz := And.intro (Nat.le_of_eq hz) (Nat.le_of_eq hz.symm)
  simp only [World.size_alloc] at hall hit
  clear hmk
  gi_wp2_with fail
  generalize ((w2.alloc (.cells (madeCells #[.int .i64 0, .int .i64 0] (b.rings.length * 2)) 27)).alloc (.cells #[.slice (some ⟨w2.heap.size, 0, none⟩) b.rings.length b.rings.length] 28)).alloc (.cells #[.slice a b.rings.length cap, .int .i64 b.flaw, .int .i64 b.tough] 24) = W5 at *
  have hwz := hA2.size
  have hr5 : RRgs (vis (fun k => ¬ k = w2.heap.size) W5) (.slice a b.rings.length cap) b.rings := hrr.mono (ext_vis_all (ext_of_below hA5) (fun k hk => by omega))
  refine wpIn_range_p (fun k => k = w2.heap.size) rfl (by simp [Fence.wide]) (gf := 72) (lb := #[.pointer (some ⟨w2.heap.size + 1 + 1, 0, none⟩)]) rfl trivial (enters_of Tryz.func72 (by kernel_rfl) rfl)
    (ringIt_any _ Fence.wide _ trivial rfl rfl _ b _ W5 hr5 (by omega) hit) (fun k x hx => by obtain ⟨_, rfl⟩ := encR_ix hx; rfl)
    (fun k W => SpUpto W w2.heap.size b.rings.length (thickL b s) k ∧ Blk W (w2.heap.size + 1) #[.slice (some ⟨w2.heap.size, 0, none⟩) b.rings.length b.rings.length] 28 ∧ Below w.heap.size w W)
    (fun _ _ => False) (fun _ _ => False)
    (OwnFrom.and (Own.from (SpUpto.own _ _ _ _) _) (OwnFrom.and (Own.from (blk_own _ _ _) _) (ownFrom_below (Nat.le_refl _) (by omega))))
    (fun _ _ _ _ _ hs _ _ => hs.elim) (fun _ _ _ _ h => h.elim) ⟨hrow, hall, hA5⟩
    (fun x a' W => ∃ Bx vk vs, W5.heap.size ≤ Bx ∧ x = #[vk, .agg vs] ∧ Blk W Bx vs 63 ∧ a' = { tmps := #[.pointer (some ⟨p0, 0, none⟩), .pointer (some ⟨p1, 0, none⟩), .slice none 0 0, .pointer (some ⟨w2.heap.size + 1, 0, none⟩), vk, .pointer (some ⟨Bx, 0, none⟩), .agg #[.slice a b.rings.length cap, .int .i64 b.flaw, .int .i64 b.tough], .tuple #[], .agg #[.int .i64 s.lo, .int .i64 s.hi], .bool true, .tuple #[], .pointer (some ⟨p0, 0, none⟩), .slice a b.rings.length cap, .int .i64 b.rings.length, .slice (some ⟨w2.heap.size, 0, none⟩) b.rings.length b.rings.length, .agg #[.slice a b.rings.length cap, .int .i64 b.flaw, .int .i64 b.tough], .func (.func 72) #[] #[.pointer (some ⟨w2.heap.size + 1 + 1, 0, none⟩)], vk, .agg vs, undef, undef, undef, undef, undef, undef, undef], defers := [] })
    (fun x a' s' X Y row hs hg hr => by
      obtain ⟨Bx, v0, vs, h1, h2, h3, h4⟩ := hs
      exact ⟨Bx, v0, vs, h1, h2, (blk_own (β := Unit) Bx _ (fun _ => vs)) () X Y row h3 hg (fun r e => (hr r e).2), h4⟩)
    ?assign ?body ?done ?stop ?panic
  case stop => exact fun D c W _ h => h.elim
  case panic => exact fun D ch W _ h => h.elim
  case assign =>
    rintro l k x W K hx hWs ⟨hrow, hall, hBel⟩ hK
    obtain ⟨hk, rfl⟩ := encR_ix hx
    clear hx
    generalize b.rings[k] = r at *
    simp only [rgCells] at hK ⊢
    have hsW : W5.heap.size ≤ W.heap.size := hWs
    gi_wp2
    exact hK _ _ ((KeepsOthers.alloc _ _).from _) (BelS.of_below ((below_boxS W _).mono hsW)) ⟨hrow.of_block (Below.heap_alloc _ _ _ (by omega)), hall.alloc _, hBel.alloc hBel.size _⟩ ⟨W.heap.size, _, _, hsW, rfl, Blk.new _ _ _, rfl⟩
  case body =>
    rintro l k x a' W hx hWs ⟨hrow, hall, hBel⟩ ⟨Bx, v0, vs, hBx, he, hX, rfl⟩
    obtain ⟨hk, rfl⟩ := encR_ix hx
    simp only [Array.mk.injEq, List.cons.injEq, and_true, Value.agg.injEq] at he
    obtain ⟨rfl, rfl⟩ := he
    have hkL : k < (thickL b s).length := by simpa [thickL] using hk
    have hLk : (thickL b s)[k] = thickR b.rings[k] s := by simp [thickL]
    have hOkr := hok.rings k hk
    have hOkw : OkW s := by
      obtain ⟨q1, q2, q3⟩ := wi_true.1 HW.out
      exact ⟨q1, q2, q3⟩
    have hSW := hS.below hBel hlS
    have hth := fun V (hV : Below W.heap.size W V) => thickness_any b.rings[k] s V hOkr hOkw ((hC.mono (ext_of_below hBel)).mono (ext_of_below hV))
    have hstep := fun V (h : SpUpto V w2.heap.size b.rings.length (thickL b s) k) => h.step hkL
    rw [hLk] at hstep
    have e0 := hall.cell 0 _ rfl
    have s0 := hSW.cell 0 _ rfl
    have s1 := hSW.cell 1 _ rfl
    have lX := hX.lt
    have lA := hall.lt
    have lS := hSW.lt
    have i1 : (0 : Int) ≤ (k : Int) := Int.natCast_nonneg _
    have i2 : (k : Int) < (b.rings.length : Int) := by omega
    have hxs : ∀ j, j < 10 → ∀ V, Below W.heap.size W V → V.cell? ⟨Bx, j, none⟩ = (rgCells b.rings[k])[j]? := fun j hj V hV => by
      have hj' : j < (rgCells b.rings[k]).length := hj
      rw [List.getElem?_eq_getElem hj']
      exact ext_of_below hV _ _ (hX.cell j _ (by simp [List.getElem?_eq_getElem hj']))
    have HK := Lib.hid hk
    clear hx hLk hX hkL
    generalize b.rings[k] = r at *
    generalize thickR r s = T at *
    have hsv : ∀ V, Below W.heap.size W V → (fun w' : World => w'.cell? ⟨w2.heap.size + 1, 0, none⟩ = some (.slice (some ⟨w2.heap.size, 0, none⟩) b.rings.length b.rings.length) ∧ w'.cell? ⟨Bx, 0, none⟩ = some (.int .i64 r.radius.lo) ∧ w'.cell? ⟨Bx, 1, none⟩ = some (.int .i64 r.radius.hi) ∧ w'.cell? ⟨Bx, 2, none⟩ = some (.int .i64 r.height.lo) ∧ w'.cell? ⟨Bx, 3, none⟩ = some (.int .i64 r.height.hi) ∧ w'.cell? ⟨Bx, 4, none⟩ = some (.int .i64 r.share.lo) ∧ w'.cell? ⟨Bx, 5, none⟩ = some (.int .i64 r.share.hi) ∧ w'.cell? ⟨Bx, 6, none⟩ = some (.int .i64 r.factor.lo) ∧ w'.cell? ⟨Bx, 7, none⟩ = some (.int .i64 r.factor.hi) ∧ w'.cell? ⟨Bx, 8, none⟩ = some (.int .i64 r.hit.lo) ∧ w'.cell? ⟨Bx, 9, none⟩ = some (.int .i64 r.hit.hi) ∧ w'.cell? ⟨p1, 0, none⟩ = some (.int .i64 s.lo) ∧ w'.cell? ⟨p1, 1, none⟩ = some (.int .i64 s.hi)) V := fun V hV => ⟨ext_of_below hV _ _ e0, hxs 0 (by omega) V hV, hxs 1 (by omega) V hV, hxs 2 (by omega) V hV, hxs 3 (by omega) V hV, hxs 4 (by omega) V hV, hxs 5 (by omega) V hV, hxs 6 (by omega) V hV, hxs 7 (by omega) V hV, hxs 8 (by omega) V hV, hxs 9 (by omega) V hV, ext_of_below hV _ _ s0, ext_of_below hV _ _ s1⟩
    simp only [rgCells] at hth
    have D0 : Below W.heap.size W W.drew := (Below.refl _ _).drew
    have HR := Lib.hid hrow
    clear hxs hSW hk hrow
    gi_wp2_with fail
    refine wpIn_region_till (fun w' : World => w'.cell? ⟨w2.heap.size + 1, 0, none⟩ = some (.slice (some ⟨w2.heap.size, 0, none⟩) b.rings.length b.rings.length) ∧ w'.cell? ⟨Bx, 0, none⟩ = some (.int .i64 r.radius.lo) ∧ w'.cell? ⟨Bx, 1, none⟩ = some (.int .i64 r.radius.hi) ∧ w'.cell? ⟨Bx, 2, none⟩ = some (.int .i64 r.height.lo) ∧ w'.cell? ⟨Bx, 3, none⟩ = some (.int .i64 r.height.hi) ∧ w'.cell? ⟨Bx, 4, none⟩ = some (.int .i64 r.share.lo) ∧ w'.cell? ⟨Bx, 5, none⟩ = some (.int .i64 r.share.hi) ∧ w'.cell? ⟨Bx, 6, none⟩ = some (.int .i64 r.factor.lo) ∧ w'.cell? ⟨Bx, 7, none⟩ = some (.int .i64 r.factor.hi) ∧ w'.cell? ⟨Bx, 8, none⟩ = some (.int .i64 r.hit.lo) ∧ w'.cell? ⟨Bx, 9, none⟩ = some (.int .i64 r.hit.hi) ∧ w'.cell? ⟨p1, 0, none⟩ = some (.int .i64 s.lo) ∧ w'.cell? ⟨p1, 1, none⟩ = some (.int .i64 s.hi)) 6 (by kernel_rfl) (by kernel_rfl) (fun ⟨_, _, h⟩ => h) (hsv _ D0) (fun hHeld => ?_)
    refine Till.take 0 (some 19) (v := ?_) rfl rfl (by kernel_rfl) (by kernel_rfl) (by kernel_rfl) (by kernel_rfl) (fun _ _ _ h => h) (Or.inl ⟨by rfl, ?_⟩) (by assumption) ?_
    rotate_left
    · (intro w hSw; (try dsimp only at hSw); go_simp; try with_reducible rfl)
    try simp only [Act.put, List.setIfInBounds_toArray, List.set_cons_zero, List.set_cons_succ]
    refine Till.take 1 (some 20) (v := ?_) rfl rfl (by kernel_rfl) (by kernel_rfl) (by kernel_rfl) (by kernel_rfl) (fun _ _ _ h => h) (Or.inl ⟨by rfl, ?_⟩) (by assumption) ?_
    rotate_left
    · (intro w hSw; (try dsimp only at hSw); go_simp; try with_reducible rfl)
    try simp only [Act.put, List.setIfInBounds_toArray, List.set_cons_zero, List.set_cons_succ]
    refine Till.take 2 (some 21) (v := ?_) rfl rfl (by kernel_rfl) (by kernel_rfl) (by kernel_rfl) (by kernel_rfl) (fun _ _ _ h => h) (Or.inl ⟨by rfl, ?_⟩) (by assumption) ?_
    rotate_left
    · (intro w hSw; (try dsimp only at hSw); go_simp; try with_reducible rfl)
    try simp only [Act.put, List.setIfInBounds_toArray, List.set_cons_zero, List.set_cons_succ]
    refine Till.take 3 (some 22) (v := ?_) rfl rfl (by kernel_rfl) (by kernel_rfl) (by kernel_rfl) (by kernel_rfl) (fun _ _ _ h => h) (Or.inl ⟨by rfl, ?_⟩) (by assumption) ?_
    rotate_left
    · (intro w hSw; (try dsimp only at hSw); go_simp; try with_reducible rfl)
    try simp only [Act.put, List.setIfInBounds_toArray, List.set_cons_zero, List.set_cons_succ]
    refine Till.one 4 rfl (by kernel_rfl) (fun K hK => ?_)
    go_simp
    go_at_call 84
    refine (hth _ D0).mono ?_
    rintro e8 w8 ⟨rfl, hb8⟩
    have D1 := D0.trans (hb8.mono D0.size)
    refine hK.out _ _ (fun _ => hsv _ D1) (fun hHeld2 => ?_)
    clear hK K hth hb8
    try simp only [Act.put, List.setIfInBounds_toArray, List.set_cons_zero, List.set_cons_succ]
    have hh := hsv _ D1
    try dsimp only at hh
    refine Till.take 5 (some 24) (v := ?_) rfl rfl (by kernel_rfl) (by kernel_rfl) (by kernel_rfl) (by kernel_rfl) (fun _ _ _ h => h) (Or.inl ⟨by rfl, ?_⟩) (by assumption) ?_
    rotate_left
    · (intro w hSw; (try dsimp only at hSw); go_simp; try with_reducible rfl)
    try simp only [Act.put, List.setIfInBounds_toArray, List.set_cons_zero, List.set_cons_succ]
    have lG := (Array.getElem?_eq_some_iff.1 (show W.heap[w2.heap.size]? = _ from HR.out.choose_spec.1.choose_spec.1)).1
    have hr8 : SpUpto w8 w2.heap.size b.rings.length (thickL b s) k := HR.out.of_block (D1.block _ lG)
    have hs8 := hstep _ hr8
    obtain ⟨f, hf, -⟩ := hr8
    have HKo := HK.out
    have z0 := hf.cell (i := k * 2) (by omega)
    have z1 := hf.cell (i := k * 2 + 1) (by omega)
    have f0 := hf.frozen (k * 2)
    have f1 := hf.frozen (k * 2 + 1)
    have hB8 := hBel.trans (D1.mono hBel.size)
    have hwB : w.heap.size ≤ w2.heap.size := hA2.size
    have HS := Lib.hid hs8
    have HAF : Hid (Blk ((w8.setCell ⟨w2.heap.size, k * 2, none⟩ (.int .i64 T.lo)).setCell ⟨w2.heap.size, k * 2 + 1, none⟩ (.int .i64 T.hi)) (w2.heap.size + 1) #[.slice (some ⟨w2.heap.size, 0, none⟩) b.rings.length b.rings.length] 28) := Lib.hid (((hall.below D1 lA).other _ _ (by simp)).other _ _ (by simp))
    have HBF := Lib.hid ((hB8.setCell (p := ⟨w2.heap.size, k * 2, none⟩) hwB (.int .i64 T.lo)).setCell (p := ⟨w2.heap.size, k * 2 + 1, none⟩) hwB (.int .i64 T.hi))
    have HKF : Hid (KeepsFrom W5.heap.size W ((w8.setCell ⟨w2.heap.size, k * 2, none⟩ (.int .i64 T.lo)).setCell ⟨w2.heap.size, k * 2 + 1, none⟩ (.int .i64 T.hi))) :=
      Lib.hid ((keeps_below D1 (Nat.le_refl _)).trans (((KeepsOthers.setCell _ _ _).trans (KeepsOthers.setCell _ _ _)).from _))
    have HBS : Hid (BelS (fun k => k = w2.heap.size) W5.heap.size W ((w8.setCell ⟨w2.heap.size, k * 2, none⟩ (.int .i64 T.lo)).setCell ⟨w2.heap.size, k * 2 + 1, none⟩ (.int .i64 T.hi))) :=
      Lib.hid (BelS.set (S := fun k => k = w2.heap.size) (BelS.set (S := fun k => k = w2.heap.size) (BelS.of_below (D1.mono hWs)) ⟨w2.heap.size, k * 2, none⟩ _ (.inr rfl)) ⟨w2.heap.size, k * 2 + 1, none⟩ _ (.inr rfl))
    clear hh hHeld hHeld2 D0 D1 hsv hall hBel hB8 hs8 hstep hf e0 s0 s1 hS hC hrr hA2 hB2 hS2 c0 c1 c2 hB HR hr5 hA5 hrow hit hb5 hb1
    refine Till.one 6 rfl (by kernel_rfl) (fun K hK => ?_)
    go_simp
    refine hK.out _ _ (fun h => absurd rfl h) (fun _ => ?_)
    clear hK K
    refine Till.done (by kernel_rfl) ?_ _
    gi_wp2
    exact ⟨HKF.out, HBS.out, HS.out, HAF.out, HBF.out⟩
  case done =>
    rintro D W hD ⟨hrow, hall, hBel⟩ hKD
    rw [encR_len] at hrow
    have ht : thickS b s = (thickL b s, 0) := by simp [thickS, HC.out, HW.out]
    have hOkw : OkW s := by
      obtain ⟨q1, q2, q3⟩ := wi_true.1 HW.out
      exact ⟨q1, q2, q3⟩
    have hlen : (thickL b s).length = b.rings.length := by simp [thickL]
    have hPD : Below w.heap.size w (W.putObj D (.deferred none)) := hBel.trans (belowK_b (w := w) (Nat.le_refl _) W D _ _ (by omega) hKD rfl rfl)
    have hrP : SpUpto (W.putObj D (.deferred none)) w2.heap.size b.rings.length (thickL b s) b.rings.length := hrow.of_block (World.putObj_heap_other (by omega))
    have hrd : RSps (vis (w.heap.size ≤ ·) (W.putObj D (.deferred none))) (.slice (some ⟨w2.heap.size, 0, none⟩) b.rings.length b.rings.length) (thickL b s) :=
      SpUpto.reads (by rw [hlen]; exact hrP) hlen hwz (by omega) (fun x hx => by
        obtain ⟨r, hr, rfl⟩ := List.mem_map.1 hx
        obtain ⟨j, hj, rfl⟩ := List.getElem_of_mem hr
        have := thickR_bd (hok.rings j hj) hOkw
        unfold I64s I64
        omega)
    have e0 := hall.cell 0 _ rfl
    have HT := Lib.hid ht
    have HP := Lib.hid hPD
    have HR := Lib.hid hrd
    clear ht hPD hrd hrP hrow hall hBel hlen
    gi_wp2
    refine ⟨by simp, .inl ⟨_, _, rfl, run_takeDeferred hKD, ?_⟩⟩
    refine ⟨_, results_tmp rfl _ _ _, HP.out, .inl ⟨_, rfl, ?_⟩⟩
    rw [HT.out]
    exact ⟨rfl, HR.out⟩

end Go.Proofs.YtaldpalhckdcdaaGreatDoor
