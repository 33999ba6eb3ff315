/- What a load makes of the rings of a bottle: the closure of Stress, walked; no statement is proved here. -/
import Derived.Test.YtaldpalhckdcdaaGreatDoorTh1
import Derived.Test.YtaldpalhckdcdaaGreatDoorHolds
import Derived.Deep.MidRow
namespace Go.Proofs.YtaldpalhckdcdaaGreatDoor
open Go.RowKit Go.PlainAid
set_option linter.unusedVariables false
attribute [local go_sem] Oper.semAt_some
def strL (b : Bot) (ts : List Sp) (l : Ld) : List Sp := (List.range b.rings.length).map (strAt b ts l)
theorem strL_len (b : Bot) (ts : List Sp) (l : Ld) : (strL b ts l).length = b.rings.length := by simp [strL]
theorem strL_at {b : Bot} {ts : List Sp} {l : Ld} {k : Nat} (h : k < (strL b ts l).length) : (strL b ts l)[k] = strAt b ts l k := by simp [strL]
theorem strL_I {b : Bot} {ts : List Sp} {l : Ld} (h : wallS b ts l = 0) : ∀ x ∈ strL b ts l, I64s x := fun x hx => by
  have hok := okWall_of h
  obtain ⟨k, hk, rfl⟩ := List.getElem_of_mem hx
  rw [strL_at]
  rw [strL_len] at hk
  have hkt : k < ts.length := by rw [hok.len]; exact hk
  rw [strAt_eq hk hkt]
  have := strR_in (hok.bot.rings k hk) (hok.thick k hkt) hok.load
  unfold SpIn at this
  unfold I64s I64
  omega

set_option maxHeartbeats 2000000 in
set_option maxRecDepth 100000 in
theorem stress1_any (a ta : Option Addr) (cap tc : Nat) (b : Bot) (ts : List Sp) (l : Ld) (p0 p1 p2 : Nat) (w : World) (h : RBot w (.agg #[.slice a b.rings.length cap, .int .i64 b.flaw, .int .i64 b.tough]) b) (ht : RSps w (.slice ta ts.length tc) ts) (hC : Circ w)
    (hB : Blk w p0 #[.slice a b.rings.length cap, .int .i64 b.flaw, .int .i64 b.tough] 24) (hT : Blk w p1 #[.slice ta ts.length tc] 28) (hL : Blk w p2 #[.int .i64 l.press, .int .i64 l.force, .int .i64 l.speed, .int .i64 l.other] 33) :
    Calls Tryz.prog 22 #[.pointer (some ⟨p0, 0, none⟩), .pointer (some ⟨p1, 0, none⟩), .pointer (some ⟨p2, 0, none⟩)] w (Finds (fun W v => wallS b ts l = 0 ∧ RSps W v (strL b ts l)) (fun n => n ≠ 0 ∧ n = wallS b ts l) w) := by
  have hnw := needWall_in _ _ b ts l w 9 h ht
  obtain ⟨v0, he, hr, hI⟩ := h
  cases he
  have hrr := hr
  obtain ⟨a', cap', he, hc1, ⟨hc2, hm⟩, -⟩ := hr
  cases he
  obtain ⟨ta', tc', he, -, -, htl⟩ := ht
  cases he
  have c0 := hB.cell 0 _ rfl
  have c1 := hB.cell 1 _ rfl
  have c2 := hB.cell 2 _ rfl
  have d0 := hT.cell 0 _ rfl
  have l0 := hL.cell 0 _ rfl
  have l1 := hL.cell 1 _ rfl
  have l2 := hL.cell 2 _ rfl
  have l3 := hL.cell 3 _ rfl
  have hmk := run_make_sp b.rings.length
  have hlB := hB.lt
  have hlT := hT.lt
  have hlL := hL.lt
  refine (callsIn_wide (n := 9)).1 ?_
  refine callsIn_of_wp_marks Tryz.func22 rfl trivial ?_ rfl
  simp only [Tryz.ntmps22, List.size_toArray, List.length_cons, List.length_nil, Nat.reduceAdd, Nat.reduceSub, Array.replicate_succ, Array.replicate_zero, List.push_toArray, List.append_toArray, List.nil_append, List.cons_append]
  gi_wp2_with fail
  refine ⟨trivial, callsIn_wide.2 ?_⟩
  refine (calls_p hnw).mono ?_
  rintro e w1 ⟨(⟨hc, rfl⟩ | ⟨hc, rfl⟩), hb1⟩
  rotate_left
  · exact ⟨hb1, .inr ⟨_, rfl, hc, rfl⟩⟩
  have hB1 := hB.below hb1 hlB
  have hok := okWall_of hc
  have hmo := hok.bot.most
  have HM := Lib.hid (hmk (by omega))
  have HC := Lib.hid hc
  clear hnw c0 c1 c2 d0 l0 l1 l2 l3 hc hmk
  have hmk := HM.out
  have c0 := hB1.cell 0 _ rfl
  have c1 := hB1.cell 1 _ rfl
  have c2 := hB1.cell 2 _ rfl
  have hlB1 := hB1.lt
  gi_wp2_with fail
  refine ⟨trivial, callsIn_wide.2 ?_⟩
  refine (calls_p (rings_in (.slice a b.rings.length cap) b _ 9)).mono ?_
  rintro e w' ⟨rfl, rfl⟩
  have hb5 : Below w1.heap.size w1 (((w1.alloc (.cells (madeCells #[.int .i64 0, .int .i64 0] (b.rings.length * 2)) 27)).alloc (.cells #[.slice (some ⟨w1.heap.size, 0, none⟩) b.rings.length b.rings.length] 28)).alloc (.cells #[.slice a b.rings.length cap, .int .i64 b.flaw, .int .i64 b.tough] 24)) := ((below_boxS w1 _).alloc (by simp) _).alloc (by simp only [World.size_alloc]; omega) _
  have hA5 := hb1.trans (hb5.mono hb1.size)
  have hrow : SpUpto (((w1.alloc (.cells (madeCells #[.int .i64 0, .int .i64 0] (b.rings.length * 2)) 27)).alloc (.cells #[.slice (some ⟨w1.heap.size, 0, none⟩) b.rings.length b.rings.length] 28)).alloc (.cells #[.slice a b.rings.length cap, .int .i64 b.flaw, .int .i64 b.tough] 24)) w1.heap.size b.rings.length (strL b ts l) 0 := by
    obtain ⟨f, hf⟩ := rowIs_made2 w1 b.rings.length
    exact ⟨f, (hf.alloc _).alloc _, fun i _ h => absurd h (by omega)⟩
  have hall := (Blk.new (w1.alloc (.cells (madeCells #[.int .i64 0, .int .i64 0] (b.rings.length * 2)) 27)) #[.slice (some ⟨w1.heap.size, 0, none⟩) b.rings.length b.rings.length] 28).alloc (.cells #[.slice a b.rings.length cap, .int .i64 b.flaw, .int .i64 b.tough] 24)
  have hit := Blk.new ((w1.alloc (.cells (madeCells #[.int .i64 0, .int .i64 0] (b.rings.length * 2)) 27)).alloc (.cells #[.slice (some ⟨w1.heap.size, 0, none⟩) b.rings.length b.rings.length] 28)) #[.slice a b.rings.length cap, .int .i64 b.flaw, .int .i64 b.tough] 24
  have hz : (((w1.alloc (.cells (madeCells #[.int .i64 0, .int .i64 0] (b.rings.length * 2)) 27)).alloc (.cells #[.slice (some ⟨w1.heap.size, 0, none⟩) b.rings.length b.rings.length] 28)).alloc (.cells #[.slice a b.rings.length cap, .int .i64 b.flaw, .int .i64 b.tough] 24)).heap.size = w1.heap.size + 3 := by simp
  replace hz := And.intro (Nat.le_of_eq hz) (Nat.le_of_eq hz.symm)
  simp only [World.size_alloc] at hall hit
  clear hmk
  gi_wp2_with fail
  generalize (((w1.alloc (.cells (madeCells #[.int .i64 0, .int .i64 0] (b.rings.length * 2)) 27)).alloc (.cells #[.slice (some ⟨w1.heap.size, 0, none⟩) b.rings.length b.rings.length] 28)).alloc (.cells #[.slice a b.rings.length cap, .int .i64 b.flaw, .int .i64 b.tough] 24)) = W5 at *
  obtain ⟨w2, hw2⟩ : ∃ w2, w2 = w1 := ⟨w1, rfl⟩
  subst hw2
  have hwz := hb1.size
  have hr5 : RRgs (vis (fun k => ¬ k = w2.heap.size) W5) (.slice a b.rings.length cap) b.rings := hrr.mono (ext_vis_all (ext_of_below hA5) (fun k hk => by omega))
  refine wpIn_range_p (fun k => k = w2.heap.size) rfl (by simp [Fence.wide]) (gf := 72) (lb := #[.pointer (some ⟨w2.heap.size + 1 + 1, 0, none⟩)]) rfl trivial (enters_of Tryz.func72 (by kernel_rfl) rfl)
    (ringIt_any _ Fence.wide _ trivial rfl rfl _ b _ W5 hr5 (by omega) hit) (fun k x hx => by obtain ⟨_, rfl⟩ := encR_ix hx; rfl)
    (fun k W => SpUpto W w2.heap.size b.rings.length (strL b ts l) k ∧ Blk W (w2.heap.size + 1) #[.slice (some ⟨w2.heap.size, 0, none⟩) b.rings.length b.rings.length] 28 ∧ Below w.heap.size w W)
    (fun _ _ => False) (fun _ _ => False)
    (OwnFrom.and (Own.from (SpUpto.own _ _ _ _) _) (OwnFrom.and (Own.from (blk_own _ _ _) _) (ownFrom_below (Nat.le_refl _) (by omega))))
    (fun _ _ _ _ _ hs _ _ => hs.elim) (fun _ _ _ _ h => h.elim) ⟨hrow, hall, hA5⟩
    (fun x a' W => ∃ Bx vk vs, W5.heap.size ≤ Bx ∧ x = #[vk, .agg vs] ∧ Blk W Bx vs 63 ∧ a' = { tmps := #[.pointer (some ⟨p0, 0, none⟩), .pointer (some ⟨p1, 0, none⟩), .pointer (some ⟨p2, 0, none⟩), .slice none 0 0, .pointer (some ⟨w2.heap.size + 1, 0, none⟩), vk, .pointer (some ⟨Bx, 0, none⟩), .agg #[.slice a b.rings.length cap, .int .i64 b.flaw, .int .i64 b.tough], .slice ta ts.length tc, .agg #[.int .i64 l.press, .int .i64 l.force, .int .i64 l.speed, .int .i64 l.other], .tuple #[], .pointer (some ⟨p0, 0, none⟩), .slice a b.rings.length cap, .int .i64 b.rings.length, .slice (some ⟨w2.heap.size, 0, none⟩) b.rings.length b.rings.length, .agg #[.slice a b.rings.length cap, .int .i64 b.flaw, .int .i64 b.tough], .func (.func 72) #[] #[.pointer (some ⟨w2.heap.size + 1 + 1, 0, none⟩)], vk, .agg vs, undef, undef, undef, undef, undef, undef, undef, undef, undef, undef, undef], defers := [] })
    (fun x a' s' X Y row hs hg hr => by
      obtain ⟨Bx, v0, vs, h1, h2, h3, h4⟩ := hs
      exact ⟨Bx, v0, vs, h1, h2, (blk_own (β := Unit) Bx _ (fun _ => vs)) () X Y row h3 hg (fun r e => (hr r e).2), h4⟩)
    ?assign ?body ?done ?stop ?panic
  case stop => exact fun D c W _ h => h.elim
  case panic => exact fun D ch W _ h => h.elim
  case assign =>
    rintro j k x W K hx hWs ⟨hrow, hall, hBel⟩ hK
    obtain ⟨hk, rfl⟩ := encR_ix hx
    clear hx
    generalize b.rings[k] = r at *
    simp only [rgCells] at hK ⊢
    have hsW : W5.heap.size ≤ W.heap.size := hWs
    gi_wp2
    exact hK _ _ ((KeepsOthers.alloc _ _).from _) (BelS.of_below ((below_boxS W _).mono hsW)) ⟨hrow.of_block (Below.heap_alloc _ _ _ (by omega)), hall.alloc _, hBel.alloc hBel.size _⟩ ⟨W.heap.size, _, _, hsW, rfl, Blk.new _ _ _, rfl⟩
  case body =>
    rintro j k x a' W hx hWs ⟨hrow, hall, hBel⟩ ⟨Bx, v0, vs, hBx, he, hX, rfl⟩
    obtain ⟨hk, rfl⟩ := encR_ix hx
    simp only [Array.mk.injEq, List.cons.injEq, and_true, Value.agg.injEq] at he
    obtain ⟨rfl, rfl⟩ := he
    have hkt : k < ts.length := by rw [hok.len]; exact hk
    have hkL : k < (strL b ts l).length := by rw [strL_len]; exact hk
    have hLk : (strL b ts l)[k] = strR b.rings[k] ts[k] l := by rw [strL_at, strAt_eq hk hkt]
    obtain ⟨tb, o1, rfl, q1, q2, -, -⟩ := htl k hkt
    have hTW := hT.below hBel hlT
    have hLW := hL.below hBel hlL
    have hth := fun V (hV : Below W.heap.size W V) => stress_any b.rings[k] ts[k] l V (hok.bot.rings k hk) (hok.thick k hkt) hok.load ((hC.mono (ext_of_below hBel)).mono (ext_of_below hV))
    have hstep := fun V (h : SpUpto V w2.heap.size b.rings.length (strL b ts l) k) => h.step hkL
    rw [hLk] at hstep
    have e0 := hall.cell 0 _ rfl
    have s0 := hTW.cell 0 _ rfl
    have t0 := ext_of_below hBel _ _ q1
    have t1 := ext_of_below hBel _ _ q2
    have l0 := hLW.cell 0 _ rfl
    have l1 := hLW.cell 1 _ rfl
    have l2 := hLW.cell 2 _ rfl
    have l3 := hLW.cell 3 _ rfl
    have lX := hX.lt
    have lA := hall.lt
    have i1 : (0 : Int) ≤ (k : Int) := Int.natCast_nonneg _
    have i2 : (k : Int) < (b.rings.length : Int) := by omega
    have i3 : (k : Int) < (ts.length : Int) := by omega
    have hxs : ∀ j, j < 10 → ∀ V, Below W.heap.size W V → V.cell? ⟨Bx, j, none⟩ = (rgCells b.rings[k])[j]? := fun j hj V hV => by
      have hj' : j < (rgCells b.rings[k]).length := hj
      rw [List.getElem?_eq_getElem hj']
      exact ext_of_below hV _ _ (hX.cell j _ (by simp [List.getElem?_eq_getElem hj']))
    have HK := Lib.hid hk
    clear hx hLk hX hkL q1 q2
    generalize b.rings[k] = r at *
    generalize ts[k] = t at *
    generalize strR r t l = T at *
    have hsv : ∀ V, Below W.heap.size W V → (fun w' : World => w'.cell? ⟨w2.heap.size + 1, 0, none⟩ = some (.slice (some ⟨w2.heap.size, 0, none⟩) b.rings.length b.rings.length) ∧ w'.cell? ⟨Bx, 0, none⟩ = some (.int .i64 r.radius.lo) ∧ w'.cell? ⟨Bx, 1, none⟩ = some (.int .i64 r.radius.hi) ∧ w'.cell? ⟨Bx, 2, none⟩ = some (.int .i64 r.height.lo) ∧ w'.cell? ⟨Bx, 3, none⟩ = some (.int .i64 r.height.hi) ∧ w'.cell? ⟨Bx, 4, none⟩ = some (.int .i64 r.share.lo) ∧ w'.cell? ⟨Bx, 5, none⟩ = some (.int .i64 r.share.hi) ∧ w'.cell? ⟨Bx, 6, none⟩ = some (.int .i64 r.factor.lo) ∧ w'.cell? ⟨Bx, 7, none⟩ = some (.int .i64 r.factor.hi) ∧ w'.cell? ⟨Bx, 8, none⟩ = some (.int .i64 r.hit.lo) ∧ w'.cell? ⟨Bx, 9, none⟩ = some (.int .i64 r.hit.hi) ∧ w'.cell? ⟨p1, 0, none⟩ = some (.slice (some ⟨tb, o1, none⟩) ts.length tc) ∧ w'.cell? ⟨tb, o1 + k * 2, none⟩ = some (.int .i64 t.lo) ∧ w'.cell? ⟨tb, o1 + k * 2 + 1, none⟩ = some (.int .i64 t.hi) ∧ w'.cell? ⟨p2, 0, none⟩ = some (.int .i64 l.press) ∧ w'.cell? ⟨p2, 1, none⟩ = some (.int .i64 l.force) ∧ w'.cell? ⟨p2, 2, none⟩ = some (.int .i64 l.speed) ∧ w'.cell? ⟨p2, 3, none⟩ = some (.int .i64 l.other)) V := fun V hV => ⟨ext_of_below hV _ _ e0, hxs 0 (by omega) V hV, hxs 1 (by omega) V hV, hxs 2 (by omega) V hV, hxs 3 (by omega) V hV, hxs 4 (by omega) V hV, hxs 5 (by omega) V hV, hxs 6 (by omega) V hV, hxs 7 (by omega) V hV, hxs 8 (by omega) V hV, hxs 9 (by omega) V hV, ext_of_below hV _ _ s0, ext_of_below hV _ _ t0, ext_of_below hV _ _ t1, ext_of_below hV _ _ l0, ext_of_below hV _ _ l1, ext_of_below hV _ _ l2, ext_of_below hV _ _ l3⟩
    simp only [rgCells] at hth
    have D0 : Below W.heap.size W W.drew := (Below.refl _ _).drew
    have HR := Lib.hid hrow
    have HSV := Lib.hid hsv
    clear hxs hTW hLW hk hrow hsv e0 s0 t0 t1 l0 l1 l2 l3
    gi_wp2_with fail
    refine wpIn_region_till (fun w' : World => w'.cell? ⟨w2.heap.size + 1, 0, none⟩ = some (.slice (some ⟨w2.heap.size, 0, none⟩) b.rings.length b.rings.length) ∧ w'.cell? ⟨Bx, 0, none⟩ = some (.int .i64 r.radius.lo) ∧ w'.cell? ⟨Bx, 1, none⟩ = some (.int .i64 r.radius.hi) ∧ w'.cell? ⟨Bx, 2, none⟩ = some (.int .i64 r.height.lo) ∧ w'.cell? ⟨Bx, 3, none⟩ = some (.int .i64 r.height.hi) ∧ w'.cell? ⟨Bx, 4, none⟩ = some (.int .i64 r.share.lo) ∧ w'.cell? ⟨Bx, 5, none⟩ = some (.int .i64 r.share.hi) ∧ w'.cell? ⟨Bx, 6, none⟩ = some (.int .i64 r.factor.lo) ∧ w'.cell? ⟨Bx, 7, none⟩ = some (.int .i64 r.factor.hi) ∧ w'.cell? ⟨Bx, 8, none⟩ = some (.int .i64 r.hit.lo) ∧ w'.cell? ⟨Bx, 9, none⟩ = some (.int .i64 r.hit.hi) ∧ w'.cell? ⟨p1, 0, none⟩ = some (.slice (some ⟨tb, o1, none⟩) ts.length tc) ∧ w'.cell? ⟨tb, o1 + k * 2, none⟩ = some (.int .i64 t.lo) ∧ w'.cell? ⟨tb, o1 + k * 2 + 1, none⟩ = some (.int .i64 t.hi) ∧ w'.cell? ⟨p2, 0, none⟩ = some (.int .i64 l.press) ∧ w'.cell? ⟨p2, 1, none⟩ = some (.int .i64 l.force) ∧ w'.cell? ⟨p2, 2, none⟩ = some (.int .i64 l.speed) ∧ w'.cell? ⟨p2, 3, none⟩ = some (.int .i64 l.other)) 10 (by kernel_rfl) (by kernel_rfl) (fun ⟨_, _, h⟩ => h) (HSV.out _ D0) (fun hHeld => ?_)
    refine Till.take 0 (some 19) (v := ?_) rfl rfl (by kernel_rfl) (by kernel_rfl) (by kernel_rfl) (by kernel_rfl) (fun _ _ _ h => h) (Or.inl ⟨by rfl, ?_⟩) (by assumption) ?_
    rotate_left
    · (intro w hSw; (try dsimp only at hSw); go_simp; try with_reducible rfl)
    try simp only [Act.put, List.setIfInBounds_toArray, List.set_cons_zero, List.set_cons_succ]
    refine Till.take 1 (some 20) (v := ?_) rfl rfl (by kernel_rfl) (by kernel_rfl) (by kernel_rfl) (by kernel_rfl) (fun _ _ _ h => h) (Or.inl ⟨by rfl, ?_⟩) (by assumption) ?_
    rotate_left
    · (intro w hSw; (try dsimp only at hSw); go_simp; try with_reducible rfl)
    try simp only [Act.put, List.setIfInBounds_toArray, List.set_cons_zero, List.set_cons_succ]
    refine Till.take 2 (some 21) (v := ?_) rfl rfl (by kernel_rfl) (by kernel_rfl) (by kernel_rfl) (by kernel_rfl) (fun _ _ _ h => h) (Or.inl ⟨by rfl, ?_⟩) (by assumption) ?_
    rotate_left
    · (intro w hSw; (try dsimp only at hSw); go_simp; try with_reducible rfl)
    try simp only [Act.put, List.setIfInBounds_toArray, List.set_cons_zero, List.set_cons_succ]
    refine Till.take 3 (some 22) (v := ?_) rfl rfl (by kernel_rfl) (by kernel_rfl) (by kernel_rfl) (by kernel_rfl) (fun _ _ _ h => h) (Or.inl ⟨by rfl, ?_⟩) (by assumption) ?_
    rotate_left
    · (intro w hSw; (try dsimp only at hSw); go_simp; try with_reducible rfl)
    try simp only [Act.put, List.setIfInBounds_toArray, List.set_cons_zero, List.set_cons_succ]
    refine Till.take 4 (some 23) (v := ?_) rfl rfl (by kernel_rfl) (by kernel_rfl) (by kernel_rfl) (by kernel_rfl) (fun _ _ _ h => h) (Or.inl ⟨by rfl, ?_⟩) (by assumption) ?_
    rotate_left
    · (intro w hSw; (try dsimp only at hSw); go_simp; try with_reducible rfl)
    try simp only [Act.put, List.setIfInBounds_toArray, List.set_cons_zero, List.set_cons_succ]
    refine Till.take 5 (some 24) (v := ?_) rfl rfl (by kernel_rfl) (by kernel_rfl) (by kernel_rfl) (by kernel_rfl) (fun _ _ _ h => h) (Or.inl ⟨by rfl, ?_⟩) (by assumption) ?_
    rotate_left
    · (intro w hSw; (try dsimp only at hSw); go_simp; try with_reducible rfl)
    try simp only [Act.put, List.setIfInBounds_toArray, List.set_cons_zero, List.set_cons_succ]
    refine Till.take 6 (some 25) (v := ?_) rfl rfl (by kernel_rfl) (by kernel_rfl) (by kernel_rfl) (by kernel_rfl) (fun _ _ _ h => h) (Or.inl ⟨by rfl, ?_⟩) (by assumption) ?_
    rotate_left
    · (intro w hSw; (try dsimp only at hSw); go_simp; try with_reducible rfl)
    try simp only [Act.put, List.setIfInBounds_toArray, List.set_cons_zero, List.set_cons_succ]
    refine Till.take 7 (some 26) (v := ?_) rfl rfl (by kernel_rfl) (by kernel_rfl) (by kernel_rfl) (by kernel_rfl) (fun _ _ _ h => h) (Or.inl ⟨by rfl, ?_⟩) (by assumption) ?_
    rotate_left
    · (intro w hSw; (try dsimp only at hSw); go_simp; try with_reducible rfl)
    try simp only [Act.put, List.setIfInBounds_toArray, List.set_cons_zero, List.set_cons_succ]
    refine Till.one 8 rfl (by kernel_rfl) (fun K hK => ?_)
    go_simp
    go_at_call 25
    refine (hth _ D0).mono ?_
    rintro e8 w8 ⟨rfl, hb8⟩
    have D1 := D0.trans (hb8.mono D0.size)
    have hh := HSV.out _ D1
    refine hK.out _ _ (fun _ => hh) (fun hHeld2 => ?_)
    clear hK K hth hb8
    try simp only [Act.put, List.setIfInBounds_toArray, List.set_cons_zero, List.set_cons_succ]
    refine Till.take 9 (some 28) (v := ?_) rfl rfl (by kernel_rfl) (by kernel_rfl) (by kernel_rfl) (by kernel_rfl) (fun _ _ _ h => h) (Or.inl ⟨by rfl, ?_⟩) (by assumption) ?_
    rotate_left
    · (intro w hSw; (try dsimp only at hSw); go_simp; try with_reducible rfl)
    try simp only [Act.put, List.setIfInBounds_toArray, List.set_cons_zero, List.set_cons_succ]
    have lG := (Array.getElem?_eq_some_iff.1 (show W.heap[w2.heap.size]? = _ from HR.out.choose_spec.1.choose_spec.1)).1
    have hr8 : SpUpto w8 w2.heap.size b.rings.length (strL b ts l) k := HR.out.of_block (D1.block _ lG)
    have hs8 := hstep _ hr8
    obtain ⟨f, hf, -⟩ := hr8
    have HKo := HK.out
    have z0 := hf.cell (i := k * 2) (by omega)
    have z1 := hf.cell (i := k * 2 + 1) (by omega)
    have f0 := hf.frozen (k * 2)
    have f1 := hf.frozen (k * 2 + 1)
    have hB8 := hBel.trans (D1.mono hBel.size)
    have hwB : w.heap.size ≤ w2.heap.size := hb1.size
    have HS := Lib.hid hs8
    have HAF : Hid (Blk ((w8.setCell ⟨w2.heap.size, k * 2, none⟩ (.int .i64 T.lo)).setCell ⟨w2.heap.size, k * 2 + 1, none⟩ (.int .i64 T.hi)) (w2.heap.size + 1) #[.slice (some ⟨w2.heap.size, 0, none⟩) b.rings.length b.rings.length] 28) := Lib.hid (((hall.below D1 lA).other _ _ (by simp)).other _ _ (by simp))
    have HBF := Lib.hid ((hB8.setCell (p := ⟨w2.heap.size, k * 2, none⟩) hwB (.int .i64 T.lo)).setCell (p := ⟨w2.heap.size, k * 2 + 1, none⟩) hwB (.int .i64 T.hi))
    have HKF : Hid (KeepsFrom W5.heap.size W ((w8.setCell ⟨w2.heap.size, k * 2, none⟩ (.int .i64 T.lo)).setCell ⟨w2.heap.size, k * 2 + 1, none⟩ (.int .i64 T.hi))) :=
      Lib.hid ((keeps_below D1 (Nat.le_refl _)).trans (((KeepsOthers.setCell _ _ _).trans (KeepsOthers.setCell _ _ _)).from _))
    have HBS : Hid (BelS (fun k => k = w2.heap.size) W5.heap.size W ((w8.setCell ⟨w2.heap.size, k * 2, none⟩ (.int .i64 T.lo)).setCell ⟨w2.heap.size, k * 2 + 1, none⟩ (.int .i64 T.hi))) :=
      Lib.hid (BelS.set (S := fun k => k = w2.heap.size) (BelS.set (S := fun k => k = w2.heap.size) (BelS.of_below (D1.mono hWs)) ⟨w2.heap.size, k * 2, none⟩ _ (.inr rfl)) ⟨w2.heap.size, k * 2 + 1, none⟩ _ (.inr rfl))
    clear hh hHeld hHeld2 D0 D1 HSV hall hBel hB8 hs8 hstep hf hC hrr hB1 c0 c1 c2 hB hT hL HR hr5 hA5 hrow hit hb5 hb1 htl
    refine Till.one 10 rfl (by kernel_rfl) (fun K hK => ?_)
    go_simp
    refine hK.out _ _ (fun h => absurd rfl h) (fun _ => ?_)
    clear hK K
    refine Till.done (by kernel_rfl) ?_ _
    gi_wp2
    exact ⟨HKF.out, HBS.out, HS.out, HAF.out, HBF.out⟩
  case done =>
    rintro D W hD ⟨hrow, hall, hBel⟩ hKD
    rw [encR_len] at hrow
    have hlen := strL_len b ts l
    have hPD : Below w.heap.size w (W.putObj D (.deferred none)) := hBel.trans (belowK_b (w := w) (Nat.le_refl _) W D _ _ (by omega) hKD rfl rfl)
    have hrP : SpUpto (W.putObj D (.deferred none)) w2.heap.size b.rings.length (strL b ts l) b.rings.length := hrow.of_block (World.putObj_heap_other (by omega))
    have hrd : RSps (vis (w.heap.size ≤ ·) (W.putObj D (.deferred none))) (.slice (some ⟨w2.heap.size, 0, none⟩) b.rings.length b.rings.length) (strL b ts l) :=
      SpUpto.reads (by rw [hlen]; exact hrP) hlen hwz (by omega) (strL_I HC.out)
    have e0 := hall.cell 0 _ rfl
    have HP := Lib.hid hPD
    have HR := Lib.hid hrd
    clear hPD hrd hrP hrow hall hBel hlen htl
    gi_wp2
    refine ⟨by simp, .inl ⟨_, _, rfl, run_takeDeferred hKD, ?_⟩⟩
    refine ⟨_, results_tmp rfl _ _ _, HP.out, .inl ⟨_, rfl, ?_⟩⟩
    exact ⟨HC.out, HR.out⟩

end Go.Proofs.YtaldpalhckdcdaaGreatDoor
