/- A bottle's wall: whether it surely holds, whether it surely breaks; no statement is proved here. -/
import Derived.Test.YtaldpalhckdcdaaGreatDoorStress
import Derived.Test.YtaldpalhckdcdaaGreatDoorFst
import Derived.Test.YtaldpalhckdcdaaGreatDoorRingIt
namespace Go.Proofs.YtaldpalhckdcdaaGreatDoor
open Go.RowKit Go.PlainAid
set_option linter.unusedVariables false
attribute [local go_sem] Oper.semAt_some
def strAt (b : Bot) (ts : List Sp) (l : Ld) (i : Nat) : Sp := strR (b.rings.getD i ⟨⟨0, 0⟩, ⟨0, 0⟩, ⟨0, 0⟩, ⟨0, 0⟩, ⟨0, 0⟩⟩) (ts.getD i ⟨0, 0⟩) l
theorem strAt_eq {b : Bot} {ts : List Sp} {l : Ld} {i : Nat} (h : i < b.rings.length) (h2 : i < ts.length) : strAt b ts l i = strR b.rings[i] ts[i] l := by
  simp [strAt, List.getD, List.getElem?_eq_getElem h, List.getElem?_eq_getElem h2]
def HoldsW (b : Bot) (ts : List Sp) (l : Ld) (m : Int) : Prop := ∀ i, i < b.rings.length → (strAt b ts l i).hi ≤ m
def BreaksW (b : Bot) (ts : List Sp) (l : Ld) (m : Int) : Prop := ∃ i, i < b.rings.length ∧ m < (strAt b ts l i).lo

set_option maxHeartbeats 1000000 in
set_option maxRecDepth 100000 in
theorem newWall_any (a ta : Option Addr) (cap tc tn : Nat) (b : Bot) (w : World) (h : RBot w (.agg #[.slice a b.rings.length cap, .int .i64 b.flaw, .int .i64 b.tough]) b) (hf : 1 ≤ b.flaw ∧ b.flaw ≤ 1000) (ht : 0 ≤ b.tough ∧ b.tough ≤ 1000000000000000) :
    Calls Tryz.prog 28 #[.agg #[.slice a b.rings.length cap, .int .i64 b.flaw, .int .i64 b.tough], .slice ta tn tc] w fun e w' => ∃ m, e = .returned (.agg #[.slice a b.rings.length cap, .int .i64 b.flaw, .int .i64 b.tough, .slice ta tn tc, .int .i64 m]) ∧ IsRoot (b.tough / b.flaw) m ∧ m ≤ 1000000000000000 ∧ Below w.heap.size w w' := by
  have hA : Below w.heap.size w ((w.alloc (.cells #[.slice a b.rings.length cap, .int .i64 b.flaw, .int .i64 b.tough] 24)).alloc (.cells #[.slice none 0 0, .int .i64 0, .int .i64 0, .slice none 0 0, .int .i64 0] 79)) := (below_boxS w _).alloc (by simp) _
  have hB := (Blk.new w #[.slice a b.rings.length cap, .int .i64 b.flaw, .int .i64 b.tough] 24).alloc (.cells #[.slice none 0 0, .int .i64 0, .int .i64 0, .slice none 0 0, .int .i64 0] 79)
  have hW := Blk.new (w.alloc (.cells #[.slice a b.rings.length cap, .int .i64 b.flaw, .int .i64 b.tough] 24)) #[.slice none 0 0, .int .i64 0, .int .i64 0, .slice none 0 0, .int .i64 0] 79
  rw [World.size_alloc] at hW
  go_enter Tryz.func28, Tryz.ntmps28
  go_wp2_with fail
  generalize (w.alloc (.cells #[.slice a b.rings.length cap, .int .i64 b.flaw, .int .i64 b.tough] 24)).alloc (.cells #[.slice none 0 0, .int .i64 0, .int .i64 0, .slice none 0 0, .int .i64 0] 79) = W0 at *
  have c0 := hB.cell 0 _ rfl
  have c1 := hB.cell 1 _ rfl
  have c2 := hB.cell 2 _ rfl
  have hbe := fun V (e : Ext w V) => bears_any _ b V (h.mono e) hf ht
  have D0 : Below W0.heap.size W0 W0.drew := (Below.refl _ _).drew
  have lW := hW.lt
  refine wp_region_till (fun w' : World => w'.cell? ⟨w.heap.size, 0, none⟩ = some (.slice a b.rings.length cap) ∧ w'.cell? ⟨w.heap.size, 1, none⟩ = some (.int .i64 b.flaw) ∧ w'.cell? ⟨w.heap.size, 2, none⟩ = some (.int .i64 b.tough)) 5 (by kernel_rfl) ⟨c0, c1, c2⟩ (fun hHeld => ?_)
  refine Till.take 0 (some 5) (v := ?_) rfl rfl (by kernel_rfl) (by kernel_rfl) (by kernel_rfl) (by kernel_rfl) (fun _ _ _ h => h) (Or.inl ⟨by rfl, ?_⟩) (by assumption) ?_
  rotate_left
  · (intro w hSw; (try dsimp only at hSw); go_simp; try with_reducible rfl)
  try simp only [Act.put, List.setIfInBounds_toArray, List.set_cons_zero, List.set_cons_succ]
  refine Till.take 1 (some 6) (v := ?_) rfl rfl (by kernel_rfl) (by kernel_rfl) (by kernel_rfl) (by kernel_rfl) (fun _ _ _ h => h) (Or.inl ⟨by rfl, ?_⟩) (by assumption) ?_
  rotate_left
  · (intro w hSw; (try dsimp only at hSw); go_simp; try with_reducible rfl)
  try simp only [Act.put, List.setIfInBounds_toArray, List.set_cons_zero, List.set_cons_succ]
  refine Till.take 2 (some 7) (v := ?_) rfl rfl (by kernel_rfl) (by kernel_rfl) (by kernel_rfl) (by kernel_rfl) (fun _ _ _ h => h) (Or.inl ⟨by rfl, ?_⟩) (by assumption) ?_
  rotate_left
  · (intro w hSw; (try dsimp only at hSw); go_simp; try with_reducible rfl)
  try simp only [Act.put, List.setIfInBounds_toArray, List.set_cons_zero, List.set_cons_succ]
  refine Till.one 3 rfl (by kernel_rfl) (fun K hK => ?_)
  go_simp
  go_at_call 78
  refine (hbe _ (ext_of_below (hA.trans (D0.mono hA.size)))).mono ?_
  rintro e w1 ⟨m, rfl, hm, hmb, hb1⟩
  have D1 := D0.trans (hb1.mono D0.size)
  refine hK.out _ _ (fun _ => ⟨ext_of_below D1 _ _ c0, ext_of_below D1 _ _ c1, ext_of_below D1 _ _ c2⟩) (fun hHeld2 => ?_)
  clear hK K hbe hb1
  try simp only [Act.put, List.setIfInBounds_toArray, List.set_cons_zero, List.set_cons_succ]
  have hh : w1.cell? ⟨w.heap.size, 0, none⟩ = some (.slice a b.rings.length cap) ∧ w1.cell? ⟨w.heap.size, 1, none⟩ = some (.int .i64 b.flaw) ∧ w1.cell? ⟨w.heap.size, 2, none⟩ = some (.int .i64 b.tough) := ⟨ext_of_below D1 _ _ c0, ext_of_below D1 _ _ c1, ext_of_below D1 _ _ c2⟩
  refine Till.take 4 (some 9) (v := ?_) rfl rfl (by kernel_rfl) (by kernel_rfl) (by kernel_rfl) (by kernel_rfl) (fun _ _ _ h => h) (Or.inl ⟨by rfl, ?_⟩) (by assumption) ?_
  rotate_left
  · (intro w hSw; (try dsimp only at hSw); go_simp; try with_reducible rfl)
  try simp only [Act.put, List.setIfInBounds_toArray, List.set_cons_zero, List.set_cons_succ]
  have hW1 := hW.below D1 lW
  have z0 := hW1.cell 0 _ rfl
  have z1 := hW1.cell 1 _ rfl
  have z2 := hW1.cell 2 _ rfl
  have z3 := hW1.cell 3 _ rfl
  have z4 := hW1.cell 4 _ rfl
  have f0 := hW1.frozen 0
  have f1 := hW1.frozen 1
  have f2 := hW1.frozen 2
  have f3 := hW1.frozen 3
  have f4 := hW1.frozen 4
  have hAF := hA.trans (D1.mono hA.size)
  have HB := Lib.hid (((((hAF.setCell (p := ⟨w.heap.size + 1, 0, none⟩) (by simp) (.slice a b.rings.length cap)).setCell (p := ⟨w.heap.size + 1, 1, none⟩) (by simp) (.int .i64 b.flaw)).setCell (p := ⟨w.heap.size + 1, 2, none⟩) (by simp) (.int .i64 b.tough)).setCell (p := ⟨w.heap.size + 1, 3, none⟩) (by simp) (.slice ta tn tc)).setCell (p := ⟨w.heap.size + 1, 4, none⟩) (by simp) (.int .i64 m))
  have HF := Lib.hid (((((hW1.set 0 (.slice a b.rings.length cap)).set 1 (.int .i64 b.flaw)).set 2 (.int .i64 b.tough)).set 3 (.slice ta tn tc)).set 4 (.int .i64 m))
  have HM := Lib.hid hm
  clear hh hHeld hHeld2 D0 D1 hB hW hW1 hA hAF c0 c1 c2 hm h
  refine Till.one 5 rfl (by kernel_rfl) (fun K hK => ?_)
  go_simp
  refine hK.out _ _ (fun h => absurd rfl h) (fun _ => ?_)
  clear hK K
  refine Till.done (by kernel_rfl) ?_ _
  go_wp2
  have r0 := HF.out.cell 0 (.slice a b.rings.length cap) (by simp)
  have r1 := HF.out.cell 1 (.int .i64 b.flaw) (by simp)
  have r2 := HF.out.cell 2 (.int .i64 b.tough) (by simp)
  have r3 := HF.out.cell 3 (.slice ta tn tc) (by simp)
  have r4 := HF.out.cell 4 (.int .i64 m) (by simp)
  refine ⟨rfl, .agg #[.slice a b.rings.length cap, .int .i64 b.flaw, .int .i64 b.tough, .slice ta tn tc, .int .i64 m], ?_, m, rfl, HM.out, hmb, HB.out⟩
  simp [results, Tryz.results28, go_sem, r0, r1, r2, r3, r4]

theorem field_lo5 (x y : Value) (w : World) : Sem.run Tryz.prog (Instr.field 27 (.agg #[x, y]) 0) w = .ok x w := by kernel_rfl
theorem field_hi5 (x y : Value) (w : World) : Sem.run Tryz.prog (Instr.field 27 (.agg #[x, y]) 1) w = .ok y w := by kernel_rfl

set_option maxHeartbeats 4000000 in
set_option maxRecDepth 100000 in
theorem holds_any (a ta : Option Addr) (cap tc : Nat) (b : Bot) (ts : List Sp) (l : Ld) (m : Int) (w : World) (h : RBot w (.agg #[.slice a b.rings.length cap, .int .i64 b.flaw, .int .i64 b.tough]) b) (hts : RSps w (.slice ta ts.length tc) ts) (hok : OkS b) (hlen : ts.length = b.rings.length) (hT : ∀ i (h : i < ts.length), OkT ts[i]) (hl : OkL l) (hC : Circ w) :
    Calls Tryz.prog 31 #[.agg #[.slice a b.rings.length cap, .int .i64 b.flaw, .int .i64 b.tough, .slice ta ts.length tc, .int .i64 m], .agg #[.int .i64 l.press, .int .i64 l.force, .int .i64 l.speed, .int .i64 l.other]] w fun e w' => ∃ r, e = .returned (.bool r) ∧ (r = true ↔ HoldsW b ts l m) ∧ Below w.heap.size w w' := by
  have hle1 : ts.length ≤ b.rings.length := by omega
  have hle2 : b.rings.length ≤ ts.length := by omega
  clear hlen
  obtain ⟨v1, he, hr, hI⟩ := h
  cases he
  have hrr := hr
  obtain ⟨_, _, hq, -, -, -⟩ := hr
  cases hq
  obtain ⟨ta', tc', hq, -, ⟨-, htm⟩, htl⟩ := hts
  cases hq
  have hmo := hok.most
  have hA : Below w.heap.size w (((w.alloc (.cells #[.slice a b.rings.length cap, .int .i64 b.flaw, .int .i64 b.tough, .slice ta ts.length tc, .int .i64 m] 79)).alloc (.cells #[.int .i64 l.press, .int .i64 l.force, .int .i64 l.speed, .int .i64 l.other] 33)).alloc (.cells #[.bool false] 4)) := ((below_boxS w _).alloc (by simp) _).alloc (by simp only [World.size_alloc]; omega) _
  have hB := ((Blk.new w #[.slice a b.rings.length cap, .int .i64 b.flaw, .int .i64 b.tough, .slice ta ts.length tc, .int .i64 m] 79).alloc (.cells #[.int .i64 l.press, .int .i64 l.force, .int .i64 l.speed, .int .i64 l.other] 33)).alloc (.cells #[.bool false] 4)
  have hL := (Blk.new (w.alloc (.cells #[.slice a b.rings.length cap, .int .i64 b.flaw, .int .i64 b.tough, .slice ta ts.length tc, .int .i64 m] 79)) #[.int .i64 l.press, .int .i64 l.force, .int .i64 l.speed, .int .i64 l.other] 33).alloc (.cells #[.bool false] 4)
  have hR := Blk.new ((w.alloc (.cells #[.slice a b.rings.length cap, .int .i64 b.flaw, .int .i64 b.tough, .slice ta ts.length tc, .int .i64 m] 79)).alloc (.cells #[.int .i64 l.press, .int .i64 l.force, .int .i64 l.speed, .int .i64 l.other] 33)) #[.bool false] 4
  simp only [World.size_alloc] at hL hR
  refine (callsIn_wide (n := 9)).1 ?_
  refine callsIn_of_wp_marks Tryz.func31 rfl trivial ?_ rfl
  simp only [Tryz.ntmps31, List.size_toArray, List.length_cons, List.length_nil, Nat.reduceAdd, Nat.reduceSub, Array.replicate_succ, Array.replicate_zero, List.push_toArray, List.append_toArray, List.nil_append, List.cons_append]
  have c0 := hB.cell 0 _ rfl
  have c1 := hB.cell 1 _ rfl
  have c2 := hB.cell 2 _ rfl
  gi_wp2_with fail
  refine ⟨trivial, callsIn_wide.2 ?_⟩
  refine (calls_p (rings_in (.slice a b.rings.length cap) b _ 9)).mono ?_
  rintro e w' ⟨rfl, hw'⟩
  obtain rfl := hw'.symm
  clear hw'
  have hA4 : Below w.heap.size w ((((w.alloc (.cells #[.slice a b.rings.length cap, .int .i64 b.flaw, .int .i64 b.tough, .slice ta ts.length tc, .int .i64 m] 79)).alloc (.cells #[.int .i64 l.press, .int .i64 l.force, .int .i64 l.speed, .int .i64 l.other] 33)).alloc (.cells #[.bool false] 4)).alloc (.cells #[.slice a b.rings.length cap, .int .i64 b.flaw, .int .i64 b.tough] 24)) := hA.alloc hA.size _
  have hB4 := hB.alloc (.cells #[.slice a b.rings.length cap, .int .i64 b.flaw, .int .i64 b.tough] 24)
  have hL4 := hL.alloc (.cells #[.slice a b.rings.length cap, .int .i64 b.flaw, .int .i64 b.tough] 24)
  have hR4 := hR.alloc (.cells #[.slice a b.rings.length cap, .int .i64 b.flaw, .int .i64 b.tough] 24)
  have hI4 := Blk.new (((w.alloc (.cells #[.slice a b.rings.length cap, .int .i64 b.flaw, .int .i64 b.tough, .slice ta ts.length tc, .int .i64 m] 79)).alloc (.cells #[.int .i64 l.press, .int .i64 l.force, .int .i64 l.speed, .int .i64 l.other] 33)).alloc (.cells #[.bool false] 4)) #[.slice a b.rings.length cap, .int .i64 b.flaw, .int .i64 b.tough] 24
  have hz : ((((w.alloc (.cells #[.slice a b.rings.length cap, .int .i64 b.flaw, .int .i64 b.tough, .slice ta ts.length tc, .int .i64 m] 79)).alloc (.cells #[.int .i64 l.press, .int .i64 l.force, .int .i64 l.speed, .int .i64 l.other] 33)).alloc (.cells #[.bool false] 4)).alloc (.cells #[.slice a b.rings.length cap, .int .i64 b.flaw, .int .i64 b.tough] 24)).heap.size = w.heap.size + 4 := by simp
  replace hz := And.intro (Nat.le_of_eq hz) (Nat.le_of_eq hz.symm)
  simp only [World.size_alloc] at hI4
  clear c0 c1 c2 hA hB hL hR
  gi_wp2_with fail
  generalize (((w.alloc (.cells #[.slice a b.rings.length cap, .int .i64 b.flaw, .int .i64 b.tough, .slice ta ts.length tc, .int .i64 m] 79)).alloc (.cells #[.int .i64 l.press, .int .i64 l.force, .int .i64 l.speed, .int .i64 l.other] 33)).alloc (.cells #[.bool false] 4)).alloc (.cells #[.slice a b.rings.length cap, .int .i64 b.flaw, .int .i64 b.tough] 24) = W4 at *
  have hr4 : RRgs (vis (fun k => ¬ k = w.heap.size + 1 + 1) W4) (.slice a b.rings.length cap) b.rings := hrr.mono (ext_vis_all (ext_of_below hA4) (fun k hk => by omega))
  refine wpIn_range_p (fun k => k = w.heap.size + 1 + 1) rfl (by simp [Fence.wide]) (gf := 72) (lb := #[.pointer (some ⟨w.heap.size + 1 + 1 + 1, 0, none⟩)]) rfl trivial (enters_of Tryz.func72 (by kernel_rfl) rfl)
    (ringIt_any _ Fence.wide _ trivial rfl rfl _ b _ W4 hr4 (by omega) hI4) (fun k x hx => by obtain ⟨_, rfl⟩ := encR_ix hx; rfl)
    (fun k W => Hid (∀ i, i < k → (strAt b ts l i).hi ≤ m) ∧ Blk W (w.heap.size + 1 + 1) #[.bool false] 4 ∧ BelS (fun k => k = w.heap.size + 1 + 1) W4.heap.size W4 W ∧ Below w.heap.size w W)
    (fun c W => c = .ret ∧ Hid (¬ HoldsW b ts l m) ∧ Blk W (w.heap.size + 1 + 1) #[.bool false] 4 ∧ Below w.heap.size w W) (fun _ _ => False)
    (OwnFrom.and (ownFrom_pure _ _) (OwnFrom.and (Own.from (blk_own _ _ _) _) (OwnFrom.and (ownFrom_bel (Nat.le_refl _) (Nat.le_refl _)) (ownFrom_below (Nat.le_refl _) (by omega)))))
    (fun c => OwnFrom.and (ownFrom_pure _ _) (OwnFrom.and (ownFrom_pure _ _) (OwnFrom.and (Own.from (blk_own _ _ _) _) (ownFrom_below (Nat.le_refl _) (by omega)))))
    (fun _ _ _ _ h => h.elim) ⟨fun i h => absurd h (by omega), hR4, BelS.refl _ _ _, hA4⟩
    (fun x a' W => ∃ Bx vk vs, W4.heap.size ≤ Bx ∧ x = #[vk, .agg vs] ∧ Blk W Bx vs 63 ∧ a' = { tmps := #[.agg #[.slice a b.rings.length cap, .int .i64 b.flaw, .int .i64 b.tough, .slice ta ts.length tc, .int .i64 m], .agg #[.int .i64 l.press, .int .i64 l.force, .int .i64 l.speed, .int .i64 l.other], .pointer (some ⟨w.heap.size, 0, none⟩), .pointer (some ⟨w.heap.size + 1, 0, none⟩), .pointer (some ⟨w.heap.size + 1 + 1, 0, none⟩), vk, .pointer (some ⟨Bx, 0, none⟩), .pointer (some ⟨w.heap.size, 0, none⟩), .agg #[.slice a b.rings.length cap, .int .i64 b.flaw, .int .i64 b.tough], .func (.func 72) #[] #[.pointer (some ⟨w.heap.size + 1 + 1 + 1, 0, none⟩)], vk, .agg vs, undef, undef, undef, undef, undef, undef, undef, undef, undef, undef, undef, undef], defers := [] })
    (fun x a' s' X Y row hs hg hr => by
      obtain ⟨Bx, v0, vs, h1, h2, h3, h4⟩ := hs
      exact ⟨Bx, v0, vs, h1, h2, (blk_own (β := Unit) Bx _ (fun _ => vs)) () X Y row h3 hg (fun r e => (hr r e).2), h4⟩)
    ?assign ?body ?done ?stop ?panic
  case panic => exact fun D ch W _ h => h.elim
  case assign =>
    rintro j k x W K hx hWs ⟨hall, hRk, hBS, hBel⟩ hK
    obtain ⟨hk, rfl⟩ := encR_ix hx
    clear hx
    generalize b.rings[k] = r at *
    simp only [rgCells] at hK ⊢
    have hsW : W4.heap.size ≤ W.heap.size := hWs
    gi_wp2
    exact hK _ _ ((KeepsOthers.alloc _ _).from _) (BelS.of_below ((below_boxS W _).mono hsW)) ⟨hall, hRk.alloc _, hBS.trans (BelS.of_below ((below_boxS W _).mono hsW)), hBel.alloc hBel.size _⟩ ⟨W.heap.size, _, _, hsW, rfl, Blk.new _ _ _, rfl⟩
  case body =>
    rintro j k x a' W hx hWs ⟨hall, hRk, hBS, hBel⟩ ⟨Bx, v0, vs, hBx, he, hX, rfl⟩
    obtain ⟨hk, rfl⟩ := encR_ix hx
    simp only [Array.mk.injEq, List.cons.injEq, and_true, Value.agg.injEq] at he
    obtain ⟨rfl, rfl⟩ := he
    have hkt : k < ts.length := by omega
    have hst := strAt_eq (l := l) hk hkt
    obtain ⟨tb, to, rfl, q1, q2, -, -⟩ := htl k hkt
    have hs5 := fun V (hV : Below W.heap.size W V) => stress_any b.rings[k] ts[k] l V (hok.rings k hk) (hT k hkt) hl (hC.mono (ext_of_below (hBel.trans (hV.mono hBel.size))))
    have hWb := hBS.blk hB4 (by omega) (by omega)
    have hLb := hBS.blk hL4 (by omega) (by omega)
    have hxs : ∀ j, j < 10 → ∀ V, Below W.heap.size W V → V.cell? ⟨Bx, j, none⟩ = (rgCells b.rings[k])[j]? := fun j hj V hV => by
      have hj' : j < (rgCells b.rings[k]).length := hj
      rw [List.getElem?_eq_getElem hj']
      exact ext_of_below hV _ _ (hX.cell j _ (by simp [List.getElem?_eq_getElem hj']))
    have lX := hX.lt
    have lR := hRk.lt
    clear hx hX
    generalize b.rings[k] = r at *
    generalize ts[k] = t at *
    simp only at q1 q2
    have i1 : (0 : Int) ≤ (k : Int) := Int.natCast_nonneg _
    have i2 : (k : Int) < (ts.length : Int) := by omega
    have t0 := ext_of_below hBel _ _ q1
    have t1 := ext_of_below hBel _ _ q2
    have e3 := hWb.cell 3 _ rfl
    have e4 := hWb.cell 4 _ rfl
    have l0 := hLb.cell 0 _ rfl
    have l1 := hLb.cell 1 _ rfl
    have l2 := hLb.cell 2 _ rfl
    have l3 := hLb.cell 3 _ rfl
    have HSV : Hid (∀ V, Below W.heap.size W V → (fun w' : World => w'.cell? ⟨Bx, 0, none⟩ = some (.int .i64 r.radius.lo) ∧ w'.cell? ⟨Bx, 1, none⟩ = some (.int .i64 r.radius.hi) ∧ w'.cell? ⟨Bx, 2, none⟩ = some (.int .i64 r.height.lo) ∧ w'.cell? ⟨Bx, 3, none⟩ = some (.int .i64 r.height.hi) ∧ w'.cell? ⟨Bx, 4, none⟩ = some (.int .i64 r.share.lo) ∧ w'.cell? ⟨Bx, 5, none⟩ = some (.int .i64 r.share.hi) ∧ w'.cell? ⟨Bx, 6, none⟩ = some (.int .i64 r.factor.lo) ∧ w'.cell? ⟨Bx, 7, none⟩ = some (.int .i64 r.factor.hi) ∧ w'.cell? ⟨Bx, 8, none⟩ = some (.int .i64 r.hit.lo) ∧ w'.cell? ⟨Bx, 9, none⟩ = some (.int .i64 r.hit.hi) ∧ w'.cell? ⟨w.heap.size, 3, none⟩ = some (.slice (some ⟨tb, to, none⟩) ts.length tc) ∧ w'.cell? ⟨w.heap.size, 4, none⟩ = some (.int .i64 m) ∧ w'.cell? ⟨w.heap.size + 1, 0, none⟩ = some (.int .i64 l.press) ∧ w'.cell? ⟨w.heap.size + 1, 1, none⟩ = some (.int .i64 l.force) ∧ w'.cell? ⟨w.heap.size + 1, 2, none⟩ = some (.int .i64 l.speed) ∧ w'.cell? ⟨w.heap.size + 1, 3, none⟩ = some (.int .i64 l.other) ∧ w'.cell? ⟨tb, to + k * 2, none⟩ = some (.int .i64 t.lo) ∧ w'.cell? ⟨tb, to + k * 2 + 1, none⟩ = some (.int .i64 t.hi)) V) := Lib.hid (fun V hV => ⟨hxs 0 (by omega) V hV, hxs 1 (by omega) V hV, hxs 2 (by omega) V hV, hxs 3 (by omega) V hV, hxs 4 (by omega) V hV, hxs 5 (by omega) V hV, hxs 6 (by omega) V hV, hxs 7 (by omega) V hV, hxs 8 (by omega) V hV, hxs 9 (by omega) V hV, ext_of_below hV _ _ e3, ext_of_below hV _ _ e4, ext_of_below hV _ _ l0, ext_of_below hV _ _ l1, ext_of_below hV _ _ l2, ext_of_below hV _ _ l3, ext_of_below hV _ _ t0, ext_of_below hV _ _ t1⟩)
    have D0 : Below W.heap.size W W.drew := (Below.refl _ _).drew
    have HST := Lib.hid hst
    have HK := Lib.hid hk
    clear hxs hst hk hWb hLb q1 q2
    generalize strR r t l = T at *
    simp only [rgCells] at hs5
    clear e3 e4 l0 l1 l2 l3 t0 t1
    gi_wp2_with fail
    refine wpIn_region_till (fun w' : World => w'.cell? ⟨Bx, 0, none⟩ = some (.int .i64 r.radius.lo) ∧ w'.cell? ⟨Bx, 1, none⟩ = some (.int .i64 r.radius.hi) ∧ w'.cell? ⟨Bx, 2, none⟩ = some (.int .i64 r.height.lo) ∧ w'.cell? ⟨Bx, 3, none⟩ = some (.int .i64 r.height.hi) ∧ w'.cell? ⟨Bx, 4, none⟩ = some (.int .i64 r.share.lo) ∧ w'.cell? ⟨Bx, 5, none⟩ = some (.int .i64 r.share.hi) ∧ w'.cell? ⟨Bx, 6, none⟩ = some (.int .i64 r.factor.lo) ∧ w'.cell? ⟨Bx, 7, none⟩ = some (.int .i64 r.factor.hi) ∧ w'.cell? ⟨Bx, 8, none⟩ = some (.int .i64 r.hit.lo) ∧ w'.cell? ⟨Bx, 9, none⟩ = some (.int .i64 r.hit.hi) ∧ w'.cell? ⟨w.heap.size, 3, none⟩ = some (.slice (some ⟨tb, to, none⟩) ts.length tc) ∧ w'.cell? ⟨w.heap.size, 4, none⟩ = some (.int .i64 m) ∧ w'.cell? ⟨w.heap.size + 1, 0, none⟩ = some (.int .i64 l.press) ∧ w'.cell? ⟨w.heap.size + 1, 1, none⟩ = some (.int .i64 l.force) ∧ w'.cell? ⟨w.heap.size + 1, 2, none⟩ = some (.int .i64 l.speed) ∧ w'.cell? ⟨w.heap.size + 1, 3, none⟩ = some (.int .i64 l.other) ∧ w'.cell? ⟨tb, to + k * 2, none⟩ = some (.int .i64 t.lo) ∧ w'.cell? ⟨tb, to + k * 2 + 1, none⟩ = some (.int .i64 t.hi)) 99 (by kernel_rfl) (by kernel_rfl) (fun ⟨_, _, h⟩ => h) (HSV.out _ D0) (fun hHeld => ?_)
    refine Till.take 0 (some 12) (v := ?_) rfl rfl (by kernel_rfl) (by kernel_rfl) (by kernel_rfl) (by kernel_rfl) (fun _ _ _ h => h) (Or.inl ⟨by rfl, ?_⟩) (by assumption) ?_
    rotate_left
    · (intro w hSw; (try dsimp only at hSw); go_simp; try with_reducible rfl)
    try simp only [Act.put, List.setIfInBounds_toArray, List.set_cons_zero, List.set_cons_succ]
    refine Till.take 1 (some 13) (v := ?_) rfl rfl (by kernel_rfl) (by kernel_rfl) (by kernel_rfl) (by kernel_rfl) (fun _ _ _ h => h) (Or.inl ⟨by rfl, ?_⟩) (by assumption) ?_
    rotate_left
    · (intro w hSw; (try dsimp only at hSw); go_simp; try with_reducible rfl)
    try simp only [Act.put, List.setIfInBounds_toArray, List.set_cons_zero, List.set_cons_succ]
    refine Till.take 2 (some 14) (v := ?_) rfl rfl (by kernel_rfl) (by kernel_rfl) (by kernel_rfl) (by kernel_rfl) (fun _ _ _ h => h) (Or.inl ⟨by rfl, ?_⟩) (by assumption) ?_
    rotate_left
    · (intro w hSw; (try dsimp only at hSw); go_simp; try with_reducible rfl)
    try simp only [Act.put, List.setIfInBounds_toArray, List.set_cons_zero, List.set_cons_succ]
    refine Till.take 3 (some 15) (v := ?_) rfl rfl (by kernel_rfl) (by kernel_rfl) (by kernel_rfl) (by kernel_rfl) (fun _ _ _ h => h) (Or.inl ⟨by rfl, ?_⟩) (by assumption) ?_
    rotate_left
    · (intro w hSw; (try dsimp only at hSw); go_simp; try with_reducible rfl)
    try simp only [Act.put, List.setIfInBounds_toArray, List.set_cons_zero, List.set_cons_succ]
    refine Till.take 4 (some 16) (v := ?_) rfl rfl (by kernel_rfl) (by kernel_rfl) (by kernel_rfl) (by kernel_rfl) (fun _ _ _ h => h) (Or.inl ⟨by rfl, ?_⟩) (by assumption) ?_
    rotate_left
    · (intro w hSw; (try dsimp only at hSw); go_simp; try with_reducible rfl)
    try simp only [Act.put, List.setIfInBounds_toArray, List.set_cons_zero, List.set_cons_succ]
    refine Till.take 5 (some 17) (v := ?_) rfl rfl (by kernel_rfl) (by kernel_rfl) (by kernel_rfl) (by kernel_rfl) (fun _ _ _ h => h) (Or.inl ⟨by rfl, ?_⟩) (by assumption) ?_
    rotate_left
    · (intro w hSw; (try dsimp only at hSw); go_simp; try with_reducible rfl)
    try simp only [Act.put, List.setIfInBounds_toArray, List.set_cons_zero, List.set_cons_succ]
    refine Till.take 6 (some 18) (v := ?_) rfl rfl (by kernel_rfl) (by kernel_rfl) (by kernel_rfl) (by kernel_rfl) (fun _ _ _ h => h) (Or.inl ⟨by rfl, ?_⟩) (by assumption) ?_
    rotate_left
    · (intro w hSw; (try dsimp only at hSw); go_simp; try with_reducible rfl)
    try simp only [Act.put, List.setIfInBounds_toArray, List.set_cons_zero, List.set_cons_succ]
    refine Till.take 9 (some 21) (v := ?_) rfl rfl (by kernel_rfl) (by kernel_rfl) (by kernel_rfl) (by kernel_rfl) (fun _ _ _ h => h) (Or.inl ⟨by rfl, ?_⟩) (by assumption) ?_
    rotate_left
    · (intro w hSw; (try dsimp only at hSw); go_simp; try with_reducible rfl)
    try simp only [Act.put, List.setIfInBounds_toArray, List.set_cons_zero, List.set_cons_succ]
    refine Till.take 10 (some 22) (v := ?_) rfl rfl (by kernel_rfl) (by kernel_rfl) (by kernel_rfl) (by kernel_rfl) (fun _ _ _ h => h) (Or.inl ⟨by rfl, ?_⟩) (by assumption) ?_
    rotate_left
    · (intro w hSw; (try dsimp only at hSw); go_simp; try with_reducible rfl)
    try simp only [Act.put, List.setIfInBounds_toArray, List.set_cons_zero, List.set_cons_succ]
    refine Till.one 7 rfl (by kernel_rfl) (fun K hK => ?_)
    go_simp
    go_at_call 25
    refine (hs5 _ D0).mono ?_
    rintro e8 w8 ⟨rfl, hb8⟩
    have D1 := D0.trans (hb8.mono D0.size)
    have hh := HSV.out _ D1
    refine hK.out _ _ (fun _ => hh) (fun hHeld2 => ?_)
    clear hK K hs5 hb8
    try simp only [Act.put, List.setIfInBounds_toArray, List.set_cons_zero, List.set_cons_succ]
    have hfd := fun w => field_hi5 (.int .i64 T.lo) (.int .i64 T.hi) w
    refine Till.take 8 (some 20) (v := ?_) rfl rfl (by kernel_rfl) (by kernel_rfl) (by kernel_rfl) (by kernel_rfl) (fun _ _ _ h => h) (Or.inl ⟨by rfl, ?_⟩) (by assumption) ?_
    rotate_left
    · (intro w hSw; (try dsimp only at hSw); go_simp; try with_reducible rfl)
    try simp only [Act.put, List.setIfInBounds_toArray, List.set_cons_zero, List.set_cons_succ]
    refine Till.take 11 (some 23) (v := ?_) rfl rfl (by kernel_rfl) (by kernel_rfl) (by kernel_rfl) (by kernel_rfl) (fun _ _ _ h => h) (Or.inl ⟨by rfl, ?_⟩) (by assumption) ?_
    rotate_left
    · (intro w hSw; (try dsimp only at hSw); go_simp; try with_reducible rfl)
    try simp only [Act.put, List.setIfInBounds_toArray, List.set_cons_zero, List.set_cons_succ]
    refine Till.done (by kernel_rfl) ?_ _
    have hR8 := hRk.below D1 lR
    have hBel8 := hBel.trans (D1.mono hBel.size)
    have hBS8 := hBS.trans (BelS.of_below (D1.mono hBS.size))
    have hK8 : KeepsFrom W4.heap.size W w8 := keeps_below D1 (Nat.le_refl _)
    have hS8 : BelS (fun k => k = w.heap.size + 1 + 1) W4.heap.size W w8 := BelS.of_below (D1.mono hWs)
    clear hh hHeld hHeld2 D0 D1 hRk hBel hBS HSV hr4 hrr hI4 hB4 hL4 hR4 hA4 hC htl hfd
    by_cases hgt : m < T.hi
    · have d0 := hR8.cell 0 _ rfl
      have f0 := hR8.frozen 0
      have H1 := Lib.hid hgt
      have HB := Lib.hid (hBel8.setCell (p := ⟨w.heap.size + 1 + 1, 0, none⟩) (by simp only; omega) (.bool false))
      have HR : Hid (Blk (w8.setCell ⟨w.heap.size + 1 + 1, 0, none⟩ (.bool false)) (w.heap.size + 1 + 1) #[.bool false] 4) := Lib.hid (by simpa using hR8.set 0 (.bool false))
      have HKK := Lib.hid (hK8.trans ((KeepsOthers.setCell w8 ⟨w.heap.size + 1 + 1, 0, none⟩ (.bool false)).from W4.heap.size))
      have HP : Hid (¬ HoldsW b ts l m) := Lib.hid (fun h => by have h1 := h k HK.out; rw [HST.out] at h1; have := H1.out; omega)
      have hd := decide_eq_true hgt
      clear hR8 hBel8 hBS8 hK8 hS8 hall
      gi_wp2
      exact ⟨HKK.out, HR.out, HB.out⟩
    · have hd := decide_eq_false hgt
      have HA : Hid (∀ i, i < k + 1 → (strAt b ts l i).hi ≤ m) := Lib.hid (fun i hi => by
        by_cases hik : i = k
        · subst hik; rw [HST.out]; omega
        · exact hall.out i (by omega))
      have H1 := Lib.hid hR8
      have H2 := Lib.hid hBel8
      have H3 := Lib.hid hBS8
      have H4 := Lib.hid hK8
      have H5 := Lib.hid hS8
      clear hR8 hBel8 hBS8 hK8 hS8 hall
      gi_wp2
      exact ⟨H4.out, H5.out, H1.out, H3.out, H2.out⟩
  case done =>
    rintro D W hD ⟨hall, hRk, hBS, hBel⟩ hKD
    have lR := hRk.lt
    have hP : Hid ((HoldsW b ts l m) ↔ True) := Lib.hid (⟨fun _ => trivial, fun _ i hi => hall.out i (by rw [encR_len]; exact hi)⟩)
    have d0 := hRk.cell 0 _ rfl
    have f0 := hRk.frozen 0
    have hR2 : Blk (W.setCell ⟨w.heap.size + 1 + 1, 0, none⟩ (.bool true)) (w.heap.size + 1 + 1) #[.bool true] 4 := by simpa using hRk.set 0 (.bool true)
    have hKD2 := (KeepsOthers.setCell W ⟨w.heap.size + 1 + 1, 0, none⟩ (.bool true)).same D _ hKD rfl
    have hPD := Lib.hid ((hBel.setCell (p := ⟨w.heap.size + 1 + 1, 0, none⟩) (by simp only; omega) (.bool true)).trans (belowK_b (w := w) (Nat.le_refl _) _ D _ (.deferred none) (by omega) hKD2 rfl rfl))
    have r0 := (hR2.below (belowK_b (w := W4) (Nat.le_refl _) _ D _ (.deferred none) hD hKD2 rfl rfl) (by omega)).cell 0 (.bool true) (by simp)
    gi_wp2
    refine ⟨by simp, .inl ⟨_, _, rfl, run_takeDeferred hKD2, ?_⟩⟩
    refine ⟨.bool true, ?_, by first | exact ⟨true, rfl, by simp [hP.out], hPD.out⟩ | exact .inl ⟨rfl, by simp [hP.out], hPD.out⟩ | exact .inr ⟨rfl, by simp [hP.out], hPD.out⟩⟩
    simp [results, Tryz.results31, go_sem, r0]
  case stop =>
    rintro D c W hD ⟨rfl, hP, hRk, hBel⟩ hKD
    have lR := hRk.lt
    have hPD := Lib.hid (hBel.trans (belowK_b (w := w) (Nat.le_refl _) W D _ (.deferred none) (by omega) hKD rfl rfl))
    have r0 := (hRk.below (belowK_b (w := W4) (Nat.le_refl _) W D _ (.deferred none) hD hKD rfl rfl) (by omega)).cell 0 (.bool false) (by simp)
    gi_wp2
    refine ⟨by simp, .inl ⟨_, _, rfl, run_takeDeferred hKD, ?_⟩⟩
    refine ⟨.bool false, ?_, by first | exact ⟨false, rfl, by simp [hP.out], hPD.out⟩ | exact .inl ⟨rfl, by simp [hP.out], hPD.out⟩ | exact .inr ⟨rfl, by simp [hP.out], hPD.out⟩⟩
    simp [results, Tryz.results31, go_sem, r0]

set_option maxHeartbeats 4000000 in
set_option maxRecDepth 100000 in
theorem breaks_any (a ta : Option Addr) (cap tc : Nat) (b : Bot) (ts : List Sp) (l : Ld) (m : Int) (w : World) (h : RBot w (.agg #[.slice a b.rings.length cap, .int .i64 b.flaw, .int .i64 b.tough]) b) (hts : RSps w (.slice ta ts.length tc) ts) (hok : OkS b) (hlen : ts.length = b.rings.length) (hT : ∀ i (h : i < ts.length), OkT ts[i]) (hl : OkL l) (hC : Circ w) :
    Calls Tryz.prog 34 #[.agg #[.slice a b.rings.length cap, .int .i64 b.flaw, .int .i64 b.tough, .slice ta ts.length tc, .int .i64 m], .agg #[.int .i64 l.press, .int .i64 l.force, .int .i64 l.speed, .int .i64 l.other]] w fun e w' => ∃ r, e = .returned (.bool r) ∧ (r = true ↔ BreaksW b ts l m) ∧ Below w.heap.size w w' := by
  have hle1 : ts.length ≤ b.rings.length := by omega
  have hle2 : b.rings.length ≤ ts.length := by omega
  clear hlen
  obtain ⟨v1, he, hr, hI⟩ := h
  cases he
  have hrr := hr
  obtain ⟨_, _, hq, -, -, -⟩ := hr
  cases hq
  obtain ⟨ta', tc', hq, -, ⟨-, htm⟩, htl⟩ := hts
  cases hq
  have hmo := hok.most
  have hA : Below w.heap.size w (((w.alloc (.cells #[.slice a b.rings.length cap, .int .i64 b.flaw, .int .i64 b.tough, .slice ta ts.length tc, .int .i64 m] 79)).alloc (.cells #[.int .i64 l.press, .int .i64 l.force, .int .i64 l.speed, .int .i64 l.other] 33)).alloc (.cells #[.bool false] 4)) := ((below_boxS w _).alloc (by simp) _).alloc (by simp only [World.size_alloc]; omega) _
  have hB := ((Blk.new w #[.slice a b.rings.length cap, .int .i64 b.flaw, .int .i64 b.tough, .slice ta ts.length tc, .int .i64 m] 79).alloc (.cells #[.int .i64 l.press, .int .i64 l.force, .int .i64 l.speed, .int .i64 l.other] 33)).alloc (.cells #[.bool false] 4)
  have hL := (Blk.new (w.alloc (.cells #[.slice a b.rings.length cap, .int .i64 b.flaw, .int .i64 b.tough, .slice ta ts.length tc, .int .i64 m] 79)) #[.int .i64 l.press, .int .i64 l.force, .int .i64 l.speed, .int .i64 l.other] 33).alloc (.cells #[.bool false] 4)
  have hR := Blk.new ((w.alloc (.cells #[.slice a b.rings.length cap, .int .i64 b.flaw, .int .i64 b.tough, .slice ta ts.length tc, .int .i64 m] 79)).alloc (.cells #[.int .i64 l.press, .int .i64 l.force, .int .i64 l.speed, .int .i64 l.other] 33)) #[.bool false] 4
  simp only [World.size_alloc] at hL hR
  refine (callsIn_wide (n := 9)).1 ?_
  refine callsIn_of_wp_marks Tryz.func34 rfl trivial ?_ rfl
  simp only [Tryz.ntmps34, List.size_toArray, List.length_cons, List.length_nil, Nat.reduceAdd, Nat.reduceSub, Array.replicate_succ, Array.replicate_zero, List.push_toArray, List.append_toArray, List.nil_append, List.cons_append]
  have c0 := hB.cell 0 _ rfl
  have c1 := hB.cell 1 _ rfl
  have c2 := hB.cell 2 _ rfl
  gi_wp2_with fail
  refine ⟨trivial, callsIn_wide.2 ?_⟩
  refine (calls_p (rings_in (.slice a b.rings.length cap) b _ 9)).mono ?_
  rintro e w' ⟨rfl, hw'⟩
  obtain rfl := hw'.symm
  clear hw'
  have hA4 : Below w.heap.size w ((((w.alloc (.cells #[.slice a b.rings.length cap, .int .i64 b.flaw, .int .i64 b.tough, .slice ta ts.length tc, .int .i64 m] 79)).alloc (.cells #[.int .i64 l.press, .int .i64 l.force, .int .i64 l.speed, .int .i64 l.other] 33)).alloc (.cells #[.bool false] 4)).alloc (.cells #[.slice a b.rings.length cap, .int .i64 b.flaw, .int .i64 b.tough] 24)) := hA.alloc hA.size _
  have hB4 := hB.alloc (.cells #[.slice a b.rings.length cap, .int .i64 b.flaw, .int .i64 b.tough] 24)
  have hL4 := hL.alloc (.cells #[.slice a b.rings.length cap, .int .i64 b.flaw, .int .i64 b.tough] 24)
  have hR4 := hR.alloc (.cells #[.slice a b.rings.length cap, .int .i64 b.flaw, .int .i64 b.tough] 24)
  have hI4 := Blk.new (((w.alloc (.cells #[.slice a b.rings.length cap, .int .i64 b.flaw, .int .i64 b.tough, .slice ta ts.length tc, .int .i64 m] 79)).alloc (.cells #[.int .i64 l.press, .int .i64 l.force, .int .i64 l.speed, .int .i64 l.other] 33)).alloc (.cells #[.bool false] 4)) #[.slice a b.rings.length cap, .int .i64 b.flaw, .int .i64 b.tough] 24
  have hz : ((((w.alloc (.cells #[.slice a b.rings.length cap, .int .i64 b.flaw, .int .i64 b.tough, .slice ta ts.length tc, .int .i64 m] 79)).alloc (.cells #[.int .i64 l.press, .int .i64 l.force, .int .i64 l.speed, .int .i64 l.other] 33)).alloc (.cells #[.bool false] 4)).alloc (.cells #[.slice a b.rings.length cap, .int .i64 b.flaw, .int .i64 b.tough] 24)).heap.size = w.heap.size + 4 := by simp
  replace hz := And.intro (Nat.le_of_eq hz) (Nat.le_of_eq hz.symm)
  simp only [World.size_alloc] at hI4
  clear c0 c1 c2 hA hB hL hR
  gi_wp2_with fail
  generalize (((w.alloc (.cells #[.slice a b.rings.length cap, .int .i64 b.flaw, .int .i64 b.tough, .slice ta ts.length tc, .int .i64 m] 79)).alloc (.cells #[.int .i64 l.press, .int .i64 l.force, .int .i64 l.speed, .int .i64 l.other] 33)).alloc (.cells #[.bool false] 4)).alloc (.cells #[.slice a b.rings.length cap, .int .i64 b.flaw, .int .i64 b.tough] 24) = W4 at *
  have hr4 : RRgs (vis (fun k => ¬ k = w.heap.size + 1 + 1) W4) (.slice a b.rings.length cap) b.rings := hrr.mono (ext_vis_all (ext_of_below hA4) (fun k hk => by omega))
  refine wpIn_range_p (fun k => k = w.heap.size + 1 + 1) rfl (by simp [Fence.wide]) (gf := 72) (lb := #[.pointer (some ⟨w.heap.size + 1 + 1 + 1, 0, none⟩)]) rfl trivial (enters_of Tryz.func72 (by kernel_rfl) rfl)
    (ringIt_any _ Fence.wide _ trivial rfl rfl _ b _ W4 hr4 (by omega) hI4) (fun k x hx => by obtain ⟨_, rfl⟩ := encR_ix hx; rfl)
    (fun k W => Hid (∀ i, i < k → (strAt b ts l i).lo ≤ m) ∧ Blk W (w.heap.size + 1 + 1) #[.bool false] 4 ∧ BelS (fun k => k = w.heap.size + 1 + 1) W4.heap.size W4 W ∧ Below w.heap.size w W)
    (fun c W => c = .ret ∧ Hid (BreaksW b ts l m) ∧ Blk W (w.heap.size + 1 + 1) #[.bool true] 4 ∧ Below w.heap.size w W) (fun _ _ => False)
    (OwnFrom.and (ownFrom_pure _ _) (OwnFrom.and (Own.from (blk_own _ _ _) _) (OwnFrom.and (ownFrom_bel (Nat.le_refl _) (Nat.le_refl _)) (ownFrom_below (Nat.le_refl _) (by omega)))))
    (fun c => OwnFrom.and (ownFrom_pure _ _) (OwnFrom.and (ownFrom_pure _ _) (OwnFrom.and (Own.from (blk_own _ _ _) _) (ownFrom_below (Nat.le_refl _) (by omega)))))
    (fun _ _ _ _ h => h.elim) ⟨fun i h => absurd h (by omega), hR4, BelS.refl _ _ _, hA4⟩
    (fun x a' W => ∃ Bx vk vs, W4.heap.size ≤ Bx ∧ x = #[vk, .agg vs] ∧ Blk W Bx vs 63 ∧ a' = { tmps := #[.agg #[.slice a b.rings.length cap, .int .i64 b.flaw, .int .i64 b.tough, .slice ta ts.length tc, .int .i64 m], .agg #[.int .i64 l.press, .int .i64 l.force, .int .i64 l.speed, .int .i64 l.other], .pointer (some ⟨w.heap.size, 0, none⟩), .pointer (some ⟨w.heap.size + 1, 0, none⟩), .pointer (some ⟨w.heap.size + 1 + 1, 0, none⟩), vk, .pointer (some ⟨Bx, 0, none⟩), .pointer (some ⟨w.heap.size, 0, none⟩), .agg #[.slice a b.rings.length cap, .int .i64 b.flaw, .int .i64 b.tough], .func (.func 72) #[] #[.pointer (some ⟨w.heap.size + 1 + 1 + 1, 0, none⟩)], vk, .agg vs, undef, undef, undef, undef, undef, undef, undef, undef, undef, undef, undef, undef], defers := [] })
    (fun x a' s' X Y row hs hg hr => by
      obtain ⟨Bx, v0, vs, h1, h2, h3, h4⟩ := hs
      exact ⟨Bx, v0, vs, h1, h2, (blk_own (β := Unit) Bx _ (fun _ => vs)) () X Y row h3 hg (fun r e => (hr r e).2), h4⟩)
    ?assign ?body ?done ?stop ?panic
  case panic => exact fun D ch W _ h => h.elim
  case assign =>
    rintro j k x W K hx hWs ⟨hall, hRk, hBS, hBel⟩ hK
    obtain ⟨hk, rfl⟩ := encR_ix hx
    clear hx
    generalize b.rings[k] = r at *
    simp only [rgCells] at hK ⊢
    have hsW : W4.heap.size ≤ W.heap.size := hWs
    gi_wp2
    exact hK _ _ ((KeepsOthers.alloc _ _).from _) (BelS.of_below ((below_boxS W _).mono hsW)) ⟨hall, hRk.alloc _, hBS.trans (BelS.of_below ((below_boxS W _).mono hsW)), hBel.alloc hBel.size _⟩ ⟨W.heap.size, _, _, hsW, rfl, Blk.new _ _ _, rfl⟩
  case body =>
    rintro j k x a' W hx hWs ⟨hall, hRk, hBS, hBel⟩ ⟨Bx, v0, vs, hBx, he, hX, rfl⟩
    obtain ⟨hk, rfl⟩ := encR_ix hx
    simp only [Array.mk.injEq, List.cons.injEq, and_true, Value.agg.injEq] at he
    obtain ⟨rfl, rfl⟩ := he
    have hkt : k < ts.length := by omega
    have hst := strAt_eq (l := l) hk hkt
    obtain ⟨tb, to, rfl, q1, q2, -, -⟩ := htl k hkt
    have hs5 := fun V (hV : Below W.heap.size W V) => stress_any b.rings[k] ts[k] l V (hok.rings k hk) (hT k hkt) hl (hC.mono (ext_of_below (hBel.trans (hV.mono hBel.size))))
    have hWb := hBS.blk hB4 (by omega) (by omega)
    have hLb := hBS.blk hL4 (by omega) (by omega)
    have hxs : ∀ j, j < 10 → ∀ V, Below W.heap.size W V → V.cell? ⟨Bx, j, none⟩ = (rgCells b.rings[k])[j]? := fun j hj V hV => by
      have hj' : j < (rgCells b.rings[k]).length := hj
      rw [List.getElem?_eq_getElem hj']
      exact ext_of_below hV _ _ (hX.cell j _ (by simp [List.getElem?_eq_getElem hj']))
    have lX := hX.lt
    have lR := hRk.lt
    clear hx hX
    generalize b.rings[k] = r at *
    generalize ts[k] = t at *
    simp only at q1 q2
    have i1 : (0 : Int) ≤ (k : Int) := Int.natCast_nonneg _
    have i2 : (k : Int) < (ts.length : Int) := by omega
    have t0 := ext_of_below hBel _ _ q1
    have t1 := ext_of_below hBel _ _ q2
    have e3 := hWb.cell 3 _ rfl
    have e4 := hWb.cell 4 _ rfl
    have l0 := hLb.cell 0 _ rfl
    have l1 := hLb.cell 1 _ rfl
    have l2 := hLb.cell 2 _ rfl
    have l3 := hLb.cell 3 _ rfl
    have HSV : Hid (∀ V, Below W.heap.size W V → (fun w' : World => w'.cell? ⟨Bx, 0, none⟩ = some (.int .i64 r.radius.lo) ∧ w'.cell? ⟨Bx, 1, none⟩ = some (.int .i64 r.radius.hi) ∧ w'.cell? ⟨Bx, 2, none⟩ = some (.int .i64 r.height.lo) ∧ w'.cell? ⟨Bx, 3, none⟩ = some (.int .i64 r.height.hi) ∧ w'.cell? ⟨Bx, 4, none⟩ = some (.int .i64 r.share.lo) ∧ w'.cell? ⟨Bx, 5, none⟩ = some (.int .i64 r.share.hi) ∧ w'.cell? ⟨Bx, 6, none⟩ = some (.int .i64 r.factor.lo) ∧ w'.cell? ⟨Bx, 7, none⟩ = some (.int .i64 r.factor.hi) ∧ w'.cell? ⟨Bx, 8, none⟩ = some (.int .i64 r.hit.lo) ∧ w'.cell? ⟨Bx, 9, none⟩ = some (.int .i64 r.hit.hi) ∧ w'.cell? ⟨w.heap.size, 3, none⟩ = some (.slice (some ⟨tb, to, none⟩) ts.length tc) ∧ w'.cell? ⟨w.heap.size, 4, none⟩ = some (.int .i64 m) ∧ w'.cell? ⟨w.heap.size + 1, 0, none⟩ = some (.int .i64 l.press) ∧ w'.cell? ⟨w.heap.size + 1, 1, none⟩ = some (.int .i64 l.force) ∧ w'.cell? ⟨w.heap.size + 1, 2, none⟩ = some (.int .i64 l.speed) ∧ w'.cell? ⟨w.heap.size + 1, 3, none⟩ = some (.int .i64 l.other) ∧ w'.cell? ⟨tb, to + k * 2, none⟩ = some (.int .i64 t.lo) ∧ w'.cell? ⟨tb, to + k * 2 + 1, none⟩ = some (.int .i64 t.hi)) V) := Lib.hid (fun V hV => ⟨hxs 0 (by omega) V hV, hxs 1 (by omega) V hV, hxs 2 (by omega) V hV, hxs 3 (by omega) V hV, hxs 4 (by omega) V hV, hxs 5 (by omega) V hV, hxs 6 (by omega) V hV, hxs 7 (by omega) V hV, hxs 8 (by omega) V hV, hxs 9 (by omega) V hV, ext_of_below hV _ _ e3, ext_of_below hV _ _ e4, ext_of_below hV _ _ l0, ext_of_below hV _ _ l1, ext_of_below hV _ _ l2, ext_of_below hV _ _ l3, ext_of_below hV _ _ t0, ext_of_below hV _ _ t1⟩)
    have D0 : Below W.heap.size W W.drew := (Below.refl _ _).drew
    have HST := Lib.hid hst
    have HK := Lib.hid hk
    clear hxs hst hk hWb hLb q1 q2
    generalize strR r t l = T at *
    simp only [rgCells] at hs5
    clear e3 e4 l0 l1 l2 l3 t0 t1
    gi_wp2_with fail
    refine wpIn_region_till (fun w' : World => w'.cell? ⟨Bx, 0, none⟩ = some (.int .i64 r.radius.lo) ∧ w'.cell? ⟨Bx, 1, none⟩ = some (.int .i64 r.radius.hi) ∧ w'.cell? ⟨Bx, 2, none⟩ = some (.int .i64 r.height.lo) ∧ w'.cell? ⟨Bx, 3, none⟩ = some (.int .i64 r.height.hi) ∧ w'.cell? ⟨Bx, 4, none⟩ = some (.int .i64 r.share.lo) ∧ w'.cell? ⟨Bx, 5, none⟩ = some (.int .i64 r.share.hi) ∧ w'.cell? ⟨Bx, 6, none⟩ = some (.int .i64 r.factor.lo) ∧ w'.cell? ⟨Bx, 7, none⟩ = some (.int .i64 r.factor.hi) ∧ w'.cell? ⟨Bx, 8, none⟩ = some (.int .i64 r.hit.lo) ∧ w'.cell? ⟨Bx, 9, none⟩ = some (.int .i64 r.hit.hi) ∧ w'.cell? ⟨w.heap.size, 3, none⟩ = some (.slice (some ⟨tb, to, none⟩) ts.length tc) ∧ w'.cell? ⟨w.heap.size, 4, none⟩ = some (.int .i64 m) ∧ w'.cell? ⟨w.heap.size + 1, 0, none⟩ = some (.int .i64 l.press) ∧ w'.cell? ⟨w.heap.size + 1, 1, none⟩ = some (.int .i64 l.force) ∧ w'.cell? ⟨w.heap.size + 1, 2, none⟩ = some (.int .i64 l.speed) ∧ w'.cell? ⟨w.heap.size + 1, 3, none⟩ = some (.int .i64 l.other) ∧ w'.cell? ⟨tb, to + k * 2, none⟩ = some (.int .i64 t.lo) ∧ w'.cell? ⟨tb, to + k * 2 + 1, none⟩ = some (.int .i64 t.hi)) 99 (by kernel_rfl) (by kernel_rfl) (fun ⟨_, _, h⟩ => h) (HSV.out _ D0) (fun hHeld => ?_)
    refine Till.take 0 (some 12) (v := ?_) rfl rfl (by kernel_rfl) (by kernel_rfl) (by kernel_rfl) (by kernel_rfl) (fun _ _ _ h => h) (Or.inl ⟨by rfl, ?_⟩) (by assumption) ?_
    rotate_left
    · (intro w hSw; (try dsimp only at hSw); go_simp; try with_reducible rfl)
    try simp only [Act.put, List.setIfInBounds_toArray, List.set_cons_zero, List.set_cons_succ]
    refine Till.take 1 (some 13) (v := ?_) rfl rfl (by kernel_rfl) (by kernel_rfl) (by kernel_rfl) (by kernel_rfl) (fun _ _ _ h => h) (Or.inl ⟨by rfl, ?_⟩) (by assumption) ?_
    rotate_left
    · (intro w hSw; (try dsimp only at hSw); go_simp; try with_reducible rfl)
    try simp only [Act.put, List.setIfInBounds_toArray, List.set_cons_zero, List.set_cons_succ]
    refine Till.take 2 (some 14) (v := ?_) rfl rfl (by kernel_rfl) (by kernel_rfl) (by kernel_rfl) (by kernel_rfl) (fun _ _ _ h => h) (Or.inl ⟨by rfl, ?_⟩) (by assumption) ?_
    rotate_left
    · (intro w hSw; (try dsimp only at hSw); go_simp; try with_reducible rfl)
    try simp only [Act.put, List.setIfInBounds_toArray, List.set_cons_zero, List.set_cons_succ]
    refine Till.take 3 (some 15) (v := ?_) rfl rfl (by kernel_rfl) (by kernel_rfl) (by kernel_rfl) (by kernel_rfl) (fun _ _ _ h => h) (Or.inl ⟨by rfl, ?_⟩) (by assumption) ?_
    rotate_left
    · (intro w hSw; (try dsimp only at hSw); go_simp; try with_reducible rfl)
    try simp only [Act.put, List.setIfInBounds_toArray, List.set_cons_zero, List.set_cons_succ]
    refine Till.take 4 (some 16) (v := ?_) rfl rfl (by kernel_rfl) (by kernel_rfl) (by kernel_rfl) (by kernel_rfl) (fun _ _ _ h => h) (Or.inl ⟨by rfl, ?_⟩) (by assumption) ?_
    rotate_left
    · (intro w hSw; (try dsimp only at hSw); go_simp; try with_reducible rfl)
    try simp only [Act.put, List.setIfInBounds_toArray, List.set_cons_zero, List.set_cons_succ]
    refine Till.take 5 (some 17) (v := ?_) rfl rfl (by kernel_rfl) (by kernel_rfl) (by kernel_rfl) (by kernel_rfl) (fun _ _ _ h => h) (Or.inl ⟨by rfl, ?_⟩) (by assumption) ?_
    rotate_left
    · (intro w hSw; (try dsimp only at hSw); go_simp; try with_reducible rfl)
    try simp only [Act.put, List.setIfInBounds_toArray, List.set_cons_zero, List.set_cons_succ]
    refine Till.take 6 (some 18) (v := ?_) rfl rfl (by kernel_rfl) (by kernel_rfl) (by kernel_rfl) (by kernel_rfl) (fun _ _ _ h => h) (Or.inl ⟨by rfl, ?_⟩) (by assumption) ?_
    rotate_left
    · (intro w hSw; (try dsimp only at hSw); go_simp; try with_reducible rfl)
    try simp only [Act.put, List.setIfInBounds_toArray, List.set_cons_zero, List.set_cons_succ]
    refine Till.take 9 (some 21) (v := ?_) rfl rfl (by kernel_rfl) (by kernel_rfl) (by kernel_rfl) (by kernel_rfl) (fun _ _ _ h => h) (Or.inl ⟨by rfl, ?_⟩) (by assumption) ?_
    rotate_left
    · (intro w hSw; (try dsimp only at hSw); go_simp; try with_reducible rfl)
    try simp only [Act.put, List.setIfInBounds_toArray, List.set_cons_zero, List.set_cons_succ]
    refine Till.take 10 (some 22) (v := ?_) rfl rfl (by kernel_rfl) (by kernel_rfl) (by kernel_rfl) (by kernel_rfl) (fun _ _ _ h => h) (Or.inl ⟨by rfl, ?_⟩) (by assumption) ?_
    rotate_left
    · (intro w hSw; (try dsimp only at hSw); go_simp; try with_reducible rfl)
    try simp only [Act.put, List.setIfInBounds_toArray, List.set_cons_zero, List.set_cons_succ]
    refine Till.one 7 rfl (by kernel_rfl) (fun K hK => ?_)
    go_simp
    go_at_call 25
    refine (hs5 _ D0).mono ?_
    rintro e8 w8 ⟨rfl, hb8⟩
    have D1 := D0.trans (hb8.mono D0.size)
    have hh := HSV.out _ D1
    refine hK.out _ _ (fun _ => hh) (fun hHeld2 => ?_)
    clear hK K hs5 hb8
    try simp only [Act.put, List.setIfInBounds_toArray, List.set_cons_zero, List.set_cons_succ]
    have hfd := fun w => field_lo5 (.int .i64 T.lo) (.int .i64 T.hi) w
    refine Till.take 8 (some 20) (v := ?_) rfl rfl (by kernel_rfl) (by kernel_rfl) (by kernel_rfl) (by kernel_rfl) (fun _ _ _ h => h) (Or.inl ⟨by rfl, ?_⟩) (by assumption) ?_
    rotate_left
    · (intro w hSw; (try dsimp only at hSw); go_simp; try with_reducible rfl)
    try simp only [Act.put, List.setIfInBounds_toArray, List.set_cons_zero, List.set_cons_succ]
    refine Till.take 11 (some 23) (v := ?_) rfl rfl (by kernel_rfl) (by kernel_rfl) (by kernel_rfl) (by kernel_rfl) (fun _ _ _ h => h) (Or.inl ⟨by rfl, ?_⟩) (by assumption) ?_
    rotate_left
    · (intro w hSw; (try dsimp only at hSw); go_simp; try with_reducible rfl)
    try simp only [Act.put, List.setIfInBounds_toArray, List.set_cons_zero, List.set_cons_succ]
    refine Till.done (by kernel_rfl) ?_ _
    have hR8 := hRk.below D1 lR
    have hBel8 := hBel.trans (D1.mono hBel.size)
    have hBS8 := hBS.trans (BelS.of_below (D1.mono hBS.size))
    have hK8 : KeepsFrom W4.heap.size W w8 := keeps_below D1 (Nat.le_refl _)
    have hS8 : BelS (fun k => k = w.heap.size + 1 + 1) W4.heap.size W w8 := BelS.of_below (D1.mono hWs)
    clear hh hHeld hHeld2 D0 D1 hRk hBel hBS HSV hr4 hrr hI4 hB4 hL4 hR4 hA4 hC htl hfd
    by_cases hgt : m < T.lo
    · have d0 := hR8.cell 0 _ rfl
      have f0 := hR8.frozen 0
      have H1 := Lib.hid hgt
      have HB := Lib.hid (hBel8.setCell (p := ⟨w.heap.size + 1 + 1, 0, none⟩) (by simp only; omega) (.bool true))
      have HR : Hid (Blk (w8.setCell ⟨w.heap.size + 1 + 1, 0, none⟩ (.bool true)) (w.heap.size + 1 + 1) #[.bool true] 4) := Lib.hid (by simpa using hR8.set 0 (.bool true))
      have HKK := Lib.hid (hK8.trans ((KeepsOthers.setCell w8 ⟨w.heap.size + 1 + 1, 0, none⟩ (.bool true)).from W4.heap.size))
      have HP : Hid (BreaksW b ts l m) := Lib.hid (⟨k, HK.out, by rw [HST.out]; exact H1.out⟩)
      have hd := decide_eq_true hgt
      clear hR8 hBel8 hBS8 hK8 hS8 hall
      gi_wp2
      exact ⟨HKK.out, HR.out, HB.out⟩
    · have hd := decide_eq_false hgt
      have HA : Hid (∀ i, i < k + 1 → (strAt b ts l i).lo ≤ m) := Lib.hid (fun i hi => by
        by_cases hik : i = k
        · subst hik; rw [HST.out]; omega
        · exact hall.out i (by omega))
      have H1 := Lib.hid hR8
      have H2 := Lib.hid hBel8
      have H3 := Lib.hid hBS8
      have H4 := Lib.hid hK8
      have H5 := Lib.hid hS8
      clear hR8 hBel8 hBS8 hK8 hS8 hall
      gi_wp2
      exact ⟨H4.out, H5.out, H1.out, H3.out, H2.out⟩
  case done =>
    rintro D W hD ⟨hall, hRk, hBS, hBel⟩ hKD
    have lR := hRk.lt
    have hP : Hid ((BreaksW b ts l m) ↔ False) := Lib.hid (⟨fun ⟨i, hi, h⟩ => absurd (hall.out i (by rw [encR_len]; exact hi)) (by omega), False.elim⟩)
    have d0 := hRk.cell 0 _ rfl
    have f0 := hRk.frozen 0
    have hR2 : Blk (W.setCell ⟨w.heap.size + 1 + 1, 0, none⟩ (.bool false)) (w.heap.size + 1 + 1) #[.bool false] 4 := by simpa using hRk.set 0 (.bool false)
    have hKD2 := (KeepsOthers.setCell W ⟨w.heap.size + 1 + 1, 0, none⟩ (.bool false)).same D _ hKD rfl
    have hPD := Lib.hid ((hBel.setCell (p := ⟨w.heap.size + 1 + 1, 0, none⟩) (by simp only; omega) (.bool false)).trans (belowK_b (w := w) (Nat.le_refl _) _ D _ (.deferred none) (by omega) hKD2 rfl rfl))
    have r0 := (hR2.below (belowK_b (w := W4) (Nat.le_refl _) _ D _ (.deferred none) hD hKD2 rfl rfl) (by omega)).cell 0 (.bool false) (by simp)
    gi_wp2
    refine ⟨by simp, .inl ⟨_, _, rfl, run_takeDeferred hKD2, ?_⟩⟩
    refine ⟨.bool false, ?_, by first | exact ⟨false, rfl, by simp [hP.out], hPD.out⟩ | exact .inl ⟨rfl, by simp [hP.out], hPD.out⟩ | exact .inr ⟨rfl, by simp [hP.out], hPD.out⟩⟩
    simp [results, Tryz.results34, go_sem, r0]
  case stop =>
    rintro D c W hD ⟨rfl, hP, hRk, hBel⟩ hKD
    have lR := hRk.lt
    have hPD := Lib.hid (hBel.trans (belowK_b (w := w) (Nat.le_refl _) W D _ (.deferred none) (by omega) hKD rfl rfl))
    have r0 := (hRk.below (belowK_b (w := W4) (Nat.le_refl _) W D _ (.deferred none) hD hKD rfl rfl) (by omega)).cell 0 (.bool true) (by simp)
    gi_wp2
    refine ⟨by simp, .inl ⟨_, _, rfl, run_takeDeferred hKD, ?_⟩⟩
    refine ⟨.bool true, ?_, by first | exact ⟨true, rfl, by simp [hP.out], hPD.out⟩ | exact .inl ⟨rfl, by simp [hP.out], hPD.out⟩ | exact .inr ⟨rfl, by simp [hP.out], hPD.out⟩⟩
    simp [results, Tryz.results34, go_sem, r0]

end Go.Proofs.YtaldpalhckdcdaaGreatDoor
