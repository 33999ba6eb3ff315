/- The pressure at which a bottle bursts: Burst by its contract; no statement is proved here. -/
import Derived.Test.YtaldpalhckdcdaaGreatDoorMoreM
import Derived.Test.YtaldpalhckdcdaaGreatDoorInM
import Derived.Test.YtaldpalhckdcdaaGreatDoorToldSp
namespace Go.Proofs.YtaldpalhckdcdaaGreatDoor
open Go.RowKit Go.PlainAid
set_option linter.unusedVariables false
attribute [local go_sem] Oper.semAt_some
def holdsWb (b : Bot) (ts : List Sp) (l : Ld) (m : Int) : Bool := (List.range b.rings.length).all fun i => decide ((strAt b ts l i).hi ≤ m)
theorem holdsWb_iff {b : Bot} {ts : List Sp} {l : Ld} {m : Int} : holdsWb b ts l m = true ↔ HoldsW b ts l m := by
  simp [holdsWb, HoldsW]
def breaksWb (b : Bot) (ts : List Sp) (l : Ld) (m : Int) : Bool := (List.range b.rings.length).any fun i => decide (m < (strAt b ts l i).lo)
theorem breaksWb_iff {b : Bot} {ts : List Sp} {l : Ld} {m : Int} : breaksWb b ts l m = true ↔ BreaksW b ts l m := by
  simp [breaksWb, BreaksW]

theorem isFn_burst1 : IsFn 27 := fun xs w => by kernel_rfl
theorem isFn_burst11 : IsFn 30 := fun xs w => by kernel_rfl
theorem isFn_burst12 : IsFn 33 := fun xs w => by kernel_rfl

set_option maxHeartbeats 2000000 in
set_option maxRecDepth 100000 in
theorem pressed_any (l : Ld) (q : Int) (w : World) :
    Calls Tryz.prog 32 #[.agg #[.int .i64 l.press, .int .i64 l.force, .int .i64 l.speed, .int .i64 l.other], .int .i64 q] w fun e w' => e = .returned (.agg #[.int .i64 (pressed l q).press, .int .i64 (pressed l q).force, .int .i64 (pressed l q).speed, .int .i64 (pressed l q).other]) ∧ Below w.heap.size w w' := by
  simp only [pressed]
  have HA : Hid (Below w.heap.size w ((w.alloc (.cells #[.int .i64 q, .int .i64 l.force, .int .i64 l.speed, .int .i64 l.other] 33)).alloc (.cells #[.int .i64 q, .int .i64 l.force, .int .i64 l.speed, .int .i64 l.other] 33))) := Lib.hid ((below_boxS w _).alloc (by simp) _)
  go_enter Tryz.func32, Tryz.ntmps32
  go_wp2
  refine ⟨rfl, .agg #[.int .i64 q, .int .i64 l.force, .int .i64 l.speed, .int .i64 l.other], ?_, rfl, HA.out⟩
  simp [results, Tryz.results32, go_sem]

set_option maxHeartbeats 2000000 in
set_option maxRecDepth 100000 in
theorem burst11_any (a ta : Option Addr) (cap tc : Nat) (b : Bot) (ts : List Sp) (l : Ld) (m : Int) (pw pl : Nat) (q : Int) (w : World) (h : RBot w (.agg #[.slice a b.rings.length cap, .int .i64 b.flaw, .int .i64 b.tough]) b) (hts : RSps w (.slice ta ts.length tc) ts) (hw : wallS b ts l = 0) (hq : 0 ≤ q ∧ q ≤ 10000) (hC : Circ w)
    (hW : Blk w pw #[.slice a b.rings.length cap, .int .i64 b.flaw, .int .i64 b.tough, .slice ta ts.length tc, .int .i64 m] 79) (hL : Blk w pl #[.int .i64 l.press, .int .i64 l.force, .int .i64 l.speed, .int .i64 l.other] 33) :
    Calls Tryz.prog 30 #[.int .i64 q, .pointer (some ⟨pw, 0, none⟩), .pointer (some ⟨pl, 0, none⟩)] w fun e w' => e = .returned (.bool (!holdsWb b ts (pressed l q) m)) ∧ Below w.heap.size w w' := by
  have hok := okWall_of hw
  have hcall := fun V (hV : Below w.heap.size w V) => holds_any a ta cap tc b ts (pressed l q) m V (h.mono (ext_of_below hV)) (hts.mono (ext_of_below hV)) hok.bot hok.len hok.thick (hok.load.pressed hq.1 hq.2) (hC.mono (ext_of_below hV))
  have hpr := fun V => pressed_any l q V
  clear hok
  have HSV : Hid (∀ V, Below w.heap.size w V → (fun w' : World => w'.cell? ⟨pw, 0, none⟩ = some (.slice a b.rings.length cap) ∧ w'.cell? ⟨pw, 1, none⟩ = some (.int .i64 b.flaw) ∧ w'.cell? ⟨pw, 2, none⟩ = some (.int .i64 b.tough) ∧ w'.cell? ⟨pw, 3, none⟩ = some (.slice ta ts.length tc) ∧ w'.cell? ⟨pw, 4, none⟩ = some (.int .i64 m) ∧ w'.cell? ⟨pl, 0, none⟩ = some (.int .i64 l.press) ∧ w'.cell? ⟨pl, 1, none⟩ = some (.int .i64 l.force) ∧ w'.cell? ⟨pl, 2, none⟩ = some (.int .i64 l.speed) ∧ w'.cell? ⟨pl, 3, none⟩ = some (.int .i64 l.other)) V) :=
    Lib.hid (fun V hV => ⟨ext_of_below hV _ _ (hW.cell 0 _ rfl), ext_of_below hV _ _ (hW.cell 1 _ rfl), ext_of_below hV _ _ (hW.cell 2 _ rfl), ext_of_below hV _ _ (hW.cell 3 _ rfl), ext_of_below hV _ _ (hW.cell 4 _ rfl), ext_of_below hV _ _ (hL.cell 0 _ rfl), ext_of_below hV _ _ (hL.cell 1 _ rfl), ext_of_below hV _ _ (hL.cell 2 _ rfl), ext_of_below hV _ _ (hL.cell 3 _ rfl)⟩)
  clear hW hL h hts hC
  go_enter Tryz.func30, Tryz.ntmps30
  go_wp2_with fail
  have D0 : Below w.heap.size w w.drew := (Below.refl _ _).drew
  refine wp_region_till (fun w' : World => w'.cell? ⟨pw, 0, none⟩ = some (.slice a b.rings.length cap) ∧ w'.cell? ⟨pw, 1, none⟩ = some (.int .i64 b.flaw) ∧ w'.cell? ⟨pw, 2, none⟩ = some (.int .i64 b.tough) ∧ w'.cell? ⟨pw, 3, none⟩ = some (.slice ta ts.length tc) ∧ w'.cell? ⟨pw, 4, none⟩ = some (.int .i64 m) ∧ w'.cell? ⟨pl, 0, none⟩ = some (.int .i64 l.press) ∧ w'.cell? ⟨pl, 1, none⟩ = some (.int .i64 l.force) ∧ w'.cell? ⟨pl, 2, none⟩ = some (.int .i64 l.speed) ∧ w'.cell? ⟨pl, 3, none⟩ = some (.int .i64 l.other)) 99 (by kernel_rfl) (HSV.out _ D0) (fun hHeld => ?_)
  refine Till.take 0 (some 5) (v := ?_) rfl rfl (by kernel_rfl) (by kernel_rfl) (by kernel_rfl) (by kernel_rfl) (fun _ _ _ h => h) (Or.inl ⟨by rfl, ?_⟩) (by assumption) ?_
  rotate_left
  · (intro w hSw; (try dsimp only at hSw); go_simp; try with_reducible rfl)
  try simp only [Act.put, List.setIfInBounds_toArray, List.set_cons_zero, List.set_cons_succ]
  refine Till.take 1 (some 6) (v := ?_) rfl rfl (by kernel_rfl) (by kernel_rfl) (by kernel_rfl) (by kernel_rfl) (fun _ _ _ h => h) (Or.inl ⟨by rfl, ?_⟩) (by assumption) ?_
  rotate_left
  · (intro w hSw; (try dsimp only at hSw); go_simp; try with_reducible rfl)
  try simp only [Act.put, List.setIfInBounds_toArray, List.set_cons_zero, List.set_cons_succ]
  refine Till.take 2 (some 7) (v := ?_) rfl rfl (by kernel_rfl) (by kernel_rfl) (by kernel_rfl) (by kernel_rfl) (fun _ _ _ h => h) (Or.inl ⟨by rfl, ?_⟩) (by assumption) ?_
  rotate_left
  · (intro w hSw; (try dsimp only at hSw); go_simp; try with_reducible rfl)
  try simp only [Act.put, List.setIfInBounds_toArray, List.set_cons_zero, List.set_cons_succ]
  refine Till.one 3 rfl (by kernel_rfl) (fun K hK => ?_)
  go_simp
  go_at_call 32
  refine (hpr _).mono ?_
  rintro e V ⟨rfl, hb⟩
  have D1 := D0.trans (hb.mono D0.size)
  have hh := HSV.out _ D1
  refine hK.out _ _ (fun _ => hh) (fun hHeld2 => ?_)
  clear hK K hb hpr
  try simp only [Act.put, List.setIfInBounds_toArray, List.set_cons_zero, List.set_cons_succ]
  refine Till.one 4 rfl (by kernel_rfl) (fun K hK => ?_)
  go_simp
  go_at_call 31
  refine (hcall _ D1).mono ?_
  rintro e V2 ⟨r, rfl, hr, hb⟩
  have D2 := D1.trans (hb.mono D1.size)
  have hh2 := HSV.out _ D2
  refine hK.out _ _ (fun _ => hh2) (fun hHeld3 => ?_)
  clear hK K hb hcall
  try simp only [Act.put, List.setIfInBounds_toArray, List.set_cons_zero, List.set_cons_succ]
  have HR : Hid ((!r) = (!holdsWb b ts (pressed l q) m)) := Lib.hid (by
    have := hr.trans (holdsWb_iff (b := b) (ts := ts) (l := pressed l q) (m := m)).symm
    cases r <;> simp_all)
  have HB := Lib.hid D2
  clear hr D0 D1 D2 hh HSV
  refine Till.take 5 (some 10) (v := ?_) rfl rfl (by kernel_rfl) (by kernel_rfl) (by kernel_rfl) (by kernel_rfl) (fun _ _ _ h => h) (Or.inl ⟨by rfl, ?_⟩) (by assumption) ?_
  rotate_left
  · (intro w hSw; (try dsimp only at hSw); go_simp; try with_reducible rfl)
  try simp only [Act.put, List.setIfInBounds_toArray, List.set_cons_zero, List.set_cons_succ]
  refine Till.take 6 (some 4) (v := ?_) rfl rfl (by kernel_rfl) (by kernel_rfl) (by kernel_rfl) (by kernel_rfl) (fun _ _ _ h => h) (Or.inl ⟨by rfl, ?_⟩) (by assumption) ?_
  rotate_left
  · (intro w hSw; (try dsimp only at hSw); go_simp; try with_reducible rfl)
  try simp only [Act.put, List.setIfInBounds_toArray, List.set_cons_zero, List.set_cons_succ]
  refine Till.done (by kernel_rfl) ?_ _
  clear hh2 hHeld hHeld2 hHeld3
  go_wp2
  go_ret
  exact ⟨ret_bool HR.out, HB.out⟩

set_option maxHeartbeats 2000000 in
set_option maxRecDepth 100000 in
theorem burst12_any (a ta : Option Addr) (cap tc : Nat) (b : Bot) (ts : List Sp) (l : Ld) (m : Int) (pw pl : Nat) (q : Int) (w : World) (h : RBot w (.agg #[.slice a b.rings.length cap, .int .i64 b.flaw, .int .i64 b.tough]) b) (hts : RSps w (.slice ta ts.length tc) ts) (hw : wallS b ts l = 0) (hq : 0 ≤ q ∧ q ≤ 10000) (hC : Circ w)
    (hW : Blk w pw #[.slice a b.rings.length cap, .int .i64 b.flaw, .int .i64 b.tough, .slice ta ts.length tc, .int .i64 m] 79) (hL : Blk w pl #[.int .i64 l.press, .int .i64 l.force, .int .i64 l.speed, .int .i64 l.other] 33) :
    Calls Tryz.prog 33 #[.int .i64 q, .pointer (some ⟨pw, 0, none⟩), .pointer (some ⟨pl, 0, none⟩)] w fun e w' => e = .returned (.bool (breaksWb b ts (pressed l q) m)) ∧ Below w.heap.size w w' := by
  have hok := okWall_of hw
  have hcall := fun V (hV : Below w.heap.size w V) => breaks_any a ta cap tc b ts (pressed l q) m V (h.mono (ext_of_below hV)) (hts.mono (ext_of_below hV)) hok.bot hok.len hok.thick (hok.load.pressed hq.1 hq.2) (hC.mono (ext_of_below hV))
  have hpr := fun V => pressed_any l q V
  clear hok
  have HSV : Hid (∀ V, Below w.heap.size w V → (fun w' : World => w'.cell? ⟨pw, 0, none⟩ = some (.slice a b.rings.length cap) ∧ w'.cell? ⟨pw, 1, none⟩ = some (.int .i64 b.flaw) ∧ w'.cell? ⟨pw, 2, none⟩ = some (.int .i64 b.tough) ∧ w'.cell? ⟨pw, 3, none⟩ = some (.slice ta ts.length tc) ∧ w'.cell? ⟨pw, 4, none⟩ = some (.int .i64 m) ∧ w'.cell? ⟨pl, 0, none⟩ = some (.int .i64 l.press) ∧ w'.cell? ⟨pl, 1, none⟩ = some (.int .i64 l.force) ∧ w'.cell? ⟨pl, 2, none⟩ = some (.int .i64 l.speed) ∧ w'.cell? ⟨pl, 3, none⟩ = some (.int .i64 l.other)) V) :=
    Lib.hid (fun V hV => ⟨ext_of_below hV _ _ (hW.cell 0 _ rfl), ext_of_below hV _ _ (hW.cell 1 _ rfl), ext_of_below hV _ _ (hW.cell 2 _ rfl), ext_of_below hV _ _ (hW.cell 3 _ rfl), ext_of_below hV _ _ (hW.cell 4 _ rfl), ext_of_below hV _ _ (hL.cell 0 _ rfl), ext_of_below hV _ _ (hL.cell 1 _ rfl), ext_of_below hV _ _ (hL.cell 2 _ rfl), ext_of_below hV _ _ (hL.cell 3 _ rfl)⟩)
  clear hW hL h hts hC
  go_enter Tryz.func33, Tryz.ntmps33
  go_wp2_with fail
  have D0 : Below w.heap.size w w.drew := (Below.refl _ _).drew
  refine wp_region_till (fun w' : World => w'.cell? ⟨pw, 0, none⟩ = some (.slice a b.rings.length cap) ∧ w'.cell? ⟨pw, 1, none⟩ = some (.int .i64 b.flaw) ∧ w'.cell? ⟨pw, 2, none⟩ = some (.int .i64 b.tough) ∧ w'.cell? ⟨pw, 3, none⟩ = some (.slice ta ts.length tc) ∧ w'.cell? ⟨pw, 4, none⟩ = some (.int .i64 m) ∧ w'.cell? ⟨pl, 0, none⟩ = some (.int .i64 l.press) ∧ w'.cell? ⟨pl, 1, none⟩ = some (.int .i64 l.force) ∧ w'.cell? ⟨pl, 2, none⟩ = some (.int .i64 l.speed) ∧ w'.cell? ⟨pl, 3, none⟩ = some (.int .i64 l.other)) 99 (by kernel_rfl) (HSV.out _ D0) (fun hHeld => ?_)
  refine Till.take 0 (some 5) (v := ?_) rfl rfl (by kernel_rfl) (by kernel_rfl) (by kernel_rfl) (by kernel_rfl) (fun _ _ _ h => h) (Or.inl ⟨by rfl, ?_⟩) (by assumption) ?_
  rotate_left
  · (intro w hSw; (try dsimp only at hSw); go_simp; try with_reducible rfl)
  try simp only [Act.put, List.setIfInBounds_toArray, List.set_cons_zero, List.set_cons_succ]
  refine Till.take 1 (some 6) (v := ?_) rfl rfl (by kernel_rfl) (by kernel_rfl) (by kernel_rfl) (by kernel_rfl) (fun _ _ _ h => h) (Or.inl ⟨by rfl, ?_⟩) (by assumption) ?_
  rotate_left
  · (intro w hSw; (try dsimp only at hSw); go_simp; try with_reducible rfl)
  try simp only [Act.put, List.setIfInBounds_toArray, List.set_cons_zero, List.set_cons_succ]
  refine Till.take 2 (some 7) (v := ?_) rfl rfl (by kernel_rfl) (by kernel_rfl) (by kernel_rfl) (by kernel_rfl) (fun _ _ _ h => h) (Or.inl ⟨by rfl, ?_⟩) (by assumption) ?_
  rotate_left
  · (intro w hSw; (try dsimp only at hSw); go_simp; try with_reducible rfl)
  try simp only [Act.put, List.setIfInBounds_toArray, List.set_cons_zero, List.set_cons_succ]
  refine Till.one 3 rfl (by kernel_rfl) (fun K hK => ?_)
  go_simp
  go_at_call 32
  refine (hpr _).mono ?_
  rintro e V ⟨rfl, hb⟩
  have D1 := D0.trans (hb.mono D0.size)
  have hh := HSV.out _ D1
  refine hK.out _ _ (fun _ => hh) (fun hHeld2 => ?_)
  clear hK K hb hpr
  try simp only [Act.put, List.setIfInBounds_toArray, List.set_cons_zero, List.set_cons_succ]
  refine Till.one 4 rfl (by kernel_rfl) (fun K hK => ?_)
  go_simp
  go_at_call 34
  refine (hcall _ D1).mono ?_
  rintro e V2 ⟨r, rfl, hr, hb⟩
  have D2 := D1.trans (hb.mono D1.size)
  have hh2 := HSV.out _ D2
  refine hK.out _ _ (fun _ => hh2) (fun hHeld3 => ?_)
  clear hK K hb hcall
  try simp only [Act.put, List.setIfInBounds_toArray, List.set_cons_zero, List.set_cons_succ]
  have HR : Hid ((r) = (breaksWb b ts (pressed l q) m)) := Lib.hid (by
    have := hr.trans (breaksWb_iff (b := b) (ts := ts) (l := pressed l q) (m := m)).symm
    cases r <;> simp_all)
  have HB := Lib.hid D2
  clear hr D0 D1 D2 hh HSV
  refine Till.take 5 (some 4) (v := ?_) rfl rfl (by kernel_rfl) (by kernel_rfl) (by kernel_rfl) (by kernel_rfl) (fun _ _ _ h => h) (Or.inl ⟨by rfl, ?_⟩) (by assumption) ?_
  rotate_left
  · (intro w hSw; (try dsimp only at hSw); go_simp; try with_reducible rfl)
  try simp only [Act.put, List.setIfInBounds_toArray, List.set_cons_zero, List.set_cons_succ]
  refine Till.done (by kernel_rfl) ?_ _
  clear hh2 hHeld hHeld2 hHeld3
  go_wp2
  go_ret
  exact ⟨ret_bool HR.out, HB.out⟩

end Go.Proofs.YtaldpalhckdcdaaGreatDoor
