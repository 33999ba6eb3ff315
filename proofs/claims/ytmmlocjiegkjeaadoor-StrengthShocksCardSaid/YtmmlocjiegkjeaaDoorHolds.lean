/- Holds by its contract; no statement is proved here. -/
import Derived.Test.YtmmlocjiegkjeaaDoorLoad
import Derived.Test.YtmmlocjiegkjeaaDoorWall
import Derived.Test.YtmmlocjiegkjeaaDoorTill
import Derived.Test.YtmmlocjiegkjeaaDoorErrOf
namespace Go.Proofs.YtmmlocjiegkjeaaDoor
open Go.RowKit Go.PlainAid
set_option linter.unusedVariables false
attribute [local go_sem] Oper.semAt_some

theorem IsRoot.unique {q m n : Int} (h : IsRoot q m) (k : IsRoot q n) : m = n := by
  have h1 := (h.le_iff k.ge).2 k.sq
  have h2 := (k.le_iff h.ge).2 h.sq
  omega
def HoldsB (b : Bot) (ts : List Sp) (l : Ld) : Prop := ∃ m, IsRoot (b.tough / b.flaw) m ∧ HoldsW b ts l m
def BreaksB (b : Bot) (ts : List Sp) (l : Ld) : Prop := ∃ m, IsRoot (b.tough / b.flaw) m ∧ BreaksW b ts l m
theorem holdsB_iff {b : Bot} {ts : List Sp} {l : Ld} {m : Int} (h : IsRoot (b.tough / b.flaw) m) : HoldsB b ts l ↔ HoldsW b ts l m := ⟨fun ⟨n, h1, h2⟩ => h.unique h1 ▸ h2, fun h2 => ⟨m, h, h2⟩⟩
theorem breaksB_iff {b : Bot} {ts : List Sp} {l : Ld} {m : Int} (h : IsRoot (b.tough / b.flaw) m) : BreaksB b ts l ↔ BreaksW b ts l m := ⟨fun ⟨n, h1, h2⟩ => h.unique h1 ▸ h2, fun h2 => ⟨m, h, h2⟩⟩
structure OkWall (b : Bot) (ts : List Sp) (l : Ld) : Prop where
  bot : OkS b
  len : ts.length = b.rings.length
  thick : ∀ i (h : i < ts.length), OkT ts[i]
  load : OkL l
theorem okWall_of {b : Bot} {ts : List Sp} {l : Ld} (h : wallS b ts l = 0) : OkWall b ts l := by
  simp only [wallS] at h
  split at h
  next h1 =>
    split at h
    next h2 =>
      split at h
      next h3 => exact ⟨okS_of h1, h2, allT_true.1 h3, okL_of h⟩
      next => cases h
    next => cases h
  next h1 => exact absurd h h1

def HoldsP (w : World) (b : Bot) (ts : List Sp) (l : Ld) (p3 p4 : Nat) (e : Ending) (w' : World) : Prop :=
  (wallS b ts l = 0 ∧ e = .returned (.tuple #[]) ∧ ∃ h br, (h = true ↔ HoldsB b ts l) ∧ (br = true ↔ BreaksB b ts l) ∧ Blk w' p3 #[.bool h] 4 ∧ Blk w' p4 #[.bool br] 4 ∧ BelS (fun k => k = p3 ∨ k = p4) w.heap.size w w') ∨
  (wallS b ts l ≠ 0 ∧ e = .panicked (failC (wallS b ts l)) ∧ Below w.heap.size w w')

set_option maxHeartbeats 2000000 in
set_option maxRecDepth 100000 in
theorem holds1_any (a ta : Option Addr) (cap tc : Nat) (b : Bot) (ts : List Sp) (l : Ld) (p0 p1 p2 p3 p4 : Nat) (w : World) (h : RBot w (.agg #[.slice a b.rings.length cap, .int .i64 b.flaw, .int .i64 b.tough]) b) (ht : RSps w (.slice ta ts.length tc) ts) (hC : Circ w)
    (hP0 : Blk w p0 #[.slice a b.rings.length cap, .int .i64 b.flaw, .int .i64 b.tough] 47) (hP1 : Blk w p1 #[.slice ta ts.length tc] 25) (hP2 : Blk w p2 #[.int .i64 l.press, .int .i64 l.force, .int .i64 l.speed, .int .i64 l.other] 27) (hP3 : Blk w p3 #[.bool false] 4) (hP4 : Blk w p4 #[.bool false] 4) (h34 : p3 ≠ p4) (h23 : p2 ≠ p3) (h24 : p2 ≠ p4) :
    Calls Tryd.prog 66 #[.pointer (some ⟨p0, 0, none⟩), .pointer (some ⟨p1, 0, none⟩), .pointer (some ⟨p2, 0, none⟩), .pointer (some ⟨p3, 0, none⟩), .pointer (some ⟨p4, 0, none⟩)] w (HoldsP w b ts l p3 p4) := by
  have hnw := needWall_in _ _ b ts l w 9 h ht
  have hok := fun (h : wallS b ts l = 0) => okWall_of h
  have lP0 := hP0.lt
  have lP1 := hP1.lt
  have lP2 := hP2.lt
  have lP3 := hP3.lt
  have lP4 := hP4.lt
  have c0 := hP0.cell 0 _ rfl
  have c1 := hP0.cell 1 _ rfl
  have c2 := hP0.cell 2 _ rfl
  have d0 := hP1.cell 0 _ rfl
  have l0 := hP2.cell 0 _ rfl
  have l1 := hP2.cell 1 _ rfl
  have l2 := hP2.cell 2 _ rfl
  have l3 := hP2.cell 3 _ rfl
  go_enter Tryd.func66, Tryd.ntmps66
  go_wp2_with fail
  refine (calls_p hnw).mono ?_
  rintro e w1 ⟨hc, hA1⟩
  clear hnw
  rcases hc with ⟨hc, rfl⟩ | ⟨hc, rfl⟩
  case inr =>
    have HC := Lib.hid hc
    clear c0 c1 c2 d0 l0 l1 l2 l3 hc hok
    go_wp2
    exact ⟨rfl, .inr ⟨HC.out, rfl, hA1⟩⟩
  obtain ⟨hoS, hlen, hT, hL⟩ := hok hc
  clear hok
  have HC := Lib.hid hc
  have HLN := Lib.hid hlen
  clear hc hlen c0 c1 c2 d0 l0 l1 l2 l3
  have hE1 := ext_of_below hA1
  have c0 := hE1 _ _ (hP0.cell 0 _ rfl)
  have c1 := hE1 _ _ (hP0.cell 1 _ rfl)
  have c2 := hE1 _ _ (hP0.cell 2 _ rfl)
  have d0 := hE1 _ _ (hP1.cell 0 _ rfl)
  go_wp2_with fail
  refine (newWall_any a ta cap tc ts.length b w1 (h.mono hE1) hoS.flaw hoS.tough).mono ?_
  rintro e w2 ⟨m, rfl, hm, hmb, hb2⟩
  have hA2 := hA1.trans (hb2.mono hA1.size)
  have HM := Lib.hid hm
  have HMB := Lib.hid hmb
  clear hb2 c0 c1 c2 d0 hm hmb hE1
  have hA3 := hA2.trans ((below_boxS w2 (.cells #[.slice a b.rings.length cap, .int .i64 b.flaw, .int .i64 b.tough, .slice ta ts.length tc, .int .i64 m] 106)).mono hA2.size)
  have hW3 := Blk.new w2 #[.slice a b.rings.length cap, .int .i64 b.flaw, .int .i64 b.tough, .slice ta ts.length tc, .int .i64 m] 106
  have lW := hA2.size
  go_wp2_with fail
  generalize w2.alloc (.cells #[.slice a b.rings.length cap, .int .i64 b.flaw, .int .i64 b.tough, .slice ta ts.length tc, .int .i64 m] 106) = W3 at *
  have D0 : Below W3.heap.size W3 W3.drew := (Below.refl _ _).drew
  have HSV : Hid (∀ V, Below W3.heap.size W3 V → (fun w' : World => w'.cell? ⟨w2.heap.size, 0, none⟩ = some (.slice a b.rings.length cap) ∧ w'.cell? ⟨w2.heap.size, 1, none⟩ = some (.int .i64 b.flaw) ∧ w'.cell? ⟨w2.heap.size, 2, none⟩ = some (.int .i64 b.tough) ∧ w'.cell? ⟨w2.heap.size, 3, none⟩ = some (.slice ta ts.length tc) ∧ w'.cell? ⟨w2.heap.size, 4, none⟩ = some (.int .i64 m) ∧ w'.cell? ⟨p2, 0, none⟩ = some (.int .i64 l.press) ∧ w'.cell? ⟨p2, 1, none⟩ = some (.int .i64 l.force) ∧ w'.cell? ⟨p2, 2, none⟩ = some (.int .i64 l.speed) ∧ w'.cell? ⟨p2, 3, none⟩ = some (.int .i64 l.other)) V) := Lib.hid (fun V hV => ⟨ext_of_below hV _ _ (hW3.cell 0 _ rfl), ext_of_below hV _ _ (hW3.cell 1 _ rfl), ext_of_below hV _ _ (hW3.cell 2 _ rfl), ext_of_below hV _ _ (hW3.cell 3 _ rfl), ext_of_below hV _ _ (hW3.cell 4 _ rfl), ext_of_below (hA3.trans (hV.mono hA3.size)) _ _ (hP2.cell 0 _ rfl), ext_of_below (hA3.trans (hV.mono hA3.size)) _ _ (hP2.cell 1 _ rfl), ext_of_below (hA3.trans (hV.mono hA3.size)) _ _ (hP2.cell 2 _ rfl), ext_of_below (hA3.trans (hV.mono hA3.size)) _ _ (hP2.cell 3 _ rfl)⟩)
  have hho : ∀ V, Below W3.heap.size W3 V → _ := fun V hV => holds_any a ta cap tc b ts l m V (h.mono (ext_of_below (hA3.trans (hV.mono hA3.size)))) (ht.mono (ext_of_below (hA3.trans (hV.mono hA3.size)))) hoS HLN.out hT hL (hC.mono (ext_of_below (hA3.trans (hV.mono hA3.size))))
  have hbr : ∀ V, Below W3.heap.size W3 V → _ := fun V hV => breaks_any a ta cap tc b ts l m V (h.mono (ext_of_below (hA3.trans (hV.mono hA3.size)))) (ht.mono (ext_of_below (hA3.trans (hV.mono hA3.size)))) hoS HLN.out hT hL (hC.mono (ext_of_below (hA3.trans (hV.mono hA3.size))))
  refine wp_region_till (fun w' : World => w'.cell? ⟨w2.heap.size, 0, none⟩ = some (.slice a b.rings.length cap) ∧ w'.cell? ⟨w2.heap.size, 1, none⟩ = some (.int .i64 b.flaw) ∧ w'.cell? ⟨w2.heap.size, 2, none⟩ = some (.int .i64 b.tough) ∧ w'.cell? ⟨w2.heap.size, 3, none⟩ = some (.slice ta ts.length tc) ∧ w'.cell? ⟨w2.heap.size, 4, none⟩ = some (.int .i64 m) ∧ w'.cell? ⟨p2, 0, none⟩ = some (.int .i64 l.press) ∧ w'.cell? ⟨p2, 1, none⟩ = some (.int .i64 l.force) ∧ w'.cell? ⟨p2, 2, none⟩ = some (.int .i64 l.speed) ∧ w'.cell? ⟨p2, 3, none⟩ = some (.int .i64 l.other)) 99 (by kernel_rfl) (HSV.out _ D0) (fun hHeld => ?_)
  refine Till.take 0 (some 13) (v := ?_) rfl rfl (by kernel_rfl) (by kernel_rfl) (by kernel_rfl) (by kernel_rfl) (fun _ _ _ h => h) (Or.inl ⟨by rfl, ?_⟩) (by assumption) ?_
  rotate_left
  · (intro w hSw; (try dsimp only at hSw); go_simp; try with_reducible rfl)
  try simp only [Act.put, List.setIfInBounds_toArray, List.set_cons_zero, List.set_cons_succ]
  refine Till.take 1 (some 14) (v := ?_) rfl rfl (by kernel_rfl) (by kernel_rfl) (by kernel_rfl) (by kernel_rfl) (fun _ _ _ h => h) (Or.inl ⟨by rfl, ?_⟩) (by assumption) ?_
  rotate_left
  · (intro w hSw; (try dsimp only at hSw); go_simp; try with_reducible rfl)
  try simp only [Act.put, List.setIfInBounds_toArray, List.set_cons_zero, List.set_cons_succ]
  refine Till.take 3 (some 16) (v := ?_) rfl rfl (by kernel_rfl) (by kernel_rfl) (by kernel_rfl) (by kernel_rfl) (fun _ _ _ h => h) (Or.inl ⟨by rfl, ?_⟩) (by assumption) ?_
  rotate_left
  · (intro w hSw; (try dsimp only at hSw); go_simp; try with_reducible rfl)
  try simp only [Act.put, List.setIfInBounds_toArray, List.set_cons_zero, List.set_cons_succ]
  refine Till.take 4 (some 17) (v := ?_) rfl rfl (by kernel_rfl) (by kernel_rfl) (by kernel_rfl) (by kernel_rfl) (fun _ _ _ h => h) (Or.inl ⟨by rfl, ?_⟩) (by assumption) ?_
  rotate_left
  · (intro w hSw; (try dsimp only at hSw); go_simp; try with_reducible rfl)
  try simp only [Act.put, List.setIfInBounds_toArray, List.set_cons_zero, List.set_cons_succ]
  refine Till.one 2 rfl (by kernel_rfl) (fun K hK => ?_)
  go_simp
  go_at_call 69
  refine (hho _ D0).mono ?_
  rintro e w4 ⟨hh, rfl, hhi, hb4⟩
  have D1 := D0.trans (hb4.mono D0.size)
  have hH4 := HSV.out _ D1
  have HHI := Lib.hid hhi
  refine hK.out _ _ (fun _ => hH4) (fun hHeld2 => ?_)
  clear hK K hb4 hho hhi
  try simp only [Act.put, List.setIfInBounds_toArray, List.set_cons_zero, List.set_cons_succ]
  refine Till.one 5 rfl (by kernel_rfl) (fun K hK => ?_)
  go_simp
  go_at_call 70
  refine (hbr _ D1).mono ?_
  rintro e w5 ⟨br, rfl, hbi, hb5⟩
  have D2 := D1.trans (hb5.mono D1.size)
  have hH5 := HSV.out _ D2
  have HBI := Lib.hid hbi
  refine hK.out _ _ (fun _ => hH5) (fun hHeld3 => ?_)
  clear hK K hb5 hbr hbi
  try simp only [Act.put, List.setIfInBounds_toArray, List.set_cons_zero, List.set_cons_succ]
  have hS5 : BelS (fun k => k = p3 ∨ k = p4) w.heap.size w w5 := BelS.of_below (hA3.trans (D2.mono hA3.size))
  have hT5 : BelS (fun k => k = p3 ∨ k = p4) W3.heap.size W3 w5 := BelS.of_below D2
  have hP23 := hP2.below hA3 lP2
  have h3L := hW3.lt
  have hP35 := hP3.below (hA3.trans (D2.mono hA3.size)) lP3
  have hP45 := hP4.below (hA3.trans (D2.mono hA3.size)) lP4
  have hS6 := hS5.set ⟨p3, 0, none⟩ (.bool hh) (.inr (.inl rfl))
  have hT6 := hT5.set ⟨p3, 0, none⟩ (.bool hh) (.inr (.inl rfl))
  have hP36 : Blk (w5.setCell ⟨p3, 0, none⟩ (.bool hh)) p3 #[.bool hh] 4 := by simpa using hP35.set 0 (.bool hh)
  have hP46 : Blk (w5.setCell ⟨p3, 0, none⟩ (.bool hh)) p4 #[.bool false] 4 := ((BelS.refl (fun k => k = p3) w5.heap.size w5).set ⟨p3, 0, none⟩ (.bool hh) (.inr rfl)).blk hP45 (fun e => h34 e.symm) hP45.lt
  have hW6 := hT6.blk hW3 (fun e => by rcases e with e | e <;> omega) h3L
  have hP26 := hT6.blk hP23 (fun e => by rcases e with e | e <;> omega) hP23.lt
  have q0 := hP35.cell 0 _ rfl
  have g0 := hP35.frozen 0
  have q1 := hP46.cell 0 _ rfl
  have g1 := hP46.frozen 0
  have HSF : Hid (Blk ((w5.setCell ⟨p3, 0, none⟩ (.bool hh)).setCell ⟨p4, 0, none⟩ (.bool br)) p3 #[.bool hh] 4 ∧ Blk ((w5.setCell ⟨p3, 0, none⟩ (.bool hh)).setCell ⟨p4, 0, none⟩ (.bool br)) p4 #[.bool br] 4 ∧ BelS (fun k => k = p3 ∨ k = p4) w.heap.size w ((w5.setCell ⟨p3, 0, none⟩ (.bool hh)).setCell ⟨p4, 0, none⟩ (.bool br))) := Lib.hid ⟨((BelS.refl (fun k => k = p4) (w5.setCell ⟨p3, 0, none⟩ (.bool hh)).heap.size (w5.setCell ⟨p3, 0, none⟩ (.bool hh))).set ⟨p4, 0, none⟩ (.bool br) (.inr rfl)).blk hP36 h34 hP36.lt, by simpa using hP46.set 0 (.bool br), hS6.set ⟨p4, 0, none⟩ (.bool br) (.inr (.inr rfl))⟩
  have HT7 := Lib.hid (hT6.set ⟨p4, 0, none⟩ (.bool br) (.inr (.inr rfl)))
  have hW7 := HT7.out.blk hW3 (fun e => by rcases e with e | e <;> omega) h3L
  have hP27 := HT7.out.blk hP23 (fun e => by rcases e with e | e <;> omega) hP23.lt
  clear hS5 hT5 hS6 hT6 hP35 hP45 hP36 hP46 hHeld hHeld2 hHeld3 hH4 hH5 HSV D0 D1 D2 h3L
  have hH6 : (fun w' : World => w'.cell? ⟨w2.heap.size, 0, none⟩ = some (.slice a b.rings.length cap) ∧ w'.cell? ⟨w2.heap.size, 1, none⟩ = some (.int .i64 b.flaw) ∧ w'.cell? ⟨w2.heap.size, 2, none⟩ = some (.int .i64 b.tough) ∧ w'.cell? ⟨w2.heap.size, 3, none⟩ = some (.slice ta ts.length tc) ∧ w'.cell? ⟨w2.heap.size, 4, none⟩ = some (.int .i64 m) ∧ w'.cell? ⟨p2, 0, none⟩ = some (.int .i64 l.press) ∧ w'.cell? ⟨p2, 1, none⟩ = some (.int .i64 l.force) ∧ w'.cell? ⟨p2, 2, none⟩ = some (.int .i64 l.speed) ∧ w'.cell? ⟨p2, 3, none⟩ = some (.int .i64 l.other)) (w5.setCell ⟨p3, 0, none⟩ (.bool hh)) := ⟨hW6.cell 0 _ rfl, hW6.cell 1 _ rfl, hW6.cell 2 _ rfl, hW6.cell 3 _ rfl, hW6.cell 4 _ rfl, hP26.cell 0 _ rfl, hP26.cell 1 _ rfl, hP26.cell 2 _ rfl, hP26.cell 3 _ rfl⟩
  have hH7 : (fun w' : World => w'.cell? ⟨w2.heap.size, 0, none⟩ = some (.slice a b.rings.length cap) ∧ w'.cell? ⟨w2.heap.size, 1, none⟩ = some (.int .i64 b.flaw) ∧ w'.cell? ⟨w2.heap.size, 2, none⟩ = some (.int .i64 b.tough) ∧ w'.cell? ⟨w2.heap.size, 3, none⟩ = some (.slice ta ts.length tc) ∧ w'.cell? ⟨w2.heap.size, 4, none⟩ = some (.int .i64 m) ∧ w'.cell? ⟨p2, 0, none⟩ = some (.int .i64 l.press) ∧ w'.cell? ⟨p2, 1, none⟩ = some (.int .i64 l.force) ∧ w'.cell? ⟨p2, 2, none⟩ = some (.int .i64 l.speed) ∧ w'.cell? ⟨p2, 3, none⟩ = some (.int .i64 l.other)) ((w5.setCell ⟨p3, 0, none⟩ (.bool hh)).setCell ⟨p4, 0, none⟩ (.bool br)) := ⟨hW7.cell 0 _ rfl, hW7.cell 1 _ rfl, hW7.cell 2 _ rfl, hW7.cell 3 _ rfl, hW7.cell 4 _ rfl, hP27.cell 0 _ rfl, hP27.cell 1 _ rfl, hP27.cell 2 _ rfl, hP27.cell 3 _ rfl⟩
  have HH6 := Lib.hid hH6
  have HH7 := Lib.hid hH7
  clear hH6 hH7 hW6 hP26 hW7 hP27 hP0 hP1 hP2 hP3 hP4
  refine Till.one 6 rfl (by kernel_rfl) (fun K hK => ?_)
  go_simp
  refine hK.out _ _ (fun _ => HH6.out) (fun _ => ?_)
  clear hK K
  refine Till.one 7 rfl (by kernel_rfl) (fun K hK => ?_)
  go_simp
  refine hK.out _ _ (fun _ => HH7.out) (fun _ => ?_)
  clear hK K
  refine Till.done (by kernel_rfl) ?_ _
  go_wp2
  go_end0
  exact .inl ⟨HC.out, rfl, hh, br, HHI.out.trans (holdsB_iff HM.out).symm, HBI.out.trans (breaksB_iff HM.out).symm, HSF.out⟩

end Go.Proofs.YtmmlocjiegkjeaaDoor
