/- The factors of the lines, material by material; no statement is proved here. -/
import Derived.Test.YtnnkcbeadiembaaCheck
import Derived.Deep.RegionHeld3
import Derived.Deep.DeepCutAuto
namespace Go.Proofs.Ytnnkcbeadiembaa
open Go.RowKit Go.PlainAid
set_option linter.unusedVariables false

def grB (n : Int) (s : Sp) : Int := max (wrap64 (n * s.lo)) (wrap64 (n * s.hi))
theorem greatestS (n : Int) (s : Sp) (w : World) :
    Calls Try.prog 95 #[.int .i64 n, .agg #[.int .i64 s.lo, .int .i64 s.hi]] w fun e w' => e = .returned (.int .i64 (grB n s)) ∧ Below w.heap.size w w' := greatest_any _ _ _ _

theorem keepCell {w1 w2 : World} {p : Addr} {x : Value} (hb : Below w1.heap.size w1 w2) (h : w1.cell? p = some x) : w2.cell? p = some x := ext_of_below hb _ _ h
theorem keepBelow {W w1 w2 : World} (hb : Below w1.heap.size w1 w2) (h : Below W.heap.size W w1) : Below W.heap.size W w2 := h.trans (hb.mono h.size)

theorem keep3 {w1 w2 W : World} {p1 p2 p3 : Addr} {x1 x2 x3 : Value} (hb : Below w1.heap.size w1 w2) (h : w1.cell? p1 = some x1 ∧ w1.cell? p2 = some x2 ∧ w1.cell? p3 = some x3 ∧ Below W.heap.size W w1) :
    w2.cell? p1 = some x1 ∧ w2.cell? p2 = some x2 ∧ w2.cell? p3 = some x3 ∧ Below W.heap.size W w2 := ⟨keepCell hb h.1, keepCell hb h.2.1, keepCell hb h.2.2.1, keepBelow hb h.2.2.2⟩
theorem keep4 {w1 w2 W : World} {p1 p2 p3 p4 : Addr} {x1 x2 x3 x4 : Value} (hb : Below w1.heap.size w1 w2) (h : w1.cell? p1 = some x1 ∧ w1.cell? p2 = some x2 ∧ w1.cell? p3 = some x3 ∧ w1.cell? p4 = some x4 ∧ Below W.heap.size W w1) :
    w2.cell? p1 = some x1 ∧ w2.cell? p2 = some x2 ∧ w2.cell? p3 = some x3 ∧ w2.cell? p4 = some x4 ∧ Below W.heap.size W w2 := ⟨keepCell hb h.1, keepCell hb h.2.1, keepCell hb h.2.2.1, keepCell hb h.2.2.2.1, keepBelow hb h.2.2.2.2⟩

theorem keep5 {w1 w2 W : World} {p1 p2 p3 p4 p5 : Addr} {x1 x2 x3 x4 x5 : Value} (hb : Below w1.heap.size w1 w2) (h : w1.cell? p1 = some x1 ∧ w1.cell? p2 = some x2 ∧ w1.cell? p3 = some x3 ∧ w1.cell? p4 = some x4 ∧ w1.cell? p5 = some x5 ∧ Below W.heap.size W w1) :
    w2.cell? p1 = some x1 ∧ w2.cell? p2 = some x2 ∧ w2.cell? p3 = some x3 ∧ w2.cell? p4 = some x4 ∧ w2.cell? p5 = some x5 ∧ Below W.heap.size W w2 := ⟨keepCell hb h.1, keepCell hb h.2.1, keepCell hb h.2.2.1, keepCell hb h.2.2.2.1, keepCell hb h.2.2.2.2.1, keepBelow hb h.2.2.2.2.2⟩

/-- the weight's line -/
def f1B (m : Mat) : Int := wrap64 (-(tot m.content).lo)

theorem lines1_any (m : Mat) (v : Value) (w : World) (h : VMat w v m) :
    Calls Try.prog 90 #[v] w fun e w' => e = .returned (.int .i64 (f1B m)) ∧ Below w.heap.size w w' := by
  obtain ⟨c, rfl, hc, hs⟩ := h
  obtain ⟨ac, kc, rfl, -, -, -⟩ := id hc
  have hA := below_box w (.cells #[.string m.name, .int .i64 m.price, .int .i64 m.redox, .int .i64 m.least, .int .i64 m.most, .int .i64 m.step, .slice ac m.content.length kc] 58)
  have hfd := fun w => field_lo (.int .i64 (tot m.content).lo) (.int .i64 (tot m.content).hi) w
  go_enter Try.func90, Try.ntmps90
  go_wp2_with fail
  refine (total_any _ m.content _ (hc.mono (ext_of_below hA))).mono ?_
  rintro e w1 ⟨rfl, hb⟩
  have hA1 := hA.trans (hb.mono (by simp))
  clear hb hA
  go_wp2
  go_ret
  exact ⟨rfl, hA1⟩

def f2B (b : Bat) (m : Mat) : Int := wrap64 (wrap64 (1000000 * m.redox) + grB (wrap64 (-b.redox.hi)) (tot m.content))

theorem lines2_any (m : Mat) (b : Bat) (p : Nat) (v : Value) (w : World) (h : VMat w v m) (hp : w.cell? ⟨p, 5, none⟩ = some (.int .i64 b.redox.hi)) :
    Calls Try.prog 94 #[v, .pointer (some ⟨p, 0, none⟩)] w fun e w' => e = .returned (.int .i64 (f2B b m)) ∧ Below w.heap.size w w' := by
  obtain ⟨c, rfl, hc, hs⟩ := h
  obtain ⟨ac, kc, rfl, -, -, -⟩ := id hc
  have hA := below_box w (.cells #[.string m.name, .int .i64 m.price, .int .i64 m.redox, .int .i64 m.least, .int .i64 m.most, .int .i64 m.step, .slice ac m.content.length kc] 58)
  have hB := Blk.new w #[.string m.name, .int .i64 m.price, .int .i64 m.redox, .int .i64 m.least, .int .i64 m.most, .int .i64 m.step, .slice ac m.content.length kc] 58
  have hcW := hc.mono (ext_of_below hA)
  have hpW := ext_of_below hA _ _ hp
  have hbl := cell_lt hp
  have c2 := hB.cell 2 (.int .i64 m.redox) rfl
  have c6 := hB.cell 6 (.slice ac m.content.length kc) rfl
  simp only at hbl
  go_enter Try.func94, Try.ntmps94
  go_wp2_with fail
  generalize w.alloc (.cells #[.string m.name, .int .i64 m.price, .int .i64 m.redox, .int .i64 m.least, .int .i64 m.most, .int .i64 m.step, .slice ac m.content.length kc] 58) = W at *
  have hI : Below W.heap.size W W.drew := (Below.refl _ _).drew
  clear hB hp hc
  go_region_held3 (fun w' => w'.cell? ⟨w.heap.size, 2, none⟩ = some (.int .i64 m.redox) ∧ w'.cell? ⟨w.heap.size, 6, none⟩ = some (.slice ac m.content.length kc) ∧ w'.cell? ⟨p, 5, none⟩ = some (.int .i64 b.redox.hi) ∧ Below W.heap.size W w')
    (first | go_keep | (exact keep3 (by assumption) (by assumption)) | (refine ⟨?_, ?_, ?_, ?_⟩ <;> first | (exact keepCell (by assumption) (by assumption)) | (exact keepBelow (by assumption) (by assumption))))
    (first
      | (go_at_call 48; refine (total_any _ m.content _ ?_).mono ?_; (exact hcW.mono (ext_of_below (by assumption))); rintro e w' ⟨rfl, hb⟩)
      | (go_at_call 95; refine (greatestS _ (tot m.content) _).mono ?_; rintro e w' ⟨rfl, hb⟩))
  go_wp2
  go_ret
  refine ⟨ret_int (by simp only [IntWalk.i64_left, f2B]), hA.trans (Below.mono (w := W) ?_ hA.size)⟩
  exact (by assumption : _ ∧ _ ∧ _ ∧ Below W.heap.size W _).2.2.2

def f3B (b : Bat) (m : Mat) : Int := wrap64 (grB b.redox.lo (tot m.content) - wrap64 (1000000 * m.redox))

theorem lines3_any (m : Mat) (b : Bat) (p : Nat) (v : Value) (w : World) (h : VMat w v m) (hp : w.cell? ⟨p, 4, none⟩ = some (.int .i64 b.redox.lo)) :
    Calls Try.prog 96 #[v, .pointer (some ⟨p, 0, none⟩)] w fun e w' => e = .returned (.int .i64 (f3B b m)) ∧ Below w.heap.size w w' := by
  obtain ⟨c, rfl, hc, hs⟩ := h
  obtain ⟨ac, kc, rfl, -, -, -⟩ := id hc
  have hA := below_box w (.cells #[.string m.name, .int .i64 m.price, .int .i64 m.redox, .int .i64 m.least, .int .i64 m.most, .int .i64 m.step, .slice ac m.content.length kc] 58)
  have hB := Blk.new w #[.string m.name, .int .i64 m.price, .int .i64 m.redox, .int .i64 m.least, .int .i64 m.most, .int .i64 m.step, .slice ac m.content.length kc] 58
  have hcW := hc.mono (ext_of_below hA)
  have hpW := ext_of_below hA _ _ hp
  have hbl := cell_lt hp
  have c2 := hB.cell 2 (.int .i64 m.redox) rfl
  have c6 := hB.cell 6 (.slice ac m.content.length kc) rfl
  simp only at hbl
  go_enter Try.func96, Try.ntmps96
  go_wp2_with fail
  generalize w.alloc (.cells #[.string m.name, .int .i64 m.price, .int .i64 m.redox, .int .i64 m.least, .int .i64 m.most, .int .i64 m.step, .slice ac m.content.length kc] 58) = W at *
  have hI : Below W.heap.size W W.drew := (Below.refl _ _).drew
  clear hB hp hc
  go_region_held3 (fun w' => w'.cell? ⟨w.heap.size, 2, none⟩ = some (.int .i64 m.redox) ∧ w'.cell? ⟨w.heap.size, 6, none⟩ = some (.slice ac m.content.length kc) ∧ w'.cell? ⟨p, 4, none⟩ = some (.int .i64 b.redox.lo) ∧ Below W.heap.size W w')
    (first | go_keep | (exact keep3 (by assumption) (by assumption)) | (refine ⟨?_, ?_, ?_, ?_⟩ <;> first | (exact keepCell (by assumption) (by assumption)) | (exact keepBelow (by assumption) (by assumption))))
    (first
      | (go_at_call 48; refine (total_any _ m.content _ ?_).mono ?_; (exact hcW.mono (ext_of_below (by assumption))); rintro e w' ⟨rfl, hb⟩)
      | (go_at_call 95; refine (greatestS _ (tot m.content) _).mono ?_; rintro e w' ⟨rfl, hb⟩))
  go_wp2
  go_ret
  refine ⟨ret_int (by simp only [IntWalk.i64_left, f3B]), hA.trans (Below.mono (w := W) ?_ hA.size)⟩
  exact (by assumption : _ ∧ _ ∧ _ ∧ Below W.heap.size W _).2.2.2

theorem isFn_lines1 : IsFn 90 := fun xs w => by kernel_rfl
theorem isFn_lines2 : IsFn 94 := fun xs w => by kernel_rfl
theorem isFn_lines3 : IsFn 96 := fun xs w => by kernel_rfl

end Go.Proofs.Ytnnkcbeadiembaa
