/- Where of package forming; no statement is proved here. -/
import Derived.Test.YtnldenjdbgfgmaaFmAt
namespace Go.Proofs.Ytnldenjdbgfgmaa
open Go.RowKit Go.PlainAid
set_option linter.unusedVariables false
set_option linter.unusedSimpArgs false

def TimeOk (tn td : Int) : Prop := (1 ≤ td ∧ td ≤ 1000000 ∧ gI tn td = 1) ∧ (-1000000000 ≤ tn ∧ tn ≤ 1000000000)
/-- what Where answers. -/
def WhereA (c h : Int) (l : List Sp) (tn td : Int) (e : Ending) : Prop :=
  (chkM c h l ≠ 0 ∧ e = .returned (.tuple #[rtV ⟨0, 0⟩, .int .i64 (chkM c h l)]))
  ∨ (chkM c h l = 0 ∧ ¬ TimeOk tn td ∧ e = .returned (.tuple #[rtV ⟨0, 0⟩, .int .i64 1]))
  ∨ (chkM c h l = 0 ∧ TimeOk tn td ∧ ∃ i, LegIs c h l td (tn % (c * td)) i ∧ e = .returned (.tuple #[rtV (posF (lgA h l i) (lgB c h l i) td (tn % (c * td))), .int .i64 0]))

set_option maxHeartbeats 4000000 in
set_option maxRecDepth 100000 in
theorem where_any (c h : Int) (a : Option Addr) (cap : Nat) (l : List Sp) (tn td : Int) (w : World) (hr : RSps w (.slice a l.length cap) l) (htn : I64 tn) :
    Calls Try.prog 9 #[.int .i64 c, .int .i64 h, .slice a l.length cap, .agg #[.int .i64 tn, .int .i64 td]] w fun e w' => WhereA c h l tn td e ∧ Below w.heap.size w w' := by
  have hA3 : Below w.heap.size w (((w.alloc (.cells #[.int .i64 tn, .int .i64 td] 24)).alloc (.cells #[.int .i64 0, .int .i64 0] 24)).alloc (.cells #[.int .i64 c, .int .i64 h, .slice a l.length cap] 55)) := ((below_box w _).alloc (by simp) _).alloc (by simp only [World.size_alloc]; omega) _
  have hT := ((Blk.new w #[.int .i64 tn, .int .i64 td] 24).alloc (.cells #[.int .i64 0, .int .i64 0] 24)).alloc (.cells #[.int .i64 c, .int .i64 h, .slice a l.length cap] 55)
  have hR := (Blk.new (w.alloc (.cells #[.int .i64 tn, .int .i64 td] 24)) #[.int .i64 0, .int .i64 0] 24).alloc (.cells #[.int .i64 c, .int .i64 h, .slice a l.length cap] 55)
  have hP := Blk.new ((w.alloc (.cells #[.int .i64 tn, .int .i64 td] 24)).alloc (.cells #[.int .i64 0, .int .i64 0] 24)) #[.int .i64 c, .int .i64 h, .slice a l.length cap] 55
  have hs3 : (((w.alloc (.cells #[.int .i64 tn, .int .i64 td] 24)).alloc (.cells #[.int .i64 0, .int .i64 0] 24)).alloc (.cells #[.int .i64 c, .int .i64 h, .slice a l.length cap] 55)).heap.size = w.heap.size + 3 := by simp
  replace hs3 := And.intro (Nat.le_of_eq hs3) (Nat.le_of_eq hs3.symm)
  simp only [World.size_alloc] at hR hP
  have p0 := hP.cell 0 _ rfl
  have p1 := hP.cell 1 _ rfl
  have p2 := hP.cell 2 _ rfl
  have hr3 := hr.mono (ext_of_below hA3)
  have HCk := Lib.hid (check_any c h a cap l _ hr3)
  unfold ptV at HCk
  go_enter Try.func9, Try.ntmps9
  go_wp2_with fail
  refine HCk.out.mono ?_
  rintro e w4 ⟨rfl, hb4⟩
  clear HCk p0 p1 p2
  have hA4 := hA3.trans (hb4.mono hA3.size)
  have hT4 := hT.below hb4 hT.lt
  have hR4 := hR.below hb4 hR.lt
  have hP4 := hP.below hb4 hP.lt
  have hs4 := hb4.size
  have hr4 := hr3.mono (ext_of_below hb4)
  clear hA3 hT hR hP hb4 hr3
  generalize ((w.alloc (.cells #[.int .i64 tn, .int .i64 td] 24)).alloc (.cells #[.int .i64 0, .int .i64 0] 24)).alloc (.cells #[.int .i64 c, .int .i64 h, .slice a l.length cap] 55) = w3 at *
  by_cases hc : chkM c h l = 0
  case neg =>
    obtain ⟨r0, r1, f0, f1, HE, C0, C1⟩ := store2 hA4 hR4 (by omega) (Below.refl _ _) (.int .i64 0) (.int .i64 0)
    have HW : Hid (WhereA c h l tn td (.returned (.tuple #[rtV ⟨0, 0⟩, .int .i64 (chkM c h l)]))) := Lib.hid (.inl ⟨hc, rfl⟩)
    obtain ⟨E, hE0⟩ : ∃ E, chkM c h l = E := ⟨_, rfl⟩
    rw [hE0] at hc HW ⊢
    clear hA4 hT4 hR4 hP4 hr4 hE0
    go_wp2
    have c0 := C0.out
    have c1 := C1.out
    have hE := HE.out
    clear C0 C1 HE r0 r1 f0 f1
    generalize ((w4.setCell ⟨w.heap.size + 1, 0, none⟩ (.int .i64 0)).setCell ⟨w.heap.size + 1, 1, none⟩ (.int .i64 0)) = WE at c0 c1 hE ⊢
    refine ⟨rfl, .tuple #[rtV ⟨0, 0⟩, .int .i64 E], ?_, HW.out, hE⟩
    simp [results, Try.results9, go_sem, c0, c1, rtV]
  rw [hc]
  have t0 := hT4.cell 0 _ rfl
  have t1 := hT4.cell 1 _ rfl
  go_wp2_with fail
  refine (isLowest_any tn td _ htn).mono ?_
  rintro e w5 ⟨rfl, hb5⟩
  have hA5 := hA4.trans (hb5.mono hA4.size)
  have hT5 := hT4.below hb5 hT4.lt
  have hR5 := hR4.below hb5 hR4.lt
  have hP5 := hP4.below hb5 hP4.lt
  have hs5 := hb5.size
  have hr5 := hr4.mono (ext_of_below hb5)
  clear t0 t1 hA4 hT4 hR4 hP4 hb5 hr4
  by_cases hl : 1 ≤ td ∧ td ≤ 1000000 ∧ gI tn td = 1
  case neg =>
    rw [decide_eq_false hl]
    obtain ⟨r0, r1, f0, f1, HE, C0, C1⟩ := store2 hA5 hR5 (by omega) (Below.refl _ _) (.int .i64 0) (.int .i64 0)
    have HW : Hid (WhereA c h l tn td (.returned (.tuple #[rtV ⟨0, 0⟩, .int .i64 1]))) := Lib.hid (.inr (.inl ⟨hc, fun x => hl x.1, rfl⟩))
    clear hA5 hT5 hR5 hP5 hr5 hl hc
    go_wp2
    have c0 := C0.out
    have c1 := C1.out
    have hE := HE.out
    clear C0 C1 HE r0 r1 f0 f1
    generalize ((w5.setCell ⟨w.heap.size + 1, 0, none⟩ (.int .i64 0)).setCell ⟨w.heap.size + 1, 1, none⟩ (.int .i64 0)) = WE at c0 c1 hE ⊢
    refine ⟨rfl, .tuple #[rtV ⟨0, 0⟩, .int .i64 1], ?_, HW.out, hE⟩
    simp [results, Try.results9, go_sem, c0, c1, rtV]
  rw [decide_eq_true hl]
  have t0 := hT5.cell 0 _ rfl
  have t1 := hT5.cell 1 _ rfl
  go_wp2_with fail
  refine (between_any tn (-1000000000) 1000000000 _).mono ?_
  rintro e w' ⟨rfl, hw'⟩
  subst hw'
  by_cases ht : -1000000000 ≤ tn ∧ tn ≤ 1000000000
  case neg =>
    have g1 : btw tn (-1000000000) 1000000000 = false := by simp [btw]; omega
    rw [g1]
    obtain ⟨r0, r1, f0, f1, HE, C0, C1⟩ := store2 hA5 hR5 (by omega) (Below.refl _ _) (.int .i64 0) (.int .i64 0)
    have HW : Hid (WhereA c h l tn td (.returned (.tuple #[rtV ⟨0, 0⟩, .int .i64 1]))) := Lib.hid (.inr (.inl ⟨hc, fun x => ht x.2, rfl⟩))
    clear hA5 hT5 hR5 hP5 hr5 hl hc t0 t1
    go_wp2
    have c0 := C0.out
    have c1 := C1.out
    have hE := HE.out
    clear C0 C1 HE r0 r1 f0 f1
    generalize ((w'.setCell ⟨w.heap.size + 1, 0, none⟩ (.int .i64 0)).setCell ⟨w.heap.size + 1, 1, none⟩ (.int .i64 0)) = WE at c0 c1 hE ⊢
    refine ⟨rfl, .tuple #[rtV ⟨0, 0⟩, .int .i64 1], ?_, HW.out, hE⟩
    simp [results, Try.results9, go_sem, c0, c1, rtV]
  have g1 : btw tn (-1000000000) 1000000000 = true := by simp [btw]; omega
  rw [g1]
  have p0 := hP5.cell 0 _ rfl
  have p1 := hP5.cell 1 _ rfl
  have p2 := hP5.cell 2 _ rfl
  have HAt := Lib.hid (at_any c h a cap l tn td _ hr5 hc ⟨hl.1, hl.2.1⟩ ht)
  unfold ptV at HAt
  go_wp2_with fail
  refine HAt.out.mono ?_
  rintro e w6 ⟨⟨i, hi, rfl⟩, hb6⟩
  clear HAt p0 p1 p2 t0 t1
  have HW : Hid (WhereA c h l tn td (.returned (.tuple #[rtV (posF (lgA h l i) (lgB c h l i) td (tn % (c * td))), .int .i64 0]))) := Lib.hid (.inr (.inr ⟨hc, ⟨hl, ht⟩, i, hi, rfl⟩))
  generalize posF (lgA h l i) (lgB c h l i) td (tn % (c * td)) = R at *
  obtain ⟨r0, r1, f0, f1, HE, C0, C1⟩ := store2 hA5 hR5 (by omega) hb6 (.int .i64 R.n) (.int .i64 R.d)
  clear hA5 hT5 hR5 hP5 hr5 hl hc hb6 hi
  unfold rtV
  go_wp2
  have c0 := C0.out
  have c1 := C1.out
  have hE := HE.out
  clear C0 C1 HE r0 r1 f0 f1
  generalize ((w6.setCell ⟨w.heap.size + 1, 0, none⟩ (.int .i64 R.n)).setCell ⟨w.heap.size + 1, 1, none⟩ (.int .i64 R.d)) = WE at c0 c1 hE ⊢
  refine ⟨rfl, .tuple #[rtV R, .int .i64 0], ?_, HW.out, hE⟩
  simp [results, Try.results9, go_sem, c0, c1, rtV]
end Go.Proofs.Ytnldenjdbgfgmaa
