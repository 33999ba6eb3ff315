/- All spans, all numbers of a list between two; no statement is proved here. -/
import Derived.Test.YtnnkcbeadiembaaOx
namespace Go.Proofs.Ytnnkcbeadiembaa
open Go.RowKit Go.PlainAid
set_option linter.unusedVariables false

def betweenB (n a b : Int) : Bool := decide (a ≤ n) && decide (n ≤ b)
def withinB (s : Sp) (a b : Int) : Bool := decide (a ≤ s.lo) && decide (s.lo ≤ s.hi) && decide (s.hi ≤ b)
def allWithinB (l : List Sp) (n a b : Int) : Bool := ((l.length : Int) == n) && !(l.any fun s => !withinB s a b)
def allBetweenB (l : List Int) (n a b : Int) : Bool := ((l.length : Int) == n) && !(l.any fun s => !betweenB s a b)

theorem withinS (s : Sp) (a b : Int) (w : World) :
    Calls Try.prog 62 #[.agg #[.int .i64 s.lo, .int .i64 s.hi], .int .i64 a, .int .i64 b] w fun e w' => e = .returned (.bool (withinB s a b)) ∧ Below w.heap.size w w' := within_any _ _ _ _ _
theorem betweenN (n a b : Int) (w : World) :
    Calls Try.prog 39 #[.int .i64 n, .int .i64 a, .int .i64 b] w fun e w' => e = .returned (.bool (betweenB n a b)) ∧ w = w' := between_any _ _ _ _

theorem not_within (s : Sp) (k1 k2 : Nat) (a b : Int) (w : World) (h1 : w.cell? ⟨k1, 0, none⟩ = some (.int .i64 a)) (h2 : w.cell? ⟨k2, 0, none⟩ = some (.int .i64 b)) :
    Calls Try.prog 104 #[.agg #[.int .i64 s.lo, .int .i64 s.hi], .pointer (some ⟨k1, 0, none⟩), .pointer (some ⟨k2, 0, none⟩)] w fun e w' => e = .returned (.bool (!withinB s a b)) ∧ Below w.heap.size w w' := by
  have b1 := cell_lt h1
  have b2 := cell_lt h2
  simp only at b1 b2
  go_enter Try.func104, Try.ntmps104
  go_wp2_with fail
  refine (withinS s _ _ _).mono ?_
  rintro e w1 ⟨rfl, hb1⟩
  go_wp2
  go_ret
  exact ⟨rfl, (Below.alloc (Below.refl _ _) (Nat.le_refl _) _).trans (hb1.mono (by simp))⟩

theorem not_between (n : Int) (k1 k2 : Nat) (a b : Int) (w : World) (h1 : w.cell? ⟨k1, 0, none⟩ = some (.int .i64 a)) (h2 : w.cell? ⟨k2, 0, none⟩ = some (.int .i64 b)) :
    Calls Try.prog 81 #[.int .i64 n, .pointer (some ⟨k1, 0, none⟩), .pointer (some ⟨k2, 0, none⟩)] w fun e w' => e = .returned (.bool (!betweenB n a b)) ∧ Below w.heap.size w w' := by
  go_enter Try.func81, Try.ntmps81
  go_wp2_with fail
  refine (betweenN _ _ _ _).mono ?_
  rintro e w1 ⟨rfl, rfl⟩
  go_wp2
  go_ret
  exact ⟨rfl, Below.refl _ _⟩

theorem isFn_within : IsFn 104 := fun xs w => by kernel_rfl
theorem isFn_between : IsFn 81 := fun xs w => by kernel_rfl

theorem two_boxes (w : World) (a b : Value) (t u : TypeId) :
    Blk ((w.alloc (.cells #[a] t)).alloc (.cells #[b] u)) w.heap.size #[a] t ∧ Blk ((w.alloc (.cells #[a] t)).alloc (.cells #[b] u)) (w.heap.size + 1) #[b] u := by
  refine ⟨(Blk.new w #[a] t).alloc _, ?_⟩
  have := Blk.new (w.alloc (.cells #[a] t)) #[b] u
  simpa using this

theorem below_two (w : World) (a b : Obj) : Below w.heap.size w ((w.alloc a).alloc b) := by go_grown

theorem tells_within (l : List Sp) (a b : Int) (w : World) (t u : TypeId) :
    Tells 104 #[.pointer (some ⟨w.heap.size, 0, none⟩), .pointer (some ⟨w.heap.size + 1, 0, none⟩)] VSp ((w.alloc (.cells #[.int .i64 a] t)).alloc (.cells #[.int .i64 b] u)) l (fun s => !withinB s a b) := by
  rintro x v w1 hx ⟨rfl, _, _⟩ hb
  obtain ⟨B1, B2⟩ := two_boxes w (.int .i64 a) (.int .i64 b) t u
  exact not_within x _ _ a b w1 ((B1.below hb (by simp; omega)).cell 0 _ rfl) ((B2.below hb (by simp)).cell 0 _ rfl)

theorem tells_between (l : List Int) (a b : Int) (w : World) (t u : TypeId) :
    Tells 81 #[.pointer (some ⟨w.heap.size, 0, none⟩), .pointer (some ⟨w.heap.size + 1, 0, none⟩)] VInt ((w.alloc (.cells #[.int .i64 a] t)).alloc (.cells #[.int .i64 b] u)) l (fun s => !betweenB s a b) := by
  rintro x v w1 hx ⟨rfl, _⟩ hb
  obtain ⟨B1, B2⟩ := two_boxes w (.int .i64 a) (.int .i64 b) t u
  exact not_between x _ _ a b w1 ((B1.below hb (by simp; omega)).cell 0 _ rfl) ((B2.below hb (by simp)).cell 0 _ rfl)

theorem allWithin_any (v : Value) (l : List Sp) (n a b : Int) (w : World) (h : RSps w v l) :
    Calls Try.prog 60 #[v, .int .i64 n, .int .i64 a, .int .i64 b] w fun e w' => e = .returned (.bool (allWithinB l n a b)) ∧ Below w.heap.size w w' := by
  have hR := h
  obtain ⟨p, kap, rfl, hc1, ⟨hc2, hm⟩, hl⟩ := h
  clear hl
  cases hn : ((l.length : Int) == n) with
  | false =>
    have he : allWithinB l n a b = false := by simp only [allWithinB, hn, Bool.false_and]
    rw [he]; clear he hR
    go_enter Try.func60, Try.ntmps60
    go_wp2
    go_ret
    exact ⟨rfl, by go_grown⟩
  | true =>
    have he : allWithinB l n a b = !(l.any fun s => !withinB s a b) := by simp only [allWithinB, hn, Bool.true_and]
    rw [he]; clear he
    go_enter Try.func60, Try.ntmps60
    go_wp2_with fail
    refine (containsFunc_sp _ isFn_within _ (fun s => !withinB s a b) _ l _ (hR.mono (ext_of_below (below_two _ _ _))) (tells_within l a b w _ _)).mono ?_
    rintro e w1 ⟨rfl, hb1⟩
    go_wp2
    go_ret
    exact ⟨rfl, (below_two _ _ _).trans (hb1.mono (by simp; omega))⟩

theorem allBetween_any (v : Value) (l : List Int) (n a b : Int) (w : World) (h : RInts w v l) :
    Calls Try.prog 43 #[v, .int .i64 n, .int .i64 a, .int .i64 b] w fun e w' => e = .returned (.bool (allBetweenB l n a b)) ∧ Below w.heap.size w w' := by
  have hR := h
  obtain ⟨p, kap, rfl, hc1, ⟨hc2, hm⟩, hl⟩ := h
  clear hl
  cases hn : ((l.length : Int) == n) with
  | false =>
    have he : allBetweenB l n a b = false := by simp only [allBetweenB, hn, Bool.false_and]
    rw [he]; clear he hR
    go_enter Try.func43, Try.ntmps43
    go_wp2
    go_ret
    exact ⟨rfl, by go_grown⟩
  | true =>
    have he : allBetweenB l n a b = !(l.any fun s => !betweenB s a b) := by simp only [allBetweenB, hn, Bool.true_and]
    rw [he]; clear he
    go_enter Try.func43, Try.ntmps43
    go_wp2_with fail
    refine (containsFunc_int _ isFn_between _ (fun s => !betweenB s a b) _ l _ (hR.mono (ext_of_below (below_two _ _ _))) (tells_between l a b w _ _)).mono ?_
    rintro e w1 ⟨rfl, hb1⟩
    go_wp2
    go_ret
    exact ⟨rfl, (below_two _ _ _).trans (hb1.mono (by simp; omega))⟩

end Go.Proofs.Ytnnkcbeadiembaa
