/- Lists of spans compared; no statement is proved here. -/
import Derived.Test.YtmmlocjiegkjeaaGreatDoorSOwn
import Derived.WalkLawsBesides
import Derived.Handy
namespace Go.Proofs.YtmmlocjiegkjeaaGreatDoor
open Go.RowKit Go.PlainAid
set_option linter.unusedVariables false
theorem neq_span (x1 x2 y1 y2 : Int) (w : World) : Sem.run Tryz.prog (Go.binOp .neq 30 (.agg #[.int .i64 x1, .int .i64 x2]) (.agg #[.int .i64 y1, .int .i64 y2])) w = .ok (.bool (!(x1 == y1 && x2 == y2))) w := by
  rw [run_neq_struct]
  simp [go_sem]
  by_cases h1 : x1 = y1 <;> by_cases h2 : x2 = y2 <;> simp [h1, h2]

def eqTo (a b : List Sp) (k : Nat) : Prop := ∀ j, j < k → a[j]? = b[j]?

set_option maxRecDepth 100000 in
theorem sameSpans_any (v1 v2 : Value) (a b : List Sp) (w : World) (ha : RSps w v1 a) (hb : RSps w v2 b) :
    Calls Tryz.prog 14 #[v1, v2] w fun e w' => e = .returned (.bool (decide (a = b))) ∧ Below w.heap.size w w' := by
  obtain ⟨pa, ka, rfl, -, ⟨-, la⟩, hal⟩ := ha
  obtain ⟨pb, kb, rfl, -, ⟨-, lb⟩, hbl⟩ := hb
  by_cases hl : a.length = b.length
  case neg =>
    have hne : decide (a = b) = false := decide_eq_false fun e => hl (by rw [e])
    rw [hne]
    have hq : ((a.length : Int) != (b.length : Int)) = true := by rw [bne_iff_ne]; omega
    clear hl hne hal hbl
    go_enter Tryz.func14, Tryz.ntmps14
    go_wp2
    go_ret
    exact ⟨rfl, Below.refl _ _⟩
  have hq : ((a.length : Int) != (b.length : Int)) = false := by rw [bne_eq_false_iff_eq]; omega
  have hle : a.length ≤ b.length := by omega
  have HL := Lib.hid hl
  clear hl
  go_enter Tryz.func14, Tryz.ntmps14
  go_wp2
  go_loopw [5] (fun i wr => ∃ (k : Nat), k ≤ a.length ∧ i = .int .i64 k ∧ Hid (eqTo a b k) ∧ Below w.heap.size w wr) (fun i _ => a.length - (intOf i).toNat)
  case atStart => exact ⟨0, Nat.zero_le _, rfl, fun j hj => by omega, Below.refl _ _⟩
  case round =>
    obtain ⟨k, hk, rfl, hx, hB⟩ := hrel
    clear hq
    by_cases hlt : k < a.length
    · obtain ⟨b1, o1, rfl, q1, q2, -, -⟩ := hal k hlt
      obtain ⟨b2, o2, rfl, s1, s2, -, -⟩ := hbl k (by omega)
      have e1 : a[k]? = some (a[k]'hlt) := List.getElem?_eq_getElem hlt
      have e2 : b[k]? = some (b[k]'(by omega)) := List.getElem?_eq_getElem (by omega)
      have E1 := Lib.hid e1
      have E2 := Lib.hid e2
      have l1 := cell_lt q1
      have l2 := cell_lt s1
      simp only at q1 q2 s1 s2 l1 l2
      have k1 := ext_of_below hB _ _ q1
      have k2 := ext_of_below hB _ _ q2
      have k3 := ext_of_below hB _ _ s1
      have k4 := ext_of_below hB _ _ s2
      have i1 : (0 : Int) ≤ (k : Int) := Int.natCast_nonneg _
      have i2 : (k : Int) < (a.length : Int) := by omega
      have i3 : (k : Int) < (b.length : Int) := by omega
      clear hal hbl e1 e2 q1 q2 s1 s2
      generalize a[k]'hlt = x at *
      generalize b[k]'(by omega) = y at *
      have hneq := fun w => neq_span x.lo x.hi y.lo y.hi w
      go_wp2_with fail
      have hb0 : Below w.heap.size w wr.drew := hB.drew
      cases hxy : (x.lo == y.lo && x.hi == y.hi) with
      | true =>
        have heq : x = y := by
          simp only [Bool.and_eq_true, beq_iff_eq] at hxy
          cases x; cases y; simp_all
        have hst : eqTo a b (k + 1) := fun j hj => by
          by_cases hjk : j = k
          · rw [hjk, E1.out, E2.out, heq]
          · exact hx.out j (by omega)
        have HS := Lib.hid hst
        simp only [hxy] at hneq
        clear hst heq hxy hx
        go_region_held3 (fun w' => w'.cell? ⟨b1, o1 + k * 2, none⟩ = some (.int .i64 x.lo) ∧ w'.cell? ⟨b1, o1 + k * 2 + 1, none⟩ = some (.int .i64 x.hi) ∧ w'.cell? ⟨b2, o2 + k * 2, none⟩ = some (.int .i64 y.lo) ∧ w'.cell? ⟨b2, o2 + k * 2 + 1, none⟩ = some (.int .i64 y.hi))
          (first | go_keep) (fail)
        go_wp2
        go_roundw
        case rel => exact ⟨k + 1, by omega, by go_num, HS, hb0⟩
        case measure => simp [intOf]; omega
      | false =>
        have hne : decide (a = b) = false := decide_eq_false fun e => by
          have h1 := E1.out
          rw [e, E2.out] at h1
          simp only [Option.some.injEq] at h1
          subst h1
          simp at hxy
        have HN := Lib.hid hne
        simp only [hxy] at hneq
        clear hxy hne
        go_region_held3 (fun w' => w'.cell? ⟨b1, o1 + k * 2, none⟩ = some (.int .i64 x.lo) ∧ w'.cell? ⟨b1, o1 + k * 2 + 1, none⟩ = some (.int .i64 x.hi) ∧ w'.cell? ⟨b2, o2 + k * 2, none⟩ = some (.int .i64 y.lo) ∧ w'.cell? ⟨b2, o2 + k * 2 + 1, none⟩ = some (.int .i64 y.hi))
          (first | go_keep) (fail)
        go_wp2
        go_ret
        exact ⟨ret_bool HN.out.symm, hb0⟩
    · have heq : decide (a = b) = true := decide_eq_true (by
        apply List.ext_getElem?
        intro j
        by_cases hj : j < a.length
        · exact hx.out j (by omega)
        · rw [List.getElem?_eq_none (by omega), List.getElem?_eq_none (by have := HL.out; omega)])
      have HN := Lib.hid heq
      clear heq hx hal hbl
      go_wp2
      go_ret
      exact ⟨ret_bool HN.out.symm, hB⟩

end Go.Proofs.YtmmlocjiegkjeaaGreatDoor
