/- Check, and the error of a recipe, by their contracts; no statement is proved here. -/
import Derived.Test.YtnnkcbeadiembaaCheckPrp
namespace Go.Proofs.Ytnnkcbeadiembaa
open Go.RowKit Go.PlainAid
set_option linter.unusedVariables false

def checkB (b : Bat) : Int :=
  if oxB b.oxides ≠ 0 then oxB b.oxides
  else if matsB b.mats b.oxides.length ≠ 0 then matsB b.mats b.oxides.length
  else if allWithinB b.shares b.oxides.length 0 1000 = false then 1
  else if prpsB b.props b.oxides.length ≠ 0 then prpsB b.props b.oxides.length
  else if (withinB b.redox (-10000) 10000 && betweenB b.wanted 1 10000) = false then 1 else 0

set_option maxRecDepth 100000 in
theorem check_any (v : Value) (b : Bat) (w : World) (h : RBat w v b) :
    Calls Try.prog 26 #[v] w fun e w' => e = .returned (.int .i64 (checkB b)) ∧ Below w.heap.size w w' := by
  obtain ⟨v0, v1, v2, v3, rfl, h0, h1, h2, h3, i1, i2, i3⟩ := h
  have h0S := h0
  have h1S := h1
  have h2S := h2
  have h3S := h3
  obtain ⟨a0, k0, rfl, -, ⟨-, l0⟩, -⟩ := h0S
  obtain ⟨a1, k1, rfl, -, ⟨-, l1⟩, -⟩ := h1S
  obtain ⟨a2, k2, rfl, -, ⟨-, l2⟩, -⟩ := h2S
  obtain ⟨a3, k3, rfl, -, ⟨-, l3⟩, -⟩ := h3S
  have hA := below_box w (.cells #[.slice a0 b.oxides.length k0, .slice a1 b.mats.length k1, .slice a2 b.shares.length k2, .slice a3 b.props.length k3, .int .i64 b.redox.lo, .int .i64 b.redox.hi, .int .i64 b.wanted] 29)
  have hB := Blk.new w #[.slice a0 b.oxides.length k0, .slice a1 b.mats.length k1, .slice a2 b.shares.length k2, .slice a3 b.props.length k3, .int .i64 b.redox.lo, .int .i64 b.redox.hi, .int .i64 b.wanted] 29
  have H0 := h0.mono (ext_of_below hA)
  go_enter Try.func26, Try.ntmps26
  go_wp2_with fail
  refine (checkOxides_any _ b.oxides _ H0).mono ?_
  rintro e w1 ⟨rfl, rfl⟩
  clear H0 h0
  by_cases e1 : oxB b.oxides = 0
  case neg =>
    have e1' : (oxB b.oxides != 0) = true := by simp [e1]
    have hfin := Lib.hid (show checkB b = oxB b.oxides by simp [checkB, e1])
    clear hB e1
    go_wp2
    go_ret
    exact ⟨ret_int hfin.out.symm, hA⟩
  have e1' : (oxB b.oxides != 0) = false := by simp [e1]
  have E1 := Lib.hid e1
  clear e1
  go_wp2_with fail
  refine (checkMaterials_any a0 _ k0 _ _ _ _ _ _ b.mats _ (h1.mono (ext_of_below hA)) l0).mono ?_
  rintro e w1 ⟨rfl, hb⟩
  have hA1 := hA.trans (hb.mono (by simp))
  have hB1 := hB.below hb (by simp)
  clear hb hB hA h1
  by_cases e2 : matsB b.mats b.oxides.length = 0
  case neg =>
    have e2' : (matsB b.mats b.oxides.length != 0) = true := by simp [e2]
    have hfin := Lib.hid (show checkB b = matsB b.mats b.oxides.length by simp [checkB, E1.out, e2])
    clear hB1 e2
    go_wp2
    go_ret
    exact ⟨ret_int hfin.out.symm, hA1⟩
  have e2' : (matsB b.mats b.oxides.length != 0) = false := by simp [e2]
  have E2 := Lib.hid e2
  clear e2
  have c0 : w1.cell? ⟨w.heap.size, 0, none⟩ = some (.slice a0 b.oxides.length k0) := hB1.cell 0 _ rfl
  have c2 : w1.cell? ⟨w.heap.size, 2, none⟩ = some (.slice a2 b.shares.length k2) := hB1.cell 2 _ rfl
  go_wp2_with fail
  refine (allWithin_any _ b.shares _ _ _ _ (h2.mono (ext_of_below hA1))).mono ?_
  rintro e w2 ⟨rfl, hb⟩
  have hA2 := hA1.trans (hb.mono hA1.size)
  have hB2 := hB1.below hb hB1.lt
  clear hb hB1 hA1 h2 c0 c2 e1' e2'
  cases e3 : allWithinB b.shares b.oxides.length 0 1000 with
  | false =>
    have hfin := Lib.hid (show checkB b = 1 by simp [checkB, E1.out, E2.out, e3])
    clear hB2
    go_wp2
    go_ret
    exact ⟨ret_int hfin.out.symm, hA2⟩
  | true =>
  have E3 := Lib.hid e3
  clear e3
  have c0 : w2.cell? ⟨w.heap.size, 0, none⟩ = some (.slice a0 b.oxides.length k0) := hB2.cell 0 _ rfl
  have c1 : w2.cell? ⟨w.heap.size, 1, none⟩ = some (.slice a1 b.mats.length k1) := hB2.cell 1 _ rfl
  have c2 : w2.cell? ⟨w.heap.size, 2, none⟩ = some (.slice a2 b.shares.length k2) := hB2.cell 2 _ rfl
  have c3 : w2.cell? ⟨w.heap.size, 3, none⟩ = some (.slice a3 b.props.length k3) := hB2.cell 3 _ rfl
  have c4 : w2.cell? ⟨w.heap.size, 4, none⟩ = some (.int .i64 b.redox.lo) := hB2.cell 4 _ rfl
  have c5 : w2.cell? ⟨w.heap.size, 5, none⟩ = some (.int .i64 b.redox.hi) := hB2.cell 5 _ rfl
  have c6 : w2.cell? ⟨w.heap.size, 6, none⟩ = some (.int .i64 b.wanted) := hB2.cell 6 _ rfl
  go_wp2_with fail
  refine (checkProperties_any a0 _ k0 _ _ _ _ _ _ b.props _ (h3.mono (ext_of_below hA2))).mono ?_
  rintro e w3 ⟨rfl, hb⟩
  have hA3 := hA2.trans (hb.mono hA2.size)
  have hB3 := hB2.below hb hB2.lt
  clear hb hB2 hA2 h3 c0 c1 c2 c3 c4 c5 c6
  by_cases e4 : prpsB b.props b.oxides.length = 0
  case neg =>
    have e4' : (prpsB b.props b.oxides.length != 0) = true := by simp [e4]
    have hfin := Lib.hid (show checkB b = prpsB b.props b.oxides.length by simp [checkB, E1.out, E2.out, E3.out, e4])
    clear hB3 e4
    go_wp2
    go_ret
    exact ⟨ret_int hfin.out.symm, hA3⟩
  have e4' : (prpsB b.props b.oxides.length != 0) = false := by simp [e4]
  have E4 := Lib.hid e4
  clear e4
  have c4 : w3.cell? ⟨w.heap.size, 4, none⟩ = some (.int .i64 b.redox.lo) := hB3.cell 4 _ rfl
  have c5 : w3.cell? ⟨w.heap.size, 5, none⟩ = some (.int .i64 b.redox.hi) := hB3.cell 5 _ rfl
  go_wp2_with fail
  refine (withinS b.redox _ _ _).mono ?_
  rintro e w4 ⟨rfl, hb⟩
  have hA4 := hA3.trans (hb.mono hA3.size)
  have hB4 := hB3.below hb hB3.lt
  clear hb hB3 hA3 c4 c5 e4'
  cases e5 : withinB b.redox (-10000) 10000 with
  | false =>
    have hfin := Lib.hid (show checkB b = 1 by simp [checkB, E1.out, E2.out, E3.out, E4.out, e5])
    clear hB4
    go_wp2
    go_ret
    exact ⟨ret_int hfin.out.symm, hA4⟩
  | true =>
  have c6 : w4.cell? ⟨w.heap.size, 6, none⟩ = some (.int .i64 b.wanted) := hB4.cell 6 _ rfl
  go_wp2_with fail
  refine (betweenN b.wanted _ _ _).mono ?_
  rintro e w5 ⟨rfl, rfl⟩
  cases e6 : betweenB b.wanted 1 10000 with
  | false =>
    have hfin := Lib.hid (show checkB b = 1 by simp [checkB, E1.out, E2.out, E3.out, E4.out, e6])
    clear hB4 c6
    go_wp2
    go_ret
    exact ⟨ret_int hfin.out.symm, hA4⟩
  | true =>
    have hfin := Lib.hid (show checkB b = 0 by simp [checkB, E1.out, E2.out, E3.out, E4.out, e5, e6])
    clear hB4 c6
    go_wp2
    go_ret
    exact ⟨ret_int hfin.out.symm, hA4⟩

def recB (b : Bat) (r : List Int) : Int := if allBetweenB r b.mats.length 0 10000 = true then 0 else 1

theorem checkRecipe_any (v rv : Value) (b : Bat) (r : List Int) (w : World) (h : RBat w v b) (hr : RInts w rv r) :
    Calls Try.prog 78 #[v, rv] w fun e w' => e = .returned (.int .i64 (recB b r)) ∧ Below w.heap.size w w' := by
  obtain ⟨v0, v1, v2, v3, rfl, h0, h1, h2, h3, i1, i2, i3⟩ := h
  obtain ⟨a0, k0, rfl, -, ⟨-, l0⟩, -⟩ := h0
  obtain ⟨a1, k1, rfl, -, ⟨-, l1⟩, -⟩ := h1
  obtain ⟨a2, k2, rfl, -, ⟨-, l2⟩, -⟩ := h2
  obtain ⟨a3, k3, rfl, -, ⟨-, l3⟩, -⟩ := h3
  have hA := below_box w (.cells #[.slice a0 b.oxides.length k0, .slice a1 b.mats.length k1, .slice a2 b.shares.length k2, .slice a3 b.props.length k3, .int .i64 b.redox.lo, .int .i64 b.redox.hi, .int .i64 b.wanted] 29)
  go_enter Try.func78, Try.ntmps78
  go_wp2_with fail
  refine (allBetween_any rv r _ _ _ _ (hr.mono (ext_of_below hA))).mono ?_
  rintro e w1 ⟨rfl, hb⟩
  have hA1 := hA.trans (hb.mono (by simp))
  clear hb hA
  cases e1 : allBetweenB r b.mats.length 0 10000 with
  | false =>
    have hfin := Lib.hid (show recB b r = 1 by simp [recB, e1])
    go_wp2
    go_ret
    exact ⟨ret_int hfin.out.symm, hA1⟩
  | true =>
    have hfin := Lib.hid (show recB b r = 0 by simp [recB, e1])
    go_wp2
    go_ret
    exact ⟨ret_int hfin.out.symm, hA1⟩

def bothB (b : Bat) (r : List Int) : Int := if checkB b ≠ 0 then checkB b else recB b r

theorem RBat.agg {w : World} {v : Value} {b : Bat} (h : RBat w v b) : ∃ a0 k0 a1 k1 a2 k2 a3 k3, v = .agg #[.slice a0 b.oxides.length k0, .slice a1 b.mats.length k1, .slice a2 b.shares.length k2, .slice a3 b.props.length k3, .int .i64 b.redox.lo, .int .i64 b.redox.hi, .int .i64 b.wanted] := by
  obtain ⟨v0, v1, v2, v3, rfl, h0, h1, h2, h3, i1, i2, i3⟩ := h
  obtain ⟨a0, k0, rfl, -, ⟨-, l0⟩, -⟩ := h0
  obtain ⟨a1, k1, rfl, -, ⟨-, l1⟩, -⟩ := h1
  obtain ⟨a2, k2, rfl, -, ⟨-, l2⟩, -⟩ := h2
  obtain ⟨a3, k3, rfl, -, ⟨-, l3⟩, -⟩ := h3
  exact ⟨a0, k0, a1, k1, a2, k2, a3, k3, rfl⟩

set_option maxRecDepth 100000 in
theorem checkBoth_any (v rv : Value) (b : Bat) (r : List Int) (w : World) (h : RBat w v b) (hr : RInts w rv r) :
    Calls Try.prog 38 #[v, rv] w fun e w' => e = .returned (.int .i64 (bothB b r)) ∧ Below w.heap.size w w' := by
  obtain ⟨a0, k0, a1, k1, a2, k2, a3, k3, rfl⟩ := h.agg
  have hA := below_box w (.cells #[.slice a0 b.oxides.length k0, .slice a1 b.mats.length k1, .slice a2 b.shares.length k2, .slice a3 b.props.length k3, .int .i64 b.redox.lo, .int .i64 b.redox.hi, .int .i64 b.wanted] 29)
  have hB := Blk.new w #[.slice a0 b.oxides.length k0, .slice a1 b.mats.length k1, .slice a2 b.shares.length k2, .slice a3 b.props.length k3, .int .i64 b.redox.lo, .int .i64 b.redox.hi, .int .i64 b.wanted] 29
  go_enter Try.func38, Try.ntmps38
  go_wp2_with fail
  refine (check_any _ b _ (h.mono (ext_of_below hA))).mono ?_
  rintro e w1 ⟨rfl, hb⟩
  have hA1 := hA.trans (hb.mono (by simp))
  have hB1 := hB.below hb (by simp)
  clear hb hA hB
  by_cases e1 : checkB b = 0
  case neg =>
    have e1' : (checkB b != 0) = true := by simp [e1]
    have hfin := Lib.hid (show bothB b r = checkB b by simp [bothB, e1])
    clear hB1 e1
    go_wp2
    go_ret
    exact ⟨ret_int hfin.out.symm, hA1⟩
  have e1' : (checkB b != 0) = false := by simp [e1]
  have hfin := Lib.hid (show bothB b r = recB b r by simp [bothB, e1])
  clear e1
  have c0 : w1.cell? ⟨w.heap.size, 0, none⟩ = some (.slice a0 b.oxides.length k0) := hB1.cell 0 _ rfl
  have c1 : w1.cell? ⟨w.heap.size, 1, none⟩ = some (.slice a1 b.mats.length k1) := hB1.cell 1 _ rfl
  have c2 : w1.cell? ⟨w.heap.size, 2, none⟩ = some (.slice a2 b.shares.length k2) := hB1.cell 2 _ rfl
  have c3 : w1.cell? ⟨w.heap.size, 3, none⟩ = some (.slice a3 b.props.length k3) := hB1.cell 3 _ rfl
  have c4 : w1.cell? ⟨w.heap.size, 4, none⟩ = some (.int .i64 b.redox.lo) := hB1.cell 4 _ rfl
  have c5 : w1.cell? ⟨w.heap.size, 5, none⟩ = some (.int .i64 b.redox.hi) := hB1.cell 5 _ rfl
  have c6 : w1.cell? ⟨w.heap.size, 6, none⟩ = some (.int .i64 b.wanted) := hB1.cell 6 _ rfl
  go_wp2_with fail
  refine (checkRecipe_any _ rv b r _ (h.mono (ext_of_below hA1)) (hr.mono (ext_of_below hA1))).mono ?_
  rintro e w2 ⟨rfl, hb⟩
  have hA2 := hA1.trans (hb.mono hA1.size)
  clear hb c0 c1 c2 c3 c4 c5 c6 hB1 hA1
  go_wp2
  go_ret
  exact ⟨ret_int hfin.out.symm, hA2⟩

end Go.Proofs.Ytnnkcbeadiembaa
