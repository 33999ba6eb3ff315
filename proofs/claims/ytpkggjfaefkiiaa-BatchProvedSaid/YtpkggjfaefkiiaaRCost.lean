/- Prices and Leasts, and what a recipe costs; no statement is proved here. -/
import Derived.Test.YtpkggjfaefkiiaaRPass
import Derived.Test.YtpkggjfaefkiiaaPL
namespace Go.Proofs.Ytpkggjfaefkiiaa
open Go.RowKit Go.PlainAid
set_option linter.unusedVariables false

def RetNE (w : World) (p : Int × Int) (e : Ending) (w' : World) : Prop := e = .returned (.tuple #[.int .i64 p.1, .int .i64 p.2]) ∧ Below w.heap.size w w'
def costB (b : Bat) (r : List Int) : Int × Int := if bothB b r = 0 then (dotB (b.mats.map Mat.price) r, 0) else (0, bothB b r)

set_option maxRecDepth 100000 in
theorem bcost_any (v rv : Value) (b : Bat) (r : List Int) (w : World) (h : RBat w v b) (hr : RInts w rv r) :
    Calls Try.prog 34 #[v, rv] w (RetNE w (costB b r)) := by
  obtain ⟨a0, k0, a1, k1, a2, k2, a3, k3, rfl⟩ := h.agg
  obtain ⟨ar, kr, rfl, -, -, -⟩ := id hr
  have hA := below_box w (.cells #[.slice a0 b.oxides.length k0, .slice a1 b.mats.length k1, .slice a2 b.shares.length k2, .slice a3 b.props.length k3, .int .i64 b.redox.lo, .int .i64 b.redox.hi, .int .i64 b.wanted] 29)
  have hB := Blk.new w #[.slice a0 b.oxides.length k0, .slice a1 b.mats.length k1, .slice a2 b.shares.length k2, .slice a3 b.props.length k3, .int .i64 b.redox.lo, .int .i64 b.redox.hi, .int .i64 b.wanted] 29
  go_enter Try.func34, Try.ntmps34
  go_wp2_with fail
  refine (checkBoth_any _ _ b r _ (h.mono (ext_of_below hA)) (hr.mono (ext_of_below hA))).mono ?_
  rintro e w1 ⟨rfl, hb⟩
  have hA1 := hA.trans (hb.mono (by simp))
  have hB1 := hB.below hb (by simp)
  clear hb hA hB
  by_cases e1 : bothB b r = 0
  case neg =>
    have e1' : (bothB b r != 0) = true := by simp [e1]
    have hfin := Lib.hid (show costB b r = (0, bothB b r) by simp [costB, e1])
    clear hB1 e1
    go_wp2
    go_ret2
    unfold RetNE
    rw [hfin.out]
    exact ⟨rfl, hA1⟩
  have e1' : (bothB b r != 0) = false := by simp [e1]
  obtain ⟨g1, g2, g3⟩ := rec_len e1
  have hok := ok_of g1
  have hfin := Lib.hid (show costB b r = (dotB (b.mats.map Mat.price) r, 0) by simp [costB, e1])
  have c0 : w1.cell? ⟨w.heap.size, 0, none⟩ = some (.slice a0 b.oxides.length k0) := hB1.cell 0 _ rfl
  have c1 : w1.cell? ⟨w.heap.size, 1, none⟩ = some (.slice a1 b.mats.length k1) := hB1.cell 1 _ rfl
  have c2 : w1.cell? ⟨w.heap.size, 2, none⟩ = some (.slice a2 b.shares.length k2) := hB1.cell 2 _ rfl
  have c3 : w1.cell? ⟨w.heap.size, 3, none⟩ = some (.slice a3 b.props.length k3) := hB1.cell 3 _ rfl
  have c4 : w1.cell? ⟨w.heap.size, 4, none⟩ = some (.int .i64 b.redox.lo) := hB1.cell 4 _ rfl
  have c5 : w1.cell? ⟨w.heap.size, 5, none⟩ = some (.int .i64 b.redox.hi) := hB1.cell 5 _ rfl
  have c6 : w1.cell? ⟨w.heap.size, 6, none⟩ = some (.int .i64 b.wanted) := hB1.cell 6 _ rfl
  have hpr := prices_any _ b w1 (h.mono (ext_of_below hA1)) (by have := hok.mt; omega) (fun m hm => by have := (hok.mats m hm).price; unfold I64; omega)
  have G2 := Lib.hid g2
  clear e1 g1 g2 g3
  go_wp2_with fail
  refine hpr.mono ?_
  rintro e w2 ⟨vp, rfl, hvp, hb2⟩
  have hA2 := hA1.trans (hb2.mono hA1.size)
  have hvp2 := hvp.mono (vis_ext _ _)
  clear c0 c1 c2 c3 c4 c5 c6 hB1 hA1 hb2 hpr hvp
  go_wp2_with fail
  refine (dot_any _ _ (b.mats.map Mat.price) r _ hvp2 (hr.mono (ext_of_below hA2)) (by rw [List.length_map, G2.out]; exact Nat.le_refl _)).mono ?_
  rintro e w3 ⟨rfl, rfl⟩
  clear hvp2
  go_wp2
  go_ret2
  unfold RetNE
  rw [hfin.out]
  exact ⟨rfl, hA2⟩

set_option maxRecDepth 100000 in
theorem rcostI_any (v rv : Value) (b : Bat) (r : List Int) (w : World) (h : RBat w v b) (hr : RInts w rv r) (hl : r.length = b.mats.length) :
    Calls Try.prog 81 #[v, rv] w (RetN w (dotB (b.mats.map Mat.price) r)) := by
  obtain ⟨a0, k0, a1, k1, a2, k2, a3, k3, rfl⟩ := h.agg
  obtain ⟨ar, kr, rfl, -, ⟨-, mr⟩, hrl⟩ := hr
  obtain ⟨w0, w1', w2', w3', e, -, q1, -⟩ := id h
  simp only [Value.agg.injEq, Array.mk.injEq, List.cons.injEq, and_true] at e
  obtain ⟨-, rfl, -⟩ := e
  obtain ⟨pm, km, em, -, ⟨-, l1⟩, hl1⟩ := q1
  simp only [Value.slice.injEq, true_and] at em
  obtain ⟨rfl, rfl⟩ := em
  have hA := below_box w (.cells #[.slice a0 b.oxides.length k0, .slice a1 b.mats.length k1, .slice a2 b.shares.length k2, .slice a3 b.props.length k3, .int .i64 b.redox.lo, .int .i64 b.redox.hi, .int .i64 b.wanted] 29)
  have hB := Blk.new w #[.slice a0 b.oxides.length k0, .slice a1 b.mats.length k1, .slice a2 b.shares.length k2, .slice a3 b.props.length k3, .int .i64 b.redox.lo, .int .i64 b.redox.hi, .int .i64 b.wanted] 29
  have HL := Lib.hid hl
  have hl2 : r.length ≤ b.mats.length := by omega
  clear hl h
  go_enter Try.func81, Try.ntmps81
  go_wp2
  generalize w.alloc (.cells #[.slice a0 b.oxides.length k0, .slice a1 b.mats.length k1, .slice a2 b.shares.length k2, .slice a3 b.props.length k3, .int .i64 b.redox.lo, .int .i64 b.redox.hi, .int .i64 b.wanted] 29) = W at *
  go_loopw [5, 6] (fun n i wr => ∃ (k : Nat) (x : Int), k ≤ r.length ∧ i = .int .i64 k ∧ n = .int .i64 x ∧ Hid (x = wrap64 (dotTo (b.mats.map Mat.price) r k)) ∧ Below W.heap.size W wr) (fun _ i _ => r.length - (intOf i).toNat)
  case atStart => exact ⟨0, 0, Nat.zero_le _, rfl, rfl, by simp [wrap64, Hid, dotTo], Below.refl _ _⟩
  case round =>
    obtain ⟨k, x, hk, rfl, rfl, hx, hb⟩ := hrel
    have hf := hA.trans (hb.mono hA.size)
    by_cases hlt : k < r.length
    · have hBr := hB.below hb hB.lt
      obtain ⟨b1, o1, rfl, c, ⟨-, g1, -⟩, -⟩ := hl1 k (by omega)
      obtain ⟨b2, o2, rfl, g2, -⟩ := hrl k hlt
      have hst := dot_step2 (b.mats.map Mat.price) r k x hx.out
      rw [show (b.mats.map Mat.price).getD k 0 = (b.mats[k]'(by omega)).price by simp [List.getD, List.getElem?_eq_getElem (show k < b.mats.length by omega)], show r.getD k 0 = r[k]'hlt by simp [List.getD, List.getElem?_eq_getElem hlt]] at hst
      have HS := Lib.hid hst
      simp only at g1
      simp only [Nat.mul_one] at g2
      replace g1 := ext_of_below hf _ _ g1
      replace g2 := ext_of_below hf _ _ g2
      have c1 : wr.cell? ⟨w.heap.size, 1, none⟩ = some (.slice (some ⟨b1, o1, none⟩) b.mats.length k1) := hBr.cell 1 _ rfl
      have j1 : (0 : Int) ≤ (k : Int) := Int.natCast_nonneg _
      have j2 : (k : Int) < (r.length : Int) := by omega
      have j3 : (k : Int) < (b.mats.length : Int) := by omega
      clear hl1 hrl hst hx hBr hB
      generalize b.mats[k]'(by omega) = y at *
      generalize r[k] = z at *
      go_wp2_with fail
      go_quiet (fail)
      go_wp2
      go_roundw
      case rel => exact ⟨k + 1, _, by omega, by go_num, rfl, HS, grown_drewN hb⟩
      case measure => simp [intOf]; omega
    · have hxx := hx.out
      rw [show k = (b.mats.map Mat.price).length from by rw [List.length_map]; have := HL.out; omega] at hxx
      have HX := Lib.hid hxx
      clear hx hxx hl1 hrl
      go_wp2
      go_ret
      exact ⟨ret_int HX.out, hf⟩

set_option maxRecDepth 100000 in
theorem rcost_any (v rv : Value) (b : Bat) (r : List Int) (w : World) (h : RBat w v b) (hr : RInts w rv r) :
    Calls Try.prog 35 #[v, rv] w (RetNE w (costB b r)) := by
  obtain ⟨a0, k0, a1, k1, a2, k2, a3, k3, rfl⟩ := h.agg
  obtain ⟨ar, kr, rfl, -, -, -⟩ := id hr
  have hA := below_box w (.cells #[.slice a0 b.oxides.length k0, .slice a1 b.mats.length k1, .slice a2 b.shares.length k2, .slice a3 b.props.length k3, .int .i64 b.redox.lo, .int .i64 b.redox.hi, .int .i64 b.wanted] 29)
  have hB := Blk.new w #[.slice a0 b.oxides.length k0, .slice a1 b.mats.length k1, .slice a2 b.shares.length k2, .slice a3 b.props.length k3, .int .i64 b.redox.lo, .int .i64 b.redox.hi, .int .i64 b.wanted] 29
  go_enter Try.func35, Try.ntmps35
  go_wp2_with fail
  refine (rasked_any _ _ b r _ (h.mono (ext_of_below hA)) (hr.mono (ext_of_below hA))).mono ?_
  rintro e w1 ⟨rfl, hb⟩
  have hA1 := hA.trans (hb.mono (by simp))
  have hB1 := hB.below hb (by simp)
  clear hb hA hB
  by_cases e1 : bothB b r = 0
  case neg =>
    have e1' : (bothB b r != 0) = true := by simp [e1]
    have hfin := Lib.hid (show costB b r = (0, bothB b r) by simp [costB, e1])
    clear hB1 e1
    go_wp2
    go_ret2
    unfold RetNE
    rw [hfin.out]
    exact ⟨rfl, hA1⟩
  have e1' : (bothB b r != 0) = false := by simp [e1]
  obtain ⟨g1, g2, g3⟩ := rec_len e1
  have hok := ok_of g1
  have hfin := Lib.hid (show costB b r = (dotB (b.mats.map Mat.price) r, 0) by simp [costB, e1])
  have c0 : w1.cell? ⟨w.heap.size, 0, none⟩ = some (.slice a0 b.oxides.length k0) := hB1.cell 0 _ rfl
  have c1 : w1.cell? ⟨w.heap.size, 1, none⟩ = some (.slice a1 b.mats.length k1) := hB1.cell 1 _ rfl
  have c2 : w1.cell? ⟨w.heap.size, 2, none⟩ = some (.slice a2 b.shares.length k2) := hB1.cell 2 _ rfl
  have c3 : w1.cell? ⟨w.heap.size, 3, none⟩ = some (.slice a3 b.props.length k3) := hB1.cell 3 _ rfl
  have c4 : w1.cell? ⟨w.heap.size, 4, none⟩ = some (.int .i64 b.redox.lo) := hB1.cell 4 _ rfl
  have c5 : w1.cell? ⟨w.heap.size, 5, none⟩ = some (.int .i64 b.redox.hi) := hB1.cell 5 _ rfl
  have c6 : w1.cell? ⟨w.heap.size, 6, none⟩ = some (.int .i64 b.wanted) := hB1.cell 6 _ rfl
  have hco := rcostI_any _ _ b r w1 (h.mono (ext_of_below hA1)) (hr.mono (ext_of_below hA1)) g2
  clear e1 g1 g2 g3
  go_wp2_with fail
  refine hco.mono ?_
  rintro e w2 ⟨rfl, hb2⟩
  have hA2 := hA1.trans (hb2.mono hA1.size)
  clear c0 c1 c2 c3 c4 c5 c6 hB1 hA1 hb2 hco
  go_wp2
  go_ret2
  unfold RetNE
  rw [hfin.out]
  exact ⟨rfl, hA2⟩

end Go.Proofs.Ytpkggjfaefkiiaa
