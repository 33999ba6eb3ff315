/- The specification's Check and small functions of layer 5; no statement is proved here. -/
import Derived.Test.YtmmlocjiegkjeaaDoorSmall
import Derived.Handy
namespace Go.Proofs.YtmmlocjiegkjeaaDoor
open Go.RowKit Go.PlainAid
set_option linter.unusedVariables false

set_option maxRecDepth 100000 in
theorem rwithin_any (s : Sp) (l m : Int) (w : World) : Calls Tryd.prog 41 #[.agg #[.int .i64 s.lo, .int .i64 s.hi], .int .i64 l, .int .i64 m] w fun e w' => e = .returned (.bool (wi s l m)) ∧ Below w.heap.size w w' := by
  have hA := below_boxS w (.cells #[.int .i64 s.lo, .int .i64 s.hi] 29)
  by_cases h1 : l ≤ s.lo
  · by_cases h2 : s.lo ≤ s.hi
    · go_enter Tryd.func41, Tryd.ntmps41
      go_wp2
      go_ret
      exact ⟨ret_bool (by simp [wi, h1, h2]), hA⟩
    · go_enter Tryd.func41, Tryd.ntmps41
      go_wp2
      go_ret
      exact ⟨ret_bool (by simp [wi, h1]; omega), hA⟩
  · go_enter Tryd.func41, Tryd.ntmps41
    go_wp2
    go_ret
    exact ⟨ret_bool (by simp [wi]; omega), hA⟩

set_option maxRecDepth 100000 in
theorem rdown_any (a b : Int) (w : World) (ha : 0 ≤ a ∧ a ≤ 9223372036854775807) (hb : 1 ≤ b) :
    Calls Tryd.prog 89 #[.int .i64 a, .int .i64 b] w fun e w' => e = .returned (.int .i64 (a / b)) ∧ w' = w := by
  have hn : ¬ b = 0 := by omega
  have hq : wrap64 (a.tdiv b) = a / b := by
    rw [Int.tdiv_eq_ediv_of_nonneg ha.1]
    have h1 := Int.ediv_nonneg ha.1 (show 0 ≤ b by omega)
    have h2 := Int.ediv_le_self b ha.1
    exact wrap_id _ (by unfold I64; omega)
  go_enter Tryd.func89, Tryd.ntmps89
  go_wp2
  go_ret
  exact ⟨rfl, rfl⟩

set_option maxRecDepth 100000 in
theorem rup_any (a b : Int) (w : World) (ha : 0 ≤ a ∧ a ≤ 4000000000000000000) (hb : 1 ≤ b ∧ b ≤ 4000000000000000000) :
    Calls Tryd.prog 90 #[.int .i64 a, .int .i64 b] w fun e w' => e = .returned (.int .i64 ((a + b - 1) / b)) ∧ w' = w := by
  have hn : ¬ b = 0 := by omega
  have h1 : wrap64 (a + b) = a + b := wrap_id _ (by unfold I64; omega)
  have h2 : wrap64 (a + b - 1) = a + b - 1 := wrap_id _ (by unfold I64; omega)
  have hq : wrap64 ((a + b - 1).tdiv b) = (a + b - 1) / b := by
    rw [Int.tdiv_eq_ediv_of_nonneg (by omega)]
    have h1 := Int.ediv_nonneg (show 0 ≤ a + b - 1 by omega) (show 0 ≤ b by omega)
    have h2 := Int.ediv_le_self b (show 0 ≤ a + b - 1 by omega)
    exact wrap_id _ (by unfold I64; omega)
  go_enter Tryd.func90, Tryd.ntmps90
  go_wp2
  go_ret
  exact ⟨rfl, rfl⟩

set_option maxHeartbeats 2000000 in
set_option maxRecDepth 100000 in
theorem rcheck5_any (vb : Value) (b : Bot) (w : World) (h : RBot w vb b) :
    Calls Tryd.prog 34 #[vb] w fun e w' => e = .returned (.int .i64 (checkS b)) ∧ Below w.heap.size w w' := by
  obtain ⟨v0, rfl, hr, i1, i2⟩ := h
  have hrr := hr
  obtain ⟨a, cap, rfl, hc1, ⟨hc2, hm⟩, hl⟩ := hr
  have hA := below_boxS w (.cells #[.slice a b.rings.length cap, .int .i64 b.flaw, .int .i64 b.tough] 47)
  have hB := Blk.new w #[.slice a b.rings.length cap, .int .i64 b.flaw, .int .i64 b.tough] 47
  by_cases h24 : 24 < b.rings.length
  · have hc := Lib.hid (show checkS b = 3 by simp [checkS, h24])
    clear hl hB
    go_enter Tryd.func34, Tryd.ntmps34
    go_wp2
    go_ret
    exact ⟨ret_int hc.out.symm, hA⟩
  by_cases h0 : b.rings.length = 0
  · have hc := Lib.hid (show checkS b = 1 by simp [checkS, h0])
    have h1 : ((b.rings.length : Int) == 0) = true := by simp [h0]
    clear h0 hl hB
    go_enter Tryd.func34, Tryd.ntmps34
    go_wp2
    go_ret
    exact ⟨ret_int hc.out.symm, hA⟩
  have h1 : ((b.rings.length : Int) == 0) = false := by simp [h0]
  have h2 : decide ((24 : Int) < (b.rings.length : Int)) = false := decide_eq_false (by omega)
  have H0 := Lib.hid h0
  have H24 := Lib.hid h24
  clear h0 h24
  go_enter Tryd.func34, Tryd.ntmps34
  go_wp2
  generalize w.alloc (.cells #[.slice a b.rings.length cap, .int .i64 b.flaw, .int .i64 b.tough] 47) = W0 at *
  clear h1 h2
  go_loopw [3, 4, 5] (fun lo hi i wr => ∃ (k : Nat), k ≤ b.rings.length ∧ lo = .int .i64 (loS b.rings k) ∧ hi = .int .i64 (hiS b.rings k) ∧ i = .int .i64 k ∧ Hid (∀ j (h : j < k) (h2 : j < b.rings.length), OkR b.rings[j]) ∧ Below W0.heap.size W0 wr) (fun _ _ i _ => b.rings.length - (intOf i).toNat)
  case atStart => exact ⟨0, Nat.zero_le _, by simp [loS], by simp [hiS], rfl, fun j h => absurd h (by omega), Below.refl _ _⟩
  case round =>
    obtain ⟨k, hk, rfl, rfl, rfl, hok, hb⟩ := hrel
    have hlB := hB.lt
    have hBr := hB.below hb hlB
    have c0 := hBr.cell 0 _ rfl
    have c1 := hBr.cell 1 _ rfl
    have c2 := hBr.cell 2 _ rfl
    by_cases hlt : k < b.rings.length
    · obtain ⟨b1, o1, rfl, hcr, hir⟩ := hl k hlt
      have hrk := loS_succ hlt
      have hrk' := hiS_succ hlt
      have hbd := sums_bd (l := b.rings) (k := k) (by omega) (fun j h1 h2 => hok.out j h1 h2)
      have hall : okR b.rings[k] = false → allR b.rings = false := allR_false hlt
      have hnx : OkR b.rings[k] → ∀ j (h : j < k + 1) (h2 : j < b.rings.length), OkR b.rings[j] := fun h j h1 h2 => by
        by_cases hj : j = k
        · subst hj; exact h
        · exact hok.out j (by omega) h2
      have hA0 := hA.size
      generalize b.rings[k] = r at *
      have hx : ∀ j, j < 10 → wr.cell? ⟨b1, o1 + k * 10 + j, none⟩ = (rgCells r)[j]? := fun j hj => by
        have hj' : j < (rgCells r).length := hj
        rw [List.getElem?_eq_getElem hj']
        exact ext_of_below hb _ _ (ext_of_below hA _ _ (hcr j _ (List.getElem?_eq_getElem hj')))
      have x0 := hx 0 (by omega)
      have x1 := hx 1 (by omega)
      have x2 := hx 2 (by omega)
      have x3 := hx 3 (by omega)
      have x4 := hx 4 (by omega)
      have x5 := hx 5 (by omega)
      have x6 := hx 6 (by omega)
      have x7 := hx 7 (by omega)
      have x8 := hx 8 (by omega)
      have x9 := hx 9 (by omega)
      have i3 : (0 : Int) ≤ (k : Int) := Int.natCast_nonneg _
      have i4 : (k : Int) < (b.rings.length : Int) := by omega
      simp only [rgCells, Nat.add_zero, List.getElem?_cons_zero, List.getElem?_cons_succ] at x0 x1 x2 x3 x4 x5 x6 x7 x8 x9
      have hX := Blk.new wr #[.int .i64 r.radius.lo, .int .i64 r.radius.hi, .int .i64 r.height.lo, .int .i64 r.height.hi, .int .i64 r.share.lo, .int .i64 r.share.hi, .int .i64 r.factor.lo, .int .i64 r.factor.hi, .int .i64 r.hit.lo, .int .i64 r.hit.hi] 115
      have hbX : Below W0.heap.size W0 (wr.alloc (.cells #[.int .i64 r.radius.lo, .int .i64 r.radius.hi, .int .i64 r.height.lo, .int .i64 r.height.hi, .int .i64 r.share.lo, .int .i64 r.share.hi, .int .i64 r.factor.lo, .int .i64 r.factor.hi, .int .i64 r.hit.lo, .int .i64 r.hit.hi] 115)) := hb.alloc hb.size _
      have HL := Lib.hid hl
      have HR := Lib.hid hrk
      have HR' := Lib.hid hrk'
      have HALL := Lib.hid hall
      have HNX := Lib.hid hnx
      have HRR := Lib.hid hrr
      clear hl hx hcr hir hrk hrk' hall hnx hrr hb hBr
      have HC1 : Hid (okR r = false → checkS b = 1) := Lib.hid (fun h => by simp only [checkS, H24.out, H0.out, HALL.out h, if_true, if_false])
      go_wp2_with fail
      generalize wr.alloc (.cells #[.int .i64 r.radius.lo, .int .i64 r.radius.hi, .int .i64 r.height.lo, .int .i64 r.height.hi, .int .i64 r.share.lo, .int .i64 r.share.hi, .int .i64 r.factor.lo, .int .i64 r.factor.hi, .int .i64 r.hit.lo, .int .i64 r.hit.hi] 115) = V0 at *
      clear x0 x1 x2 x3 x4 x5 x6 x7 x8 x9 c0 c1 c2
      refine (rwithin_any r.radius 1 1000 _).mono ?_
      rintro e V1 ⟨rfl, hv1⟩
      have hX1 := hX.below hv1 hX.lt
      have hbX1 := hbX.trans (hv1.mono hbX.size)
      clear hv1 hX hbX
      cases h1 : wi r.radius 1 1000 with
      | false =>
        have HE := Lib.hid (HC1.out (by simp [okR, h1]))
        go_wp2
        go_ret
        exact ⟨ret_int HE.out.symm, hA.trans (hbX1.mono hA0)⟩
      | true =>
      have y2 := hX1.cell 2 _ rfl
      have y3 := hX1.cell 3 _ rfl
      go_wp2_with fail
      refine (rwithin_any r.height 1 5000 _).mono ?_
      rintro e V2 ⟨rfl, hv2⟩
      have hX2 := hX1.below hv2 hX1.lt
      have hbX2 := hbX1.trans (hv2.mono hbX1.size)
      clear hv2 hX1 hbX1 y2 y3
      cases h2 : wi r.height 1 5000 with
      | false =>
        have HE := Lib.hid (HC1.out (by simp [okR, h1, h2]))
        go_wp2
        go_ret
        exact ⟨ret_int HE.out.symm, hA.trans (hbX2.mono hA0)⟩
      | true =>
      have y4 := hX2.cell 4 _ rfl
      have y5 := hX2.cell 5 _ rfl
      go_wp2_with fail
      refine (rwithin_any r.share 0 1000 _).mono ?_
      rintro e V3 ⟨rfl, hv3⟩
      have hX3 := hX2.below hv3 hX2.lt
      have hbX3 := hbX2.trans (hv3.mono hbX2.size)
      clear hv3 hX2 hbX2 y4 y5
      cases h3 : wi r.share 0 1000 with
      | false =>
        have HE := Lib.hid (HC1.out (by simp [okR, h1, h2, h3]))
        go_wp2
        go_ret
        exact ⟨ret_int HE.out.symm, hA.trans (hbX3.mono hA0)⟩
      | true =>
      have y6 := hX3.cell 6 _ rfl
      have y7 := hX3.cell 7 _ rfl
      go_wp2_with fail
      refine (rwithin_any r.factor 0 10000 _).mono ?_
      rintro e V4 ⟨rfl, hv4⟩
      have hX4 := hX3.below hv4 hX3.lt
      have hbX4 := hbX3.trans (hv4.mono hbX3.size)
      clear hv4 hX3 hbX3 y6 y7
      cases h4 : wi r.factor 0 10000 with
      | false =>
        have HE := Lib.hid (HC1.out (by simp [okR, h1, h2, h3, h4]))
        go_wp2
        go_ret
        exact ⟨ret_int HE.out.symm, hA.trans (hbX4.mono hA0)⟩
      | true =>
      have y8 := hX4.cell 8 _ rfl
      have y9 := hX4.cell 9 _ rfl
      go_wp2_with fail
      refine (rwithin_any r.hit 0 10000 _).mono ?_
      rintro e V5 ⟨rfl, hv5⟩
      have hX5 := hX4.below hv5 hX4.lt
      have hbX5 := hbX4.trans (hv5.mono hbX4.size)
      clear hv5 hX4 hbX4 y8 y9
      cases h5 : wi r.hit 0 10000 with
      | false =>
        have HE := Lib.hid (HC1.out (by simp [okR, h1, h2, h3, h4, h5]))
        go_wp2
        go_ret
        exact ⟨ret_int HE.out.symm, hA.trans (hbX5.mono hA0)⟩
      | true =>
      have hOk := okR_iff.1 (show okR r = true by simp [okR, h1, h2, h3, h4, h5])
      have hsh := hOk.share
      have w0 := wrap_id (loS b.rings k + r.share.lo) (by unfold I64; omega)
      have w1 := wrap_id (hiS b.rings k + r.share.hi) (by unfold I64; omega)
      have HN := Lib.hid (HNX.out hOk)
      have y4 := hX5.cell 4 _ rfl
      have y5 := hX5.cell 5 _ rfl
      clear hX5 hOk
      go_wp2
      go_roundw
      case rel => exact ⟨k + 1, by omega, by rw [HR.out], by rw [HR'.out], by go_num, HN, hbX5⟩
      case measure => simp [intOf]; omega
    · have hke : k = b.rings.length := by omega
      have hall : allR b.rings = true := allR_true.2 (fun j hj => hok.out j (by omega) hj)
      rw [hke]
      have HC : Hid ((decide (loS b.rings b.rings.length ≤ 1000) && decide (1000 ≤ hiS b.rings b.rings.length)) = false → checkS b = 12) := Lib.hid (fun h => by simp only [checkS, H24.out, H0.out, hall, h, if_true, if_false, Bool.true_eq_false])
      have HC2 : Hid ((decide (loS b.rings b.rings.length ≤ 1000) && decide (1000 ≤ hiS b.rings b.rings.length)) = true → (btw b.flaw 1 1000 && btw b.tough 0 1000000000000000) = false → checkS b = 1) := Lib.hid (fun h h' => by
        simp only [checkS, H24.out, H0.out, hall, h, if_false, Bool.true_eq_false]
        cases h3 : btw b.flaw 1 1000 with
        | false => simp
        | true => rw [h3, Bool.true_and] at h'; simp [h'])
      have HC3 : Hid ((decide (loS b.rings b.rings.length ≤ 1000) && decide (1000 ≤ hiS b.rings b.rings.length)) = true → btw b.flaw 1 1000 = true → btw b.tough 0 1000000000000000 = true → checkS b = 0) := Lib.hid (fun h h' h'' => by simp only [checkS, H24.out, H0.out, hall, h, h', h'', if_false, Bool.true_eq_false])
      have hAF := hA.trans (hb.mono hA.size)
      clear hl hrr hok hke hlt hall hB hBr
      generalize loS b.rings b.rings.length = lo at *
      generalize hiS b.rings b.rings.length = hi at *
      by_cases hlo : lo ≤ 1000
      case neg =>
        have HE := Lib.hid (HC.out (by simp [hlo]))
        go_wp2
        go_ret
        exact ⟨ret_int HE.out.symm, hAF⟩
      by_cases hhi : 1000 ≤ hi
      case neg =>
        have HE := Lib.hid (HC.out (by simp [hhi]))
        go_wp2
        go_ret
        exact ⟨ret_int HE.out.symm, hAF⟩
      have hlh : (decide (lo ≤ 1000) && decide (1000 ≤ hi)) = true := by simp [hlo, hhi]
      have K2 := Lib.hid (HC2.out hlh)
      have K3 := Lib.hid (HC3.out hlh)
      clear hlh
      by_cases f1 : 1 ≤ b.flaw
      case neg =>
        have HE := Lib.hid (K2.out (by simp [btw, f1]))
        go_wp2
        go_ret
        exact ⟨ret_int HE.out.symm, hAF⟩
      by_cases f2 : b.flaw ≤ 1000
      case neg =>
        have HE := Lib.hid (K2.out (by simp [btw, f2]))
        go_wp2
        go_ret
        exact ⟨ret_int HE.out.symm, hAF⟩
      by_cases f3 : 0 ≤ b.tough
      case neg =>
        have HE := Lib.hid (K2.out (by simp [btw, f3]))
        go_wp2
        go_ret
        exact ⟨ret_int HE.out.symm, hAF⟩
      by_cases f4 : b.tough ≤ 1000000000000000
      case neg =>
        have HE := Lib.hid (K2.out (by simp [btw, f4]))
        go_wp2
        go_ret
        exact ⟨ret_int HE.out.symm, hAF⟩
      have HE := Lib.hid (K3.out (by simp [btw, f1, f2]) (by simp [btw, f3, f4]))
      go_wp2
      go_ret
      exact ⟨ret_int HE.out.symm, hAF⟩

end Go.Proofs.YtmmlocjiegkjeaaDoor
