/- The law StrengthRecipes: every input; no statement is proved here. -/
import Derived.Test.YtmmlocjiegkjeaaDoorLeA
import Derived.Test.YtmmlocjiegkjeaaDoorLeM2
import Derived.Test.YtmmlocjiegkjeaaDoorSLives
import Derived.Test.YtmmlocjiegkjeaaDoorSCLaw
import Derived.Test.YtmmlocjiegkjeaaDoorSCells
namespace Go.Proofs.YtmmlocjiegkjeaaDoor
open Go.RowKit Go.PlainAid
set_option linter.unusedVariables false
set_option linter.unusedSimpArgs false
attribute [local go_sem ↓] exec_ask
attribute [local go_sem] beq_self_eq_true bne_self_eq_false

set_option maxHeartbeats 8000000 in
set_option maxRecDepth 100000 in
theorem sRecipesLaw_any (vl vb vx : Value) (l : Lr) (b : Bat) (x : Ask5) (w : World) (h : RLr w vl l) (hb : RBat w vb b) (hx : RAskC w vx x) (hC : Circ w) :
    Calls Tryd.prog 6 #[vl, vb, vx] w (TrueB w) := by
  have h0 := h
  have hb0 := hb
  have hx0 := hx
  obtain ⟨v0, rfl, hr, hI⟩ := h
  obtain ⟨a, cap, rfl, -, ⟨-, hkm⟩, -⟩ := hr
  obtain ⟨a0, k0, a1, k1, a2, k2, a3, k3, rfl⟩ := hb.agg
  obtain ⟨vt, vm, vr, pa, pk, cl, rfl, hx', -⟩ := hx
  obtain ⟨vt', vm', vr', pa', pk', he, hx1, hx2, hx3, -, hxi⟩ := hx'
  simp only [askCells, Value.agg.injEq, Array.mk.injEq, List.cons.injEq, and_true, true_and] at he
  obtain ⟨rfl, rfl, rfl, -⟩ := he
  have hc0 := hx3
  obtain ⟨at', kt, rfl, -, -, -⟩ := hx1
  obtain ⟨am, km, rfl, -, -, -⟩ := hx2
  obtain ⟨ar, kr, rfl, -, -, -⟩ := hx3
  have hA : Below w.heap.size w (((w.alloc (.cells #[.slice a l.knees.length cap, .int .i64 l.factor] 24)).alloc (.cells #[.slice a0 b.oxides.length k0, .slice a1 b.mats.length k1, .slice a2 b.shares.length k2, .slice a3 b.props.length k3, .int .i64 b.redox.lo, .int .i64 b.redox.hi, .int .i64 b.wanted] 52)).alloc (.cells (askCells x (.slice at' x.thick.length kt) (.slice am x.measured.length km) (.slice ar x.recipe.length kr) pa pk) 33)) := ((below_boxS w _).alloc (by simp) _).alloc (by simp only [World.size_alloc]; omega) _
  have hB := ((Blk.new w #[.slice a l.knees.length cap, .int .i64 l.factor] 24).alloc (.cells #[.slice a0 b.oxides.length k0, .slice a1 b.mats.length k1, .slice a2 b.shares.length k2, .slice a3 b.props.length k3, .int .i64 b.redox.lo, .int .i64 b.redox.hi, .int .i64 b.wanted] 52)).alloc (.cells (askCells x (.slice at' x.thick.length kt) (.slice am x.measured.length km) (.slice ar x.recipe.length kr) pa pk) 33)
  have hM := (Blk.new (w.alloc (.cells #[.slice a l.knees.length cap, .int .i64 l.factor] 24)) #[.slice a0 b.oxides.length k0, .slice a1 b.mats.length k1, .slice a2 b.shares.length k2, .slice a3 b.props.length k3, .int .i64 b.redox.lo, .int .i64 b.redox.hi, .int .i64 b.wanted] 52).alloc (.cells (askCells x (.slice at' x.thick.length kt) (.slice am x.measured.length km) (.slice ar x.recipe.length kr) pa pk) 33)
  have hX := Blk.new ((w.alloc (.cells #[.slice a l.knees.length cap, .int .i64 l.factor] 24)).alloc (.cells #[.slice a0 b.oxides.length k0, .slice a1 b.mats.length k1, .slice a2 b.shares.length k2, .slice a3 b.props.length k3, .int .i64 b.redox.lo, .int .i64 b.redox.hi, .int .i64 b.wanted] 52)) (askCells x (.slice at' x.thick.length kt) (.slice am x.measured.length km) (.slice ar x.recipe.length kr) pa pk) 33
  have hz : (((w.alloc (.cells #[.slice a l.knees.length cap, .int .i64 l.factor] 24)).alloc (.cells #[.slice a0 b.oxides.length k0, .slice a1 b.mats.length k1, .slice a2 b.shares.length k2, .slice a3 b.props.length k3, .int .i64 b.redox.lo, .int .i64 b.redox.hi, .int .i64 b.wanted] 52)).alloc (.cells (askCells x (.slice at' x.thick.length kt) (.slice am x.measured.length km) (.slice ar x.recipe.length kr) pa pk) 33)).heap.size = w.heap.size + 3 := by simp
  replace hz := Nat.le_of_eq hz.symm
  simp only [World.size_alloc] at hM hX
  simp only [askCells] at hA hB hM hX hz ⊢
  go_enter Tryd.func6, Tryd.ntmps6
  have HI := Lib.hid hxi
  have HR := Lib.hid (fun V (hV : Below w.heap.size w V) => h0.mono (ext_of_below hV))
  have HBT := Lib.hid (fun V (hV : Below w.heap.size w V) => hb0.mono (ext_of_below hV))
  have HX := Lib.hid (fun V (hV : Below w.heap.size w V) => hx0.mono (ext_of_below hV))
  have HRC := Lib.hid (fun V (hV : Below w.heap.size w V) => hc0.mono (ext_of_below hV))
  have HC := Lib.hid (fun V (hV : Below w.heap.size w V) => hC.mono (ext_of_below hV))
  clear h0 hb0 hx0 hc0 hC hxi hb
  simp only [askCells] at HX
  by_cases hg : (100 : Int) < (l.knees.length : Int)
  · have gg := decide_eq_true hg
    have c0 := hB.cell 0 _ rfl
    clear hB hX hM
    go_wp2_with fail
    generalize ((w.alloc (.cells #[.slice a l.knees.length cap, .int .i64 l.factor] 24)).alloc (.cells #[.slice a0 b.oxides.length k0, .slice a1 b.mats.length k1, .slice a2 b.shares.length k2, .slice a3 b.props.length k3, .int .i64 b.redox.lo, .int .i64 b.redox.hi, .int .i64 b.wanted] 52)).alloc _ = W2 at *
    refine (lives5_any _ (HC.out _ hA)).mono ?_
    rintro e wl ⟨rfl, hbl⟩
    have hAl := hA.trans (hbl.mono hA.size)
    clear hbl hA
    go_wp2
    go_ret
    exact ⟨rfl, hAl⟩
  have gg := decide_eq_false hg
  have c0 := hB.cell 0 _ rfl
  have m0 := hM.cell 0 _ rfl
  have m1 := hM.cell 1 _ rfl
  have m2 := hM.cell 2 _ rfl
  have m3 := hM.cell 3 _ rfl
  have m4 := hM.cell 4 _ rfl
  have m5 := hM.cell 5 _ rfl
  have m6 := hM.cell 6 _ rfl
  go_wp2_with fail
  generalize ((w.alloc (.cells #[.slice a l.knees.length cap, .int .i64 l.factor] 24)).alloc (.cells #[.slice a0 b.oxides.length k0, .slice a1 b.mats.length k1, .slice a2 b.shares.length k2, .slice a3 b.props.length k3, .int .i64 b.redox.lo, .int .i64 b.redox.hi, .int .i64 b.wanted] 52)).alloc _ = w1 at *
  refine (B1.great_any _ b _ (HBT.out _ hA)).mono ?_
  rintro e w2 ⟨rg, rfl, hb2⟩
  have hA2 := hA.trans (hb2.mono hA.size)
  have hB2 := hB.below hb2 hB.lt
  have hM2 := hM.below hb2 hM.lt
  have hX2 := hX.below hb2 hX.lt
  have hz2 : w.heap.size + 3 ≤ w2.heap.size := by have := hb2.size; omega
  clear hA hB hM hX hb2 hz c0 m0 m1 m2 m3 m4 m5 m6 gg hg
  cases rg with
  | true =>
    clear hB2 hM2 hX2
    go_wp2_with fail
    refine (lives5_any _ (HC.out _ hA2)).mono ?_
    rintro e wl ⟨rfl, hbl⟩
    have hAl := hA2.trans (hbl.mono hA2.size)
    clear hbl hA2
    go_wp2
    go_ret
    exact ⟨rfl, hAl⟩
  | false =>
  have hld := ld_ask hX2 rfl
  go_wp2_with fail
  refine (wide5_any _ x _ (HX.out _ hA2)).mono ?_
  rintro e w3 ⟨rw, rfl, hwd, hb3⟩
  have hA3 := hA2.trans (hb3.mono hA2.size)
  have hB3 := hB2.below hb3 hB2.lt
  have hM3 := hM2.below hb3 hM2.lt
  have hX3 := hX2.below hb3 hX2.lt
  have hz3 : w.heap.size + 3 ≤ w3.heap.size := by have := hb3.size; omega
  clear hA2 hB2 hM2 hX2 hb3 hz2 hld hwd
  cases rw with
  | true =>
    clear hB3 hM3 hX3
    go_wp2_with fail
    refine (lives5_any _ (HC.out _ hA3)).mono ?_
    rintro e wl ⟨rfl, hbl⟩
    have hAl := hA3.trans (hbl.mono hA3.size)
    clear hbl hA3
    go_wp2
    go_ret
    exact ⟨rfl, hAl⟩
  | false =>
  have c0 := hB3.cell 0 _ rfl
  have c1 := hB3.cell 1 _ rfl
  have m0 := hM3.cell 0 _ rfl
  have m1 := hM3.cell 1 _ rfl
  have m2 := hM3.cell 2 _ rfl
  have m3 := hM3.cell 3 _ rfl
  have m4 := hM3.cell 4 _ rfl
  have m5 := hM3.cell 5 _ rfl
  have m6 := hM3.cell 6 _ rfl
  have x12 := hX3.cell 12 _ rfl
  have x14 := hX3.cell 14 _ rfl
  have x15 := hX3.cell 15 _ rfl
  have x16 := hX3.cell 16 _ rfl
  have x17 := hX3.cell 17 _ rfl
  have x19 := hX3.cell 19 _ rfl
  go_wp2_with fail
  refine (annealP_any _ _ _ l b x.recipe x.property x.below x.soak x.wall x.limit _ (HR.out _ hA3) (HBT.out _ hA3) (HRC.out _ hA3)).mono ?_
  rintro e w4 ⟨rfl, hb4⟩
  have hA4 := hA3.trans (hb4.mono hA3.size)
  have hB4 := hB3.below hb4 hB3.lt
  have hM4 := hM3.below hb4 hM3.lt
  have hX4 := hX3.below hb4 hX3.lt
  have hz4 : w.heap.size + 3 ≤ w4.heap.size := by have := hb4.size; omega
  clear hA3 hB3 hM3 hX3 hb4 hz3
  clear c0 c1 m0 m1 m2 m3 m4 m5 m6 x12 x14 x15 x16 x17 x19
  have hva := fun V (hV : Below w.heap.size w V) => B1.valI_any _ _ b x.recipe x.property V (HBT.out _ hV) (HRC.out _ hV)
  generalize B1.valI b x.recipe x.property = vv at *
  by_cases hE : annealE l vv x.below x.soak x.wall x.limit = 0
  case neg =>
    have e1 : annealS l vv x.below x.soak x.wall x.limit = (false, annealE l vv x.below x.soak x.wall x.limit) := by rw [annealS, if_neg hE]
    rw [e1]
    have hne : (annealE l vv x.below x.soak x.wall x.limit != 0) = true := by simpa using hE
    generalize annealE l vv x.below x.soak x.wall x.limit = ee at *
    clear e1 hE hB4 hM4 hX4 hva
    go_wp2_with fail
    refine (lives5_any _ (HC.out _ hA4)).mono ?_
    rintro e wl ⟨rfl, hbl⟩
    have hAl := hA4.trans (hbl.mono hA4.size)
    clear hbl hA4
    go_wp2
    go_ret
    exact ⟨rfl, hAl⟩
  have e1 : annealS l vv x.below x.soak x.wall x.limit = (annealB l vv x.below x.soak x.wall x.limit, 0) := by rw [annealS, if_pos hE]
  rw [e1]
  clear e1
  have hok := annOk_of hE
  clear hE
  cases hB : annealB l vv x.below x.soak x.wall x.limit with
  | false =>
    clear hB hB4 hM4 hX4 hva hok
    go_wp2_with fail
    refine (lives5_any _ (HC.out _ hA4)).mono ?_
    rintro e wl ⟨rfl, hbl⟩
    have hAl := hA4.trans (hbl.mono hA4.size)
    clear hbl hA4
    go_wp2
    go_ret
    exact ⟨rfl, hAl⟩
  | true =>
  simp only [annealB, Bool.and_eq_true, decide_eq_true_eq] at hB
  obtain ⟨hsk, hlm⟩ := hB
  obtain ⟨hlr, hv2, hbe, hso, hth, hli, hw1, hw2, hw3⟩ := hok
  obtain ⟨v, ve⟩ := vv
  simp only at hsk hlm hv2 hw1 hw2 hw3
  subst hv2
  have hH : ∀ T, v.lo ≤ T → T ≤ v.hi → x.soak ≤ heldL l T := fun T h1 h2 => Int.le_trans hsk (held_anti hlr h2)
  have hS : ∀ T, v.lo ≤ T → T ≤ v.hi → strainL l ⟨T - x.below, T⟩ x.wall ≤ x.limit := fun T h1 h2 => Int.le_trans (steep_sub hlr (s := ⟨T - x.below, T⟩) (t := ⟨v.lo - x.below, v.hi⟩) (by simp only; omega) (by simp only; omega) x.wall) hlm
  have hHS : ∀ T, v.lo ≤ T → T ≤ v.hi → heldS l T = (heldL l T, 0) := fun T h1 h2 => by
    have he : heldE l T = 0 := by rw [heldE, if_pos (checkL_of hlr), if_pos (btw_true.2 (by omega))]
    rw [heldS, if_pos he]
  have hSS : ∀ T, v.lo ≤ T → T ≤ v.hi → strainS l ⟨T - x.below, T⟩ x.wall = (strainL l ⟨T - x.below, T⟩ x.wall, 0) := fun T h1 h2 => by
    have he : tempsE l ⟨T - x.below, T⟩ = 0 := by rw [tempsE, if_pos (checkL_of hlr), if_pos (wi_true.2 (by simp only; omega))]
    have he2 : strainE l ⟨T - x.below, T⟩ x.wall = 0 := by rw [strainE, if_pos he, if_pos (btw_true.2 hth)]
    rw [strainS, if_pos he2]
  have HH := Lib.hid hH
  have HS := Lib.hid hS
  have HHS := Lib.hid hHS
  have HSS := Lib.hid hSS
  have HVA := Lib.hid hva
  clear hH hS hHS hSS hva hsk hlm
  have m0 := hM4.cell 0 _ rfl
  have m1 := hM4.cell 1 _ rfl
  have m2 := hM4.cell 2 _ rfl
  have m3 := hM4.cell 3 _ rfl
  have m4 := hM4.cell 4 _ rfl
  have m5 := hM4.cell 5 _ rfl
  have m6 := hM4.cell 6 _ rfl
  have x14 := hX4.cell 14 _ rfl
  have x19 := hX4.cell 19 _ rfl
  go_wp2_with fail
  refine (HVA.out _ hA4).mono ?_
  rintro e w5 ⟨rfl, hb5⟩
  have hA5 := hA4.trans (hb5.mono hA4.size)
  have hB5 := hB4.below hb5 hB4.lt
  have hM5 := hM4.below hb5 hM4.lt
  have hX5 := hX4.below hb5 hX4.lt
  have hz5 : w.heap.size + 3 ≤ w5.heap.size := by have := hb5.size; omega
  clear hA4 hB4 hM4 hX4 hb5 hz4
  clear m0 m1 m2 m3 m4 m5 m6 x14 x19
  simp only
  have hA6 := hA5.alloc hA5.size (.cells #[.int .i64 v.lo, .int .i64 v.hi] 29)
  have hB6 := hB5.alloc (.cells #[.int .i64 v.lo, .int .i64 v.hi] 29)
  have hX6 := hX5.alloc (.cells #[.int .i64 v.lo, .int .i64 v.hi] 29)
  have hV6 := Blk.new w5 #[.int .i64 v.lo, .int .i64 v.hi] 29
  have u0 := hV6.cell 0 _ rfl
  have u1 := hV6.cell 1 _ rfl
  have z1 := wrap_id (v.lo + v.hi) (by unfold I64; omega)
  have z2 : wrap64 ((v.lo + v.hi).tdiv 2) = (v.lo + v.hi) / 2 := by
    rw [Int.tdiv_eq_ediv_of_nonneg (by omega)]
    exact wrap_id _ (by unfold I64; omega)
  have hmid : v.lo ≤ (v.lo + v.hi) / 2 ∧ (v.lo + v.hi) / 2 ≤ v.hi := by omega
  have hA7 := hA6.alloc hA6.size (.cells #[.int .i64 v.lo, .int .i64 ((v.lo + v.hi) / 2), .int .i64 v.hi] 3)
  have hB7 := hB6.alloc (.cells #[.int .i64 v.lo, .int .i64 ((v.lo + v.hi) / 2), .int .i64 v.hi] 3)
  have hX7 := hX6.alloc (.cells #[.int .i64 v.lo, .int .i64 ((v.lo + v.hi) / 2), .int .i64 v.hi] 3)
  have hT7 := Blk.new (w5.alloc (.cells #[.int .i64 v.lo, .int .i64 v.hi] 29)) #[.int .i64 v.lo, .int .i64 ((v.lo + v.hi) / 2), .int .i64 v.hi] 3
  rw [World.size_alloc] at hT7
  clear hA5 hB5 hM5 hX5 hA6 hB6 hX6
  go_wp2
  generalize (w5.alloc (.cells #[.int .i64 v.lo, .int .i64 v.hi] 29)).alloc (.cells #[.int .i64 v.lo, .int .i64 ((v.lo + v.hi) / 2), .int .i64 v.hi] 3) = w7 at *
  generalize w5.heap.size + 1 = pT at *
  clear z1 z2
  generalize (v.lo + v.hi) / 2 = md at *
  clear hV6 u0 u1
  go_loopw [81] (fun i wr => ∃ (k : Nat), k ≤ 3 ∧ i = .int .i64 k ∧ Below w7.heap.size w7 wr) (fun i _ => 3 - (intOf i).toNat)
  case atStart => exact ⟨0, by omega, rfl, Below.refl _ _⟩
  case round =>
    obtain ⟨k, hk, rfl, hbr⟩ := hrel
    have hAr := hA7.trans (hbr.mono hA7.size)
    have hBr := hB7.below hbr hB7.lt
    have hXr := hX7.below hbr hX7.lt
    have hTr := hT7.below hbr hT7.lt
    by_cases hlt : k < 3
    · obtain ⟨T, hT1, hT2, hTc⟩ : ∃ T, v.lo ≤ T ∧ T ≤ v.hi ∧ wr.cell? ⟨pT, k, none⟩ = some (.int .i64 T) := by
        have t0 := hTr.cell 0 _ rfl
        have t1 := hTr.cell 1 _ rfl
        have t2 := hTr.cell 2 _ rfl
        rcases (show k = 0 ∨ k = 1 ∨ k = 2 by omega) with rfl | rfl | rfl
        · exact ⟨v.lo, by omega, by omega, t0⟩
        · exact ⟨md, hmid.1, hmid.2, t1⟩
        · exact ⟨v.hi, by omega, by omega, t2⟩
      have i1 : (0 : Int) ≤ (k : Int) := Int.natCast_nonneg _
      have i2 : (k : Int) < 3 := by omega
      have c0 := hBr.cell 0 _ rfl
      have c1 := hBr.cell 1 _ rfl
      have hn1 := HH.out T hT1 hT2
      have hn2 := HS.out T hT1 hT2
      have he1 := HHS.out T hT1 hT2
      have he2 := HSS.out T hT1 hT2
      have z1 := wrap_id (T - x.below) (by unfold I64; omega)
      clear hTr
      go_wp2_with fail
      refine (heldP_any _ l T _ (HR.out _ hAr)).mono ?_
      rintro e wa ⟨rfl, hba⟩
      rw [he1]
      have hAa := hAr.trans (hba.mono hAr.size)
      have hBa := hBr.below hba hBr.lt
      have hXa := hXr.below hba hXr.lt
      have hba' := hbr.trans (hba.mono hbr.size)
      clear hAr hBr hXr hba hbr c0 c1 hTc he1
      have c0 := hBa.cell 0 _ rfl
      have c1 := hBa.cell 1 _ rfl
      have x15 := hXa.cell 15 _ rfl
      have x12 := hXa.cell 12 _ rfl
      go_wp2_with fail
      refine (strainP_any _ l ⟨T - x.below, T⟩ x.wall _ (HR.out _ hAa)).mono ?_
      rintro e wb ⟨rfl, hbb⟩
      rw [he2]
      have hXb := hXa.below hbb hXa.lt
      have hbb' := Lib.hid (hba'.trans (hbb.mono hba'.size))
      generalize heldL l T = hh at *
      generalize strainL l ⟨T - x.below, T⟩ x.wall = ss at *
      have x16 := hXb.cell 16 _ rfl
      have x17 := hXb.cell 17 _ rfl
      have g1 : decide (hh < x.soak) = false := decide_eq_false (by omega)
      have g2 : decide (x.limit < ss) = false := decide_eq_false (by omega)
      clear hAa hBa hXa hbb hba' c0 c1 x15 x12 he2
      go_wp2
      go_roundw
      case rel => exact ⟨k + 1, by omega, by go_num, hbb'.out⟩
      case measure => simp [intOf]; omega
    · have hk3 : k = 3 := by omega
      subst hk3
      clear hBr hXr hTr
      go_wp2_with fail
      refine (lives5_any _ (HC.out _ hAr)).mono ?_
      rintro e wl ⟨rfl, hbl⟩
      have hAl := hAr.trans (hbl.mono hAr.size)
      clear hbl hAr
      go_wp2
      go_ret
      exact ⟨rfl, hAl⟩

end Go.Proofs.YtmmlocjiegkjeaaDoor
