/- The specification's Steepest, Held, Strain; no statement is proved here. -/
import Derived.Test.YtmmlocjiegkjeaaDoorRLc
import Derived.Test.YtmmlocjiegkjeaaDoorRLe
import Derived.Test.YtmmlocjiegkjeaaDoorRLe2
import Derived.Test.YtmmlocjiegkjeaaDoorLeC
namespace Go.Proofs.YtmmlocjiegkjeaaDoor
open Go.RowKit Go.PlainAid
set_option linter.unusedVariables false
set_option linter.unusedSimpArgs false

set_option maxHeartbeats 2000000 in
set_option maxRecDepth 100000 in
theorem rsteepP_any (vl : Value) (l : Lr) (t : Sp) (w : World) (h : RLr w vl l) :
    Calls Tryd.prog 11 #[vl, .agg #[.int .i64 t.lo, .int .i64 t.hi]] w (SteepA w l t) := by
  have h0 := h
  obtain ⟨v0, rfl, hr, hI⟩ := h
  obtain ⟨a, cap, rfl, -, -, -⟩ := hr
  have hA : Below w.heap.size w (((w.alloc (.cells #[.slice a l.knees.length cap, .int .i64 l.factor] 24)).alloc (.cells #[.int .i64 t.lo, .int .i64 t.hi] 29)).alloc (.cells #[.int .i64 0, .int .i64 0] 36)) := (((below_boxS w _).alloc (by simp) _).alloc (by simp only [World.size_alloc]; omega) _)
  have hB := (((Blk.new w #[.slice a l.knees.length cap, .int .i64 l.factor] 24).alloc (.cells #[.int .i64 t.lo, .int .i64 t.hi] 29)).alloc (.cells #[.int .i64 0, .int .i64 0] 36))
  have hS := ((Blk.new (w.alloc (.cells #[.slice a l.knees.length cap, .int .i64 l.factor] 24)) #[.int .i64 t.lo, .int .i64 t.hi] 29).alloc (.cells #[.int .i64 0, .int .i64 0] 36))
  have hR := (Blk.new ((w.alloc (.cells #[.slice a l.knees.length cap, .int .i64 l.factor] 24)).alloc (.cells #[.int .i64 t.lo, .int .i64 t.hi] 29)) #[.int .i64 0, .int .i64 0] 36)
  have hz : (((w.alloc (.cells #[.slice a l.knees.length cap, .int .i64 l.factor] 24)).alloc (.cells #[.int .i64 t.lo, .int .i64 t.hi] 29)).alloc (.cells #[.int .i64 0, .int .i64 0] 36)).heap.size = w.heap.size + 3 := by simp
  replace hz := Nat.le_of_eq hz.symm
  simp only [World.size_alloc] at hS hR
  have HR := Lib.hid (fun V (hV : Below w.heap.size w V) => h0.mono (ext_of_below hV))
  clear h0
  have c0 := hB.cell 0 _ rfl
  have c1 := hB.cell 1 _ rfl
  go_enter Tryd.func11, Tryd.ntmps11
  go_wp2_with fail
  generalize (((w.alloc (.cells #[.slice a l.knees.length cap, .int .i64 l.factor] 24)).alloc (.cells #[.int .i64 t.lo, .int .i64 t.hi] 29)).alloc (.cells #[.int .i64 0, .int .i64 0] 36)) = W at *
  refine (rcheckL_any _ l W (HR.out _ hA)).mono ?_
  rintro e w1 ⟨rfl, hb1⟩
  have hAx := hA.trans (hb1.mono hA.size)
  have hRx := hR.below hb1 hR.lt
  have hB1 := hB.below hb1 hB.lt
  have hS1 := hS.below hb1 hS.lt
  clear hb1 hA hB hS hR c0 c1
  by_cases hc : checkL l = 0
  case neg =>
    have HX := Lib.hid (show steepS l t = ((0, 0), checkL l) by rw [steepS, if_neg (by rw [tempsE, if_neg hc]; exact hc), tempsE, if_neg hc])
    have hne : (checkL l != 0) = true := by simpa using hc
    clear hc hB1 hS1
    have HU := Lib.hid ((hRx.set 0 (.int .i64 0)).set 1 (.int .i64 0))
    have HA := Lib.hid ((hAx.setCell (p := ⟨w.heap.size + 1 + 1, 0, none⟩) (by simp only; omega) (.int .i64 0)).setCell (p := ⟨w.heap.size + 1 + 1, 1, none⟩) (by simp only; omega) (.int .i64 0))
    have u0 := hRx.cell 0 _ rfl
    have u1 := hRx.cell 1 _ rfl
    have g0 := hRx.frozen 0
    have g1 := hRx.frozen 1
    clear hRx hAx
    go_wp2
    have k0 := HU.out.cell 0 (.int .i64 0) (by simp)
    have k1 := HU.out.cell 1 (.int .i64 0) (by simp)
    refine ⟨rfl, .tuple #[.agg #[.int .i64 0, .int .i64 0], .int .i64 (checkL l)], ?_, by rw [HX.out], HA.out⟩
    simp [results, Tryd.results11, go_sem, k0, k1]
  have hok := okLr_of hc
  have HE := Lib.hid (show tempsE l t = if wi t 0 10000 = true then 0 else 1 by rw [tempsE, if_pos hc])
  rw [hc]
  clear hc
  have s0 := hS1.cell 0 _ rfl
  have s1 := hS1.cell 1 _ rfl
  go_wp2_with fail
  refine (rwithin_any t 0 10000 _).mono ?_
  rintro e w2 ⟨rfl, hb2⟩
  have hAy := hAx.trans (hb2.mono hAx.size)
  have hRy := hRx.below hb2 hRx.lt
  have hB2 := hB1.below hb2 hB1.lt
  have hS2 := hS1.below hb2 hS1.lt
  clear hb2 hAx hRx hB1 hS1 s0 s1
  cases hw : wi t 0 10000 with
  | false =>
    have HX := Lib.hid (show steepS l t = ((0, 0), 1) by
      have h1 : tempsE l t = 1 := by rw [HE.out, hw]; rfl
      rw [steepS, h1]; rfl)
    have hAx := hAy
    have hRx := hRy
    clear hB2 hS2 hAy hRy
    have HU := Lib.hid ((hRx.set 0 (.int .i64 0)).set 1 (.int .i64 0))
    have HA := Lib.hid ((hAx.setCell (p := ⟨w.heap.size + 1 + 1, 0, none⟩) (by simp only; omega) (.int .i64 0)).setCell (p := ⟨w.heap.size + 1 + 1, 1, none⟩) (by simp only; omega) (.int .i64 0))
    have u0 := hRx.cell 0 _ rfl
    have u1 := hRx.cell 1 _ rfl
    have g0 := hRx.frozen 0
    have g1 := hRx.frozen 1
    clear hRx hAx
    go_wp2
    have k0 := HU.out.cell 0 (.int .i64 0) (by simp)
    have k1 := HU.out.cell 1 (.int .i64 0) (by simp)
    refine ⟨rfl, .tuple #[.agg #[.int .i64 0, .int .i64 0], .int .i64 1], ?_, by rw [HX.out], HA.out⟩
    simp [results, Tryd.results11, go_sem, k0, k1]
  | true =>
  have HX := Lib.hid (show steepS l t = (lowQ (steepL l t), 0) by rw [steepS, if_pos (by rw [HE.out, hw]; rfl)])
  have c0 := hB2.cell 0 _ rfl
  have c1 := hB2.cell 1 _ rfl
  have s0 := hS2.cell 0 _ rfl
  have s1 := hS2.cell 1 _ rfl
  go_wp2_with fail
  refine (rsteepestF_any _ l t _ (HR.out _ hAy) hok).mono ?_
  rintro e w3 ⟨rfl, hb3⟩
  have hAx := hAy.trans (hb3.mono hAy.size)
  have hRx := hRy.below hb3 hRy.lt
  obtain ⟨q, hq⟩ : ∃ q, lowQ (steepL l t) = q := ⟨_, rfl⟩
  rw [hq]
  rw [hq] at HX
  clear hq hb3 hAy hRy hB2 hS2 c0 c1 s0 s1
  have HU := Lib.hid ((hRx.set 0 (.int .i64 q.1)).set 1 (.int .i64 q.2))
  have HA := Lib.hid ((hAx.setCell (p := ⟨w.heap.size + 1 + 1, 0, none⟩) (by simp only; omega) (.int .i64 q.1)).setCell (p := ⟨w.heap.size + 1 + 1, 1, none⟩) (by simp only; omega) (.int .i64 q.2))
  have u0 := hRx.cell 0 _ rfl
  have u1 := hRx.cell 1 _ rfl
  have g0 := hRx.frozen 0
  have g1 := hRx.frozen 1
  clear hRx hAx
  go_wp2
  have k0 := HU.out.cell 0 (.int .i64 q.1) (by simp)
  have k1 := HU.out.cell 1 (.int .i64 q.2) (by simp)
  refine ⟨rfl, .tuple #[.agg #[.int .i64 q.1, .int .i64 q.2], .int .i64 0], ?_, by rw [HX.out], HA.out⟩
  simp [results, Tryd.results11, go_sem, k0, k1]

set_option maxHeartbeats 2000000 in
set_option maxRecDepth 100000 in
theorem rheldP_any (vl : Value) (l : Lr) (t : Int) (w : World) (h : RLr w vl l) :
    Calls Tryd.prog 13 #[vl, .int .i64 t] w (HeldA w l t) := by
  have h0 := h
  obtain ⟨v0, rfl, hr, hI⟩ := h
  obtain ⟨a, cap, rfl, -, -, -⟩ := hr
  have hA := below_boxS w (.cells #[.slice a l.knees.length cap, .int .i64 l.factor] 24)
  have hB := Blk.new w #[.slice a l.knees.length cap, .int .i64 l.factor] 24
  have HR := Lib.hid (fun V (hV : Below w.heap.size w V) => h0.mono (ext_of_below hV))
  clear h0
  have c0 := hB.cell 0 _ rfl
  have c1 := hB.cell 1 _ rfl
  go_enter Tryd.func13, Tryd.ntmps13
  go_wp2_with fail
  generalize w.alloc (.cells #[.slice a l.knees.length cap, .int .i64 l.factor] 24) = W at *
  refine (rcheckL_any _ l W (HR.out _ hA)).mono ?_
  rintro e w1 ⟨rfl, hb1⟩
  have hAx := hA.trans (hb1.mono hA.size)
  have hB1 := hB.below hb1 hB.lt
  clear hb1 hA hB c0 c1
  by_cases hc : checkL l = 0
  case neg =>
    have HX := Lib.hid (show heldS l t = (0, checkL l) by rw [heldS, if_neg (by rw [heldE, if_neg hc]; exact hc), heldE, if_neg hc])
    have hne : (checkL l != 0) = true := by simpa using hc
    clear hc hB1
    go_wp2
    go_ret2
    exact ⟨by rw [HX.out]; rfl, hAx⟩
  have hok := okLr_of hc
  have HE := Lib.hid (show heldE l t = if btw t 0 10000 = true then 0 else 1 by rw [heldE, if_pos hc])
  rw [hc]
  clear hc
  by_cases h1 : t < 0
  · have g1 := decide_eq_true h1
    have HX := Lib.hid (show heldS l t = (0, 1) by
      have h1 : heldE l t = 1 := by rw [HE.out, if_neg (by unfold btw; simp; omega)]
      rw [heldS, h1]; rfl)
    clear hB1
    go_wp2
    go_ret2
    exact ⟨by rw [HX.out]; rfl, hAx⟩
  have g1 := decide_eq_false h1
  by_cases h2 : 10000 < t
  · have g2 := decide_eq_true h2
    have HX := Lib.hid (show heldS l t = (0, 1) by
      have h1 : heldE l t = 1 := by rw [HE.out, if_neg (by unfold btw; simp; omega)]
      rw [heldS, h1]; rfl)
    clear hB1
    go_wp2
    go_ret2
    exact ⟨by rw [HX.out]; rfl, hAx⟩
  have g2 := decide_eq_false h2
  have HX := Lib.hid (show heldS l t = (heldL l t, 0) by rw [heldS, if_pos (by rw [HE.out, if_pos (btw_true.2 (by omega))])])
  have c0 := hB1.cell 0 _ rfl
  have c1 := hB1.cell 1 _ rfl
  go_wp2_with fail
  refine (rheldF_any _ l t _ (HR.out _ hAx) hok (by omega)).mono ?_
  rintro e w3 ⟨rfl, hb3⟩
  have hAy := hAx.trans (hb3.mono hAx.size)
  clear hb3 hAx hB1 c0 c1
  go_wp2
  go_ret2
  exact ⟨by rw [HX.out]; rfl, hAy⟩

set_option maxHeartbeats 2000000 in
set_option maxRecDepth 100000 in
theorem rstrainF_any (a : Option Addr) (cap : Nat) (l : Lr) (n d th : Int) (w : World) (hf : 0 ≤ l.factor ∧ l.factor ≤ 10000) (hq : QOk (n, d)) (hth : 1 ≤ th ∧ th ≤ 2000) :
    Calls Tryd.prog 52 #[.agg #[.slice a l.knees.length cap, .int .i64 l.factor], .agg #[.int .i64 n, .int .i64 d], .int .i64 th] w fun e w' => e = .returned (.int .i64 (strQ l.factor (n, d) th)) ∧ Below w.heap.size w w' := by
  have hA : Below w.heap.size w ((w.alloc (.cells #[.slice a l.knees.length cap, .int .i64 l.factor] 24)).alloc (.cells #[.int .i64 n, .int .i64 d] 36)) := (below_boxS w _).alloc (by simp) _
  have hB := (Blk.new w #[.slice a l.knees.length cap, .int .i64 l.factor] 24).alloc (.cells #[.int .i64 n, .int .i64 d] 36)
  have hS := Blk.new (w.alloc (.cells #[.slice a l.knees.length cap, .int .i64 l.factor] 24)) #[.int .i64 n, .int .i64 d] 36
  rw [World.size_alloc] at hS
  obtain ⟨b1, b2, b3, b4⟩ := strQ_bd (f := l.factor) (th := th) hq hf hth
  have hs : strQ l.factor (n, d) th = (l.factor * n * th * th + 1000000 * d - 1) / (1000000 * d) := rfl
  have hq3 := hq.d1
  have hq4 := hq.d2
  simp only at b1 b2 b3 b4 hq3 hq4
  have HS := Lib.hid hs
  clear hs
  have z1 := wrap_id (l.factor * n) (by unfold I64; omega)
  have z2 := wrap_id (l.factor * n * th) (by unfold I64; omega)
  have z3 := wrap_id (l.factor * n * th * th) (by unfold I64; omega)
  have z4 := wrap_id (1000000 * d) (by unfold I64; omega)
  have hup := fun V => rup_any (l.factor * n * th * th) (1000000 * d) V (by omega) (by omega)
  have c1 := hB.cell 1 _ rfl
  have s0 := hS.cell 0 _ rfl
  have s1 := hS.cell 1 _ rfl
  go_enter Tryd.func52, Tryd.ntmps52
  go_wp2_with fail
  generalize (w.alloc (.cells #[.slice a l.knees.length cap, .int .i64 l.factor] 24)).alloc (.cells #[.int .i64 n, .int .i64 d] 36) = W at *
  refine (hup _).mono ?_
  rintro e w3 ⟨rfl, rfl⟩
  clear hup
  go_wp2
  go_ret
  exact ⟨ret_int HS.out.symm, hA⟩

set_option maxHeartbeats 2000000 in
set_option maxRecDepth 100000 in
theorem rstrainP_any (vl : Value) (l : Lr) (t : Sp) (th : Int) (w : World) (h : RLr w vl l) :
    Calls Tryd.prog 15 #[vl, .agg #[.int .i64 t.lo, .int .i64 t.hi], .int .i64 th] w (StrainA w l t th) := by
  have h0 := h
  obtain ⟨v0, rfl, hr, hI⟩ := h
  obtain ⟨a, cap, rfl, -, -, -⟩ := hr
  have hA : Below w.heap.size w ((w.alloc (.cells #[.slice a l.knees.length cap, .int .i64 l.factor] 24)).alloc (.cells #[.int .i64 t.lo, .int .i64 t.hi] 29)) := (below_boxS w _).alloc (by simp) _
  have hB := (Blk.new w #[.slice a l.knees.length cap, .int .i64 l.factor] 24).alloc (.cells #[.int .i64 t.lo, .int .i64 t.hi] 29)
  have hS := Blk.new (w.alloc (.cells #[.slice a l.knees.length cap, .int .i64 l.factor] 24)) #[.int .i64 t.lo, .int .i64 t.hi] 29
  rw [World.size_alloc] at hS
  have HR := Lib.hid (fun V (hV : Below w.heap.size w V) => h0.mono (ext_of_below hV))
  clear h0
  have c0 := hB.cell 0 _ rfl
  have c1 := hB.cell 1 _ rfl
  have s0 := hS.cell 0 _ rfl
  have s1 := hS.cell 1 _ rfl
  go_enter Tryd.func15, Tryd.ntmps15
  go_wp2_with fail
  generalize (w.alloc (.cells #[.slice a l.knees.length cap, .int .i64 l.factor] 24)).alloc (.cells #[.int .i64 t.lo, .int .i64 t.hi] 29) = W at *
  refine (rsteepP_any _ l t W (HR.out _ hA)).mono ?_
  rintro e w1 ⟨rfl, hb1⟩
  have hA1 := hA.trans (hb1.mono hA.size)
  have hB1 := hB.below hb1 hB.lt
  clear hb1 hA hB hS c0 c1 s0 s1
  by_cases hc : tempsE l t = 0
  case neg =>
    have HX := Lib.hid (show strainS l t th = (0, tempsE l t) by rw [strainS, if_neg (by rw [strainE, if_neg hc]; exact hc), strainE, if_neg hc])
    have e1 : steepS l t = ((0, 0), tempsE l t) := by rw [steepS, if_neg hc]
    rw [e1]
    have hne : (tempsE l t != 0) = true := by simpa using hc
    have hF := hA1.alloc hA1.size (.cells #[.int .i64 0, .int .i64 0] 36)
    clear hc hB1 hA1 e1
    go_wp2
    go_ret2
    exact ⟨by rw [HX.out]; rfl, hF⟩
  have e1 : steepS l t = (lowQ (steepL l t), 0) := by rw [steepS, if_pos hc]
  obtain ⟨hok, -⟩ := tempsE_ok hc
  have hqo := steepL_ok hok t
  have hlq := lowQ_q hqo
  have hsl : strQ l.factor (lowQ (steepL l t)) th = strainL l t th := strQ_low hlq _ _
  have hlo : QOk (lowQ (steepL l t)) := ⟨hlq.n1, Int.le_trans hlq.n2 hqo.n2, hlq.d1, Int.le_trans hlq.d2 hqo.d2⟩
  have HE := Lib.hid (show strainE l t th = if btw th 1 2000 = true then 0 else 1 by rw [strainE, if_pos hc])
  rw [e1]
  clear hc e1 hqo hlq
  obtain ⟨q, hq⟩ : ∃ q, lowQ (steepL l t) = q := ⟨_, rfl⟩
  rw [hq] at hsl hlo ⊢
  clear hq
  have hA2 := hA1.alloc hA1.size (.cells #[.int .i64 q.1, .int .i64 q.2] 36)
  have hB2 := hB1.alloc (.cells #[.int .i64 q.1, .int .i64 q.2] 36)
  have hQ2 := Blk.new w1 #[.int .i64 q.1, .int .i64 q.2] 36
  clear hA1 hB1
  by_cases h1 : th < 1
  · have g1 := decide_eq_true h1
    have HX := Lib.hid (show strainS l t th = (0, 1) by
      have h1 : strainE l t th = 1 := by rw [HE.out, if_neg (by unfold btw; simp; omega)]
      rw [strainS, h1]; rfl)
    clear hB2 hQ2
    go_wp2
    go_ret2
    exact ⟨by rw [HX.out]; rfl, hA2⟩
  have g1 := decide_eq_false h1
  by_cases h2 : 2000 < th
  · have g2 := decide_eq_true h2
    have HX := Lib.hid (show strainS l t th = (0, 1) by
      have h1 : strainE l t th = 1 := by rw [HE.out, if_neg (by unfold btw; simp; omega)]
      rw [strainS, h1]; rfl)
    clear hB2 hQ2
    go_wp2
    go_ret2
    exact ⟨by rw [HX.out]; rfl, hA2⟩
  have g2 := decide_eq_false h2
  have HX := Lib.hid (show strainS l t th = (strainL l t th, 0) by rw [strainS, if_pos (by rw [HE.out, if_pos (btw_true.2 (by omega))])])
  have c0 := hB2.cell 0 _ rfl
  have c1 := hB2.cell 1 _ rfl
  have q0 := hQ2.cell 0 _ rfl
  have q1 := hQ2.cell 1 _ rfl
  go_wp2_with fail
  refine (rstrainF_any a cap l q.1 q.2 th _ hok.factor hlo (by omega)).mono ?_
  rintro e w3 ⟨rfl, hb3⟩
  have hAy := hA2.trans (hb3.mono hA2.size)
  have hsl' : strQ l.factor (q.1, q.2) th = strainL l t th := hsl
  rw [hsl']
  clear hb3 hA2 hB2 hQ2 c0 c1 q0 q1 hsl hsl'
  go_wp2
  go_ret2
  exact ⟨by rw [HX.out]; rfl, hAy⟩

end Go.Proofs.YtmmlocjiegkjeaaDoor
