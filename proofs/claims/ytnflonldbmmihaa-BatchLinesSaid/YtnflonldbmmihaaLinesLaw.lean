/- BatchLines: the law's own call; no statement is proved here. -/
import Derived.Test.YtnflonldbmmihaaInside
import Derived.Deep.QuietTactic
import Derived.BigQuiet
namespace Go.Proofs.Ytnflonldbmmihaa
open Go.RowKit Go.PlainAid
set_option linter.unusedVariables false

def keepsTo (b : Bat) (r : List Int) (k : Nat) : Bool := ((linesB b).take k).all fun l => decide (dotB r l.fs ≤ l.bound)
theorem keepsTo_succ (b : Bat) (r : List Int) (k : Nat) (h : k < (linesB b).length) : keepsTo b r (k + 1) = (keepsTo b r k && decide (dotB r (linesB b)[k].fs ≤ (linesB b)[k].bound)) := by
  unfold keepsTo
  rw [List.take_succ_eq_append_getElem h, List.all_append]
  simp
theorem dotTo_comm (a c : List Int) (k : Nat) : dotTo a c k = dotTo c a k := by
  unfold dotTo
  congr 1
  apply List.map_congr_left
  intro i _
  exact Int.mul_comm _ _
theorem keeps_is {b : Bat} {r : List Int} (hl : r.length = b.mats.length) : keepsTo b r (linesB b).length = passB b r := by
  rw [Bool.eq_iff_iff]
  unfold keepsTo passB
  rw [List.take_of_length_le (Nat.le_refl _)]
  simp only [List.all_eq_true, Bool.not_eq_true', List.any_eq_false, brokenB, decide_eq_true_eq]
  have key : ∀ l ∈ linesB b, dotB r l.fs = dotB l.fs r := by
    intro l hm
    unfold dotB
    rw [dotTo_comm, line_len hm, hl]
  constructor
  · intro h l hm
    have := h l hm
    rw [key l hm] at this
    omega
  · intro h l hm
    have := h l hm
    rw [key l hm]
    omega

def loTo (g : List Sp) (k : Nat) : Int := ((g.take k).map Sp.lo).sum
theorem loTo_succ (g : List Sp) (k : Nat) (h : k < g.length) (y : Int) (hy : y = wrap64 (loTo g k)) : wrap64 (y + g[k].lo) = wrap64 (loTo g (k + 1)) := by
  rw [hy, wrap_add]
  unfold loTo
  rw [List.take_succ_eq_append_getElem h, List.map_append, List.map_singleton, sum_snoc]
theorem loTo_all (g : List Sp) : wrap64 (loTo g g.length) = (tot g).lo := by
  unfold loTo tot
  rw [List.take_of_length_le (Nat.le_refl _)]

def inTo (s t : Nat → Sp) (k : Nat) : Bool := (List.range k).all fun i => decide ((t i).lo ≤ (s i).lo) && decide ((s i).hi ≤ (t i).hi)
theorem inTo_succ (s t : Nat → Sp) (k : Nat) : inTo s t (k + 1) = (inTo s t k && (decide ((t k).lo ≤ (s k).lo) && decide ((s k).hi ≤ (t k).hi))) := by
  unfold inTo
  rw [List.range_succ, List.all_append]
  simp
theorem inTo_iff (s t : Nat → Sp) (k : Nat) : inTo s t k = true ↔ ∀ i, i < k → (t i).lo ≤ (s i).lo ∧ (s i).hi ≤ (t i).hi := by
  unfold inTo
  simp [List.all_eq_true]
theorem and_step {a p q r : Bool} {u : Bool} (hu : u = (a && p)) (h : q = (p && r)) : (u && r) = (a && q) := by
  rw [hu, h, Bool.and_assoc]

theorem glassTo_at (b : Bat) (r : List Int) (k i : Nat) (h : i < (glassTo b r k).length) : (glassTo b r k)[i] = valueB (shareB b.oxides.length i) (gramsB b r) := by
  simp [glassTo]

theorem below_drewN {B n : Nat} {a w : World} (h : Below B a w) : Below B a (w.drewN n) := ⟨h.os, h.tape, h.output, h.size, h.block⟩

def pAt (b : Bat) (i : Nat) : Prp := b.props.getD i ⟨ByteArray.empty, [], ⟨0, 0⟩⟩
theorem pAt_get {b : Bat} {i : Nat} (h : i < b.props.length) : pAt b i = b.props[i] := by
  simp [pAt, List.getD, List.getElem?_eq_getElem h]

/-- what the law reckons is whether the recipe passes. -/
theorem law_says {b : Bat} {r : List Int} {t : Bool} (hp : passB b r = t) (hi : passB b r = true ↔ insideP b r) :
    (((decide (1000 * b.wanted ≤ (tot (gramsB b r)).lo) && inTo (fun i => valueB (shareB b.oxides.length i) (gramsB b r)) (fun i => b.shares.getD i ⟨0, 0⟩) b.oxides.length) && (decide (b.redox.lo ≤ (rdxB b r).lo) && decide ((rdxB b r).hi ≤ b.redox.hi))) && inTo (fun i => valueB (pAt b i).coefs (gramsB b r)) (fun i => (pAt b i).target) b.props.length) = t := by
  rw [← hp, Bool.eq_iff_iff, hi]
  unfold insideP
  simp only [Bool.and_eq_true, decide_eq_true_eq, inTo_iff]
  constructor
  · rintro ⟨⟨⟨g1, g2⟩, g3, g4⟩, g5⟩
    refine ⟨g1, g2, ⟨g3, g4⟩, fun p hp => ?_⟩
    obtain ⟨i, hi, rfl⟩ := List.getElem_of_mem hp
    have := g5 i hi
    rw [pAt_get hi] at this
    exact this
  · rintro ⟨g1, g2, ⟨g3, g4⟩, g5⟩
    refine ⟨⟨⟨g1, g2⟩, g3, g4⟩, fun i hi => ?_⟩
    rw [pAt_get hi]
    exact g5 _ (List.getElem_mem hi)

theorem pubLines_parts (b : Bat) : (∃ n, (n != 0) = true ∧ pubLinesB b = ([], n)) ∨ pubLinesB b = (linesB b, 0) := by
  unfold pubLinesB
  split
  · exact .inr rfl
  · rename_i h
    exact .inl ⟨_, by simp [h], rfl⟩
theorem passes_parts2 (b : Bat) (r : List Int) : (∃ n, (n != 0) = true ∧ passesB b r = (false, n)) ∨ (bothB b r = 0 ∧ passesB b r = (passB b r, 0)) := by
  unfold passesB
  split
  · rename_i h
    exact .inr ⟨h, rfl⟩
  · rename_i h
    exact .inl ⟨_, by simp [h], rfl⟩

set_option maxHeartbeats 8000000 in
set_option maxRecDepth 100000 in
theorem linesLaw_any (vb vx : Value) (b : Bat) (x : Ask) (w : World) (h : RBat w vb b) (hx : RAsk w vx x) :
    Calls Try.prog 9 #[vb, vx] w (TrueB w) := by
  obtain ⟨a0, k0, a1, k1, a2, k2, a3, k3, rfl⟩ := h.agg
  obtain ⟨b0, j0, b1, j1, b5, j5, rfl⟩ := hx.agg
  obtain ⟨hr1, hr2, -⟩ := asks hx
  have hA := below_two w (.cells #[.slice a0 b.oxides.length k0, .slice a1 b.mats.length k1, .slice a2 b.shares.length k2, .slice a3 b.props.length k3, .int .i64 b.redox.lo, .int .i64 b.redox.hi, .int .i64 b.wanted] 29) (.cells #[.slice b0 x.recipe.length j0, .slice b1 x.other.length j1, .int .i64 x.property, .int .i64 x.lots, .int .i64 x.scale, .slice b5 x.weights.length j5] 44)
  have hB := (Blk.new w #[.slice a0 b.oxides.length k0, .slice a1 b.mats.length k1, .slice a2 b.shares.length k2, .slice a3 b.props.length k3, .int .i64 b.redox.lo, .int .i64 b.redox.hi, .int .i64 b.wanted] 29).alloc (.cells #[.slice b0 x.recipe.length j0, .slice b1 x.other.length j1, .int .i64 x.property, .int .i64 x.lots, .int .i64 x.scale, .slice b5 x.weights.length j5] 44)
  have hC : Blk ((w.alloc (.cells #[.slice a0 b.oxides.length k0, .slice a1 b.mats.length k1, .slice a2 b.shares.length k2, .slice a3 b.props.length k3, .int .i64 b.redox.lo, .int .i64 b.redox.hi, .int .i64 b.wanted] 29)).alloc (.cells #[.slice b0 x.recipe.length j0, .slice b1 x.other.length j1, .int .i64 x.property, .int .i64 x.lots, .int .i64 x.scale, .slice b5 x.weights.length j5] 44)) (w.heap.size + 1) #[.slice b0 x.recipe.length j0, .slice b1 x.other.length j1, .int .i64 x.property, .int .i64 x.lots, .int .i64 x.scale, .slice b5 x.weights.length j5] 44 := by
    have := Blk.new (w.alloc (.cells #[.slice a0 b.oxides.length k0, .slice a1 b.mats.length k1, .slice a2 b.shares.length k2, .slice a3 b.props.length k3, .int .i64 b.redox.lo, .int .i64 b.redox.hi, .int .i64 b.wanted] 29)) #[.slice b0 x.recipe.length j0, .slice b1 x.other.length j1, .int .i64 x.property, .int .i64 x.lots, .int .i64 x.scale, .slice b5 x.weights.length j5] 44
    simpa using this
  go_enter Try.func9, Try.ntmps9
  go_wp2_with fail
  generalize (w.alloc (.cells #[.slice a0 b.oxides.length k0, .slice a1 b.mats.length k1, .slice a2 b.shares.length k2, .slice a3 b.props.length k3, .int .i64 b.redox.lo, .int .i64 b.redox.hi, .int .i64 b.wanted] 29)).alloc (.cells #[.slice b0 x.recipe.length j0, .slice b1 x.other.length j1, .int .i64 x.property, .int .i64 x.lots, .int .i64 x.scale, .slice b5 x.weights.length j5] 44) = W at *
  refine (great_any _ b _ (h.mono (ext_of_below hA))).mono ?_
  rintro e w1 ⟨t1, rfl, hb1⟩
  have hA1 := hA.trans (hb1.mono hA.size)
  have hB1 := hB.below hb1 hB.lt
  have hC1 := hC.below hb1 hC.lt
  clear hA hB hC hb1
  cases t1
  case true =>
    go_wp2_with fail
    refine (lives_any _).mono ?_
    rintro e wl ⟨rfl, hbl⟩
    have hAl := hA1.trans (hbl.mono hA1.size)
    clear hbl hB1 hC1
    go_wp2
    go_ret
    exact ⟨rfl, hAl⟩
  case false =>
    have c0 := hC1.cell 0 (.slice b0 x.recipe.length j0) rfl
    have c1 := hC1.cell 1 (.slice b1 x.other.length j1) rfl
    have c2 := hC1.cell 2 (.int .i64 x.property) rfl
    have c3 := hC1.cell 3 (.int .i64 x.lots) rfl
    have c4 := hC1.cell 4 (.int .i64 x.scale) rfl
    have c5 := hC1.cell 5 (.slice b5 x.weights.length j5) rfl
    go_wp2_with fail
    refine (wide_any _ x _ ?_).mono ?_
    · exact hx.mono (ext_of_below hA1)
    rintro e w2 ⟨t2, rfl, hb2⟩
    have hA2 := hA1.trans (hb2.mono hA1.size)
    have hB2 := hB1.below hb2 hB1.lt
    have hC2 := hC1.below hb2 hC1.lt
    clear hA1 hB1 hC1 hb2 hx c0 c1 c2 c3 c4 c5
    cases t2
    case true =>
      go_wp2_with fail
      refine (lives_any _).mono ?_
      rintro e wl ⟨rfl, hbl⟩
      have hAl := hA2.trans (hbl.mono hA2.size)
      clear hbl hB2 hC2
      go_wp2
      go_ret
      exact ⟨rfl, hAl⟩
    have hp := pubLines_parts b
    have f0 := hB2.cell 0 (.slice a0 b.oxides.length k0) rfl
    have f1 := hB2.cell 1 (.slice a1 b.mats.length k1) rfl
    have f2 := hB2.cell 2 (.slice a2 b.shares.length k2) rfl
    have f3 := hB2.cell 3 (.slice a3 b.props.length k3) rfl
    have f4 := hB2.cell 4 (.int .i64 b.redox.lo) rfl
    have f5 := hB2.cell 5 (.int .i64 b.redox.hi) rfl
    have f6 := hB2.cell 6 (.int .i64 b.wanted) rfl
    go_wp2_with fail
    refine (pubLines_any _ b _ (h.mono (ext_of_below hA2))).mono ?_
    rintro e w3 ⟨vl, rfl, hvl, hb3⟩
    have hA3 := hA2.trans (hb3.mono hA2.size)
    have hB3 := hB2.below hb3 hB2.lt
    have hC3 := hC2.below hb3 hC2.lt
    clear hA2 hB2 hC2 hb3 f0 f1 f2 f3 f4 f5 f6
    have hq := passes_parts2 b x.recipe
    have f0 := hB3.cell 0 (.slice a0 b.oxides.length k0) rfl
    have f1 := hB3.cell 1 (.slice a1 b.mats.length k1) rfl
    have f2 := hB3.cell 2 (.slice a2 b.shares.length k2) rfl
    have f3 := hB3.cell 3 (.slice a3 b.props.length k3) rfl
    have f4 := hB3.cell 4 (.int .i64 b.redox.lo) rfl
    have f5 := hB3.cell 5 (.int .i64 b.redox.hi) rfl
    have f6 := hB3.cell 6 (.int .i64 b.wanted) rfl
    have c0 := hC3.cell 0 (.slice b0 x.recipe.length j0) rfl
    go_wp2_with fail
    refine (passes_any _ _ b x.recipe _ (h.mono (ext_of_below hA3)) (hr1.mono (ext_of_below hA3))).mono ?_
    rintro e w4 ⟨rfl, hb4⟩
    have hA4 := hA3.trans (hb4.mono hA3.size)
    have hB4 := hB3.below hb4 hB3.lt
    have hC4 := hC3.below hb4 hC3.lt
    have hvl4 := hvl.mono (ext_of_below hb4)
    clear hA3 hB3 hC3 hb4 hvl hr2 f0 f1 f2 f3 f4 f5 f6 c0
    rcases hp with ⟨n, hn, hp⟩ | hp
    · rw [hp]
      clear hp hq hvl4
      go_wp2_with fail
      refine (lives_any _).mono ?_
      rintro e wl ⟨rfl, hbl⟩
      have hAl := hA4.trans (hbl.mono hA4.size)
      clear hbl hB4 hC4
      go_wp2
      go_ret
      exact ⟨rfl, hAl⟩
    · rw [hp] at hvl4 ⊢
      rcases hq with ⟨n, hn, hq⟩ | ⟨hbo, hq⟩
      · rw [hq]
        clear hp hq hvl4
        go_wp2_with fail
        refine (lives_any _).mono ?_
        rintro e wl ⟨rfl, hbl⟩
        have hAl := hA4.trans (hbl.mono hA4.size)
        clear hbl hB4 hC4
        go_wp2
        go_ret
        exact ⟨rfl, hAl⟩
      · rw [hq]
        obtain ⟨g1, g2, g3⟩ := rec_len hbo
        have hok := ok_of g1
        have hki := keeps_is g2
        have hms := hok.mt
        have hrl1 : x.recipe.length ≤ b.mats.length := by omega
        have hrl2 : b.mats.length ≤ x.recipe.length := by omega
        have G2 := Lib.hid g2
        have G3 := Lib.hid g3
        have HB0 := Lib.hid hbo
        have HKI := Lib.hid hki
        clear hp hq g1 g2 g3 hbo hki
        generalize hps : passB b x.recipe = ps at *
        have HPS := Lib.hid hps
        clear hps
        obtain ⟨al, kl, rfl, -, ⟨-, ll⟩, hll⟩ := hvl4
        have hA4s := hA4.size
        simp only at ll hll
        go_wp2
        obtain ⟨ar, kr, er, -, ⟨-, lr⟩, hrl⟩ := id hr1
        simp only [Value.slice.injEq, true_and] at er
        obtain ⟨rfl, rfl⟩ := er
        have hlines : ∀ l ∈ linesB b, l.fs.length = b.mats.length := fun l hm => line_len hm
        go_loopw [9, 10] (fun v i wr => ∃ (k : Nat) (t : Bool), k ≤ (linesB b).length ∧ i = .int .i64 k ∧ v = .bool t ∧ Hid (t = keepsTo b x.recipe k) ∧ Below w4.heap.size w4 wr) (fun _ i _ => (linesB b).length - (intOf i).toNat)
        case atStart => exact ⟨0, true, Nat.zero_le _, rfl, rfl, rfl, Below.refl _ _⟩
        case round =>
          obtain ⟨k, t, hk, rfl, rfl, hkt, hb⟩ := hrel
          have hA5 := hA4.trans (hb.mono hA4s)
          by_cases hlt : k < (linesB b).length
          · obtain ⟨b6, o6, rfl, vf, ub, g1, g2, hfs, rfl, hbd⟩ := hll k hlt
            obtain ⟨af, kf, rfl, -, ⟨-, lf⟩, hfl⟩ := hfs
            have hlen := hlines _ (List.getElem_mem hlt)
            have hfl1 : (linesB b)[k].fs.length ≤ x.recipe.length := by omega
            have hfl2 : x.recipe.length ≤ (linesB b)[k].fs.length := by omega
            have hst := keepsTo_succ b x.recipe k hlt
            simp only at g1 g2
            have hbl := cell_lt g1
            simp only at hbl
            replace g1 := ext_of_below hb _ _ g1
            replace g2 := ext_of_below hb _ _ g2
            have hC5 := hC4.below hb hC4.lt
            have c0 := hC5.cell 0 (.slice b0 x.recipe.length j0) rfl
            clear hlines hlen
            generalize (linesB b)[k] = l at *
            have hd1 : decide ((l.fs.length : Int) = (x.recipe.length : Int)) = true := decide_eq_true (by omega)
            clear hll hC5 h hr1 hB4
            go_wp2_with fail
            have hd2 : (((l.fs.length : Int)) != (x.recipe.length : Int)) = false := by simp; omega
            go_region
            go_wp2
            obtain ⟨wo, rfl⟩ : ∃ wo : World, wo = wr := ⟨_, rfl⟩
            go_loopw [11, 12] (fun s i wr => ∃ (j : Nat) (y : Int), j ≤ x.recipe.length ∧ i = .int .i64 j ∧ s = .int .i64 y ∧ Hid (y = wrap64 (dotTo x.recipe l.fs j)) ∧ Below wo.heap.size wo wr) (fun _ i _ => x.recipe.length - (intOf i).toNat)
            case atStart => exact ⟨0, 0, Nat.zero_le _, rfl, rfl, by simp [wrap64, Hid, dotTo], (Below.refl _ _).drew⟩
            case round =>
              obtain ⟨j, y, hj, rfl, rfl, hy, hbw⟩ := hrel
              replace c0 := ext_of_below hbw _ _ c0
              replace g1 := ext_of_below hbw _ _ g1
              replace g2 := ext_of_below hbw _ _ g2
              have hA6 := hA5.trans (hbw.mono hA5.size)
              by_cases hlj : j < x.recipe.length
              · obtain ⟨b7, o7, rfl, q1, -⟩ := hrl j hlj
                obtain ⟨b8, o8, rfl, q2, -⟩ := hfl j (by omega)
                simp only [Nat.mul_one] at q1 q2
                have hq1 := cell_lt q1
                have hst2 := dotTo_succ x.recipe l.fs j y hy.out
                have hjf : j < l.fs.length := by omega
                rw [show x.recipe.getD j 0 = x.recipe[j]'hlj by simp [List.getD, List.getElem?_eq_getElem hlj], show l.fs.getD j 0 = l.fs[j]'hjf by simp [List.getD, List.getElem?_eq_getElem hjf]] at hst2
                have HS := Lib.hid hst2
                replace q1 := ext_of_below hA6 _ _ q1
                replace q2 := ext_of_below hbw _ _ (ext_of_below hb _ _ q2)
                clear hrl hfl hst2 hy hst hA6 g2 hC4 hA4 hA5 hb
                generalize x.recipe[j] = p at *
                generalize l.fs[j]'hjf = q at *
                go_wp2_with fail
                go_region
                go_wp2
                go_roundw
                case rel => exact ⟨j + 1, _, by omega, by go_num, rfl, HS, hbw.drew⟩
                case measure => simp [intOf]; omega
              · have hyy : y = dotB x.recipe l.fs := by rw [hy.out, show j = x.recipe.length by omega]; rfl
                have hbF := hb.trans (hbw.mono hb.size)
                rw [← hyy, ← hkt.out] at hst
                clear hy hyy hrl hfl hA6 hkt hbw
                have HS := Lib.hid hst
                clear hst hd1 hd2 hA4 hA5 hb hC4
                cases t
                case false =>
                  go_wp2
                  go_roundw
                  case rel => exact ⟨k + 1, _, by omega, by go_num, rfl, HS.out.symm, by first | exact hbF | exact hbF.drew⟩
                  case measure => simp [intOf]; omega
                case true =>
                  go_wp2
                  go_roundw
                  case rel => exact ⟨k + 1, _, by omega, by go_num, rfl, HS.out.symm, by first | exact hbF | exact hbF.drew⟩
                  case measure => simp [intOf]; omega
          · have hkp : t = ps := by rw [hkt.out, show k = (linesB b).length by omega, HKI.out]
            have hC5 := hC4.below hb hC4.lt
            have hB5 := hB4.below hb hB4.lt
            clear hkt HKI hll hrl hlines hB4 hC4 hA4 hb
            subst hkp
            have f0 := hB5.cell 0 (.slice a0 b.oxides.length k0) rfl
            have f1 := hB5.cell 1 (.slice a1 b.mats.length k1) rfl
            have f2 := hB5.cell 2 (.slice a2 b.shares.length k2) rfl
            have f3 := hB5.cell 3 (.slice a3 b.props.length k3) rfl
            have f4 := hB5.cell 4 (.int .i64 b.redox.lo) rfl
            have f5 := hB5.cell 5 (.int .i64 b.redox.hi) rfl
            have f6 := hB5.cell 6 (.int .i64 b.wanted) rfl
            have c0 := hC5.cell 0 (.slice b0 x.recipe.length j0) rfl
            have hbr := brings_any _ _ b x.recipe wr (h.mono (ext_of_below hA5)) (hr1.mono (ext_of_below hA5)) hok G2.out
            go_wp2_with fail
            refine hbr.mono ?_
            rintro e w5 ⟨vg, rfl, hvg, hb5⟩
            have hA6 := hA5.trans (hb5.mono hA5.size)
            have hB6 := hB5.below hb5 hB5.lt
            have hC6 := hC5.below hb5 hC5.lt
            have hvg5 := hvg.mono (vis_ext _ _)
            clear hbr hvg hb5 hB5 hC5 hA5 f0 f1 f2 f3 f4 f5 f6 c0
            have hgl : (gramsB b x.recipe).length = b.oxides.length := gTo_len _ _ _ _
            have hT := tot_bd hok G3.out G2.out
            have hox := hok.ox
            have hgl1 : (gramsB b x.recipe).length ≤ 12 := by omega
            have HGL := Lib.hid hgl
            have hLA := Lib.hid (loTo_all (gramsB b x.recipe))
            obtain ⟨ag, kg, rfl, -, ⟨-, lg⟩, hgg⟩ := id hvg5
            clear hgl
            go_wp2
            go_loopw [14, 15] (fun v i wr => ∃ (k : Nat) (y : Int), k ≤ (gramsB b x.recipe).length ∧ i = .int .i64 k ∧ v = .int .i64 y ∧ Hid (y = wrap64 (loTo (gramsB b x.recipe) k)) ∧ Below w5.heap.size w5 wr) (fun _ i _ => (gramsB b x.recipe).length - (intOf i).toNat)
            case atStart => exact ⟨0, 0, Nat.zero_le _, rfl, rfl, by simp [wrap64, Hid, loTo], Below.refl _ _⟩
            case round =>
              obtain ⟨k, y, hk, rfl, rfl, hy, hb⟩ := hrel
              by_cases hlt : k < (gramsB b x.recipe).length
              · obtain ⟨b6, o6, rfl, q1, -⟩ := hgg k hlt
                have hst := Lib.hid (loTo_succ (gramsB b x.recipe) k hlt y hy.out)
                replace q1 := ext_of_below hb _ _ q1
                clear hgg hy hLA hT hB6 hC6 h hr1
                generalize (gramsB b x.recipe)[k] = s at *
                go_wp2
                go_roundw
                case rel => exact ⟨k + 1, _, by omega, by go_num, rfl, hst, by first | exact hb | exact hb.drew⟩
                case measure => simp [intOf]; omega
              · have hyl : y = (tot (gramsB b x.recipe)).lo := by rw [hy.out, show k = (gramsB b x.recipe).length by omega, hLA.out]
                have hA7 := hA6.trans (hb.mono hA6.size)
                have hB7 := hB6.below hb hB6.lt
                have hC7 := hC6.below hb hC6.lt
                clear hy hLA hgg hB6 hC6 hA6 hvg5 hb
                subst hyl
                have hw := hok.wanted
                have f0 := hB7.cell 0 (.slice a0 b.oxides.length k0) rfl
                have f1 := hB7.cell 1 (.slice a1 b.mats.length k1) rfl
                have f2 := hB7.cell 2 (.slice a2 b.shares.length k2) rfl
                have f3 := hB7.cell 3 (.slice a3 b.props.length k3) rfl
                have f4 := hB7.cell 4 (.int .i64 b.redox.lo) rfl
                have f5 := hB7.cell 5 (.int .i64 b.redox.hi) rfl
                have f6 := hB7.cell 6 (.int .i64 b.wanted) rfl
                have c0 := hC7.cell 0 (.slice b0 x.recipe.length j0) rfl
                have hgl := glass_any _ _ b x.recipe wr (h.mono (ext_of_below hA7)) (hr1.mono (ext_of_below hA7))
                go_wp2_with fail
                refine hgl.mono ?_
                rintro e w6 ⟨vs, rfl, hvs, hb6⟩
                have hA8 := hA7.trans (hb6.mono hA7.size)
                have hB8 := hB7.below hb6 hB7.lt
                have hC8 := hC7.below hb6 hC7.lt
                have hvs6 := hvs.mono (vis_ext _ _)
                clear hgl hvs hb6 hB7 hC7 hA7 f0 f1 f2 f3 f4 f5 f6 c0
                by_cases hz : (tot (gramsB b x.recipe)).lo = 0
                · have hge : glassB b x.recipe = ([], 8) := by simp [glassB, HB0.out, hz]
                  have hpf : t = false := by rw [← HPS.out]; exact none_pass hok G3.out G2.out hz
                  rw [hge] at hvs6 ⊢
                  rw [hz]
                  have hd : decide (1000 * b.wanted ≤ (0 : Int)) = false := decide_eq_false (by omega)
                  clear hge hvs6 HPS
                  subst hpf
                  go_wp2_with fail
                  refine (lives_any _).mono ?_
                  rintro e wl ⟨rfl, hbl⟩
                  have hAl := hA8.trans (hbl.mono hA8.size)
                  clear hbl hB8 hC8
                  go_wp2
                  go_ret
                  exact ⟨rfl, hAl⟩
                · have hge : glassB b x.recipe = (glassTo b x.recipe b.oxides.length, 0) := by simp [glassB, HB0.out, hz]
                  rw [hge] at hvs6 ⊢
                  have hli := Lib.hid (lines_inside hok G3.out G2.out hz)
                  have hsl : (glassTo b x.recipe b.oxides.length).length = b.oxides.length := glassTo_len _ _ _
                  have hsh := hok.shLen
                  obtain ⟨ap, kp, rfl, -, ⟨-, lp⟩, hpp⟩ := id hvs6
                  obtain ⟨v0, v1, v2, v3, ev, y0, y1, y2, y3, i1, i2, i3⟩ := id h
                  simp only [Value.agg.injEq, Array.mk.injEq, List.cons.injEq, and_true] at ev
                  obtain ⟨-, -, rfl, rfl, -⟩ := ev
                  obtain ⟨a2', k2', e2, -, ⟨-, l2⟩, hl2⟩ := y2
                  simp only [Value.slice.injEq, true_and] at e2
                  obtain ⟨rfl, rfl⟩ := e2
                  obtain ⟨a3', k3', e3, -, ⟨-, l3⟩, hl3⟩ := y3
                  simp only [Value.slice.injEq, true_and] at e3
                  obtain ⟨rfl, rfl⟩ := e3
                  have hsl1 : (glassTo b x.recipe b.oxides.length).length ≤ b.shares.length := by omega
                  have hsl2 : b.shares.length ≤ (glassTo b x.recipe b.oxides.length).length := by omega
                  have hsl3 : b.shares.length ≤ 12 := by omega
                  have hsv : ∀ i (hi : i < (glassTo b x.recipe b.oxides.length).length), (glassTo b x.recipe b.oxides.length)[i] = valueB (shareB b.oxides.length i) (gramsB b x.recipe) := fun i hi => glassTo_at _ _ _ _ hi
                  have HSH := Lib.hid hsh
                  have HSL := Lib.hid hsl
                  generalize hdd : decide (1000 * b.wanted ≤ (tot (gramsB b x.recipe)).lo) = d0 at *
                  have HD := Lib.hid hdd
                  clear hsh hsl hdd hge y0 y1 i1 i2 i3
                  generalize hss : glassTo b x.recipe b.oxides.length = ss at *
                  clear hss
                  go_wp2
                  go_loopw [16, 19] (fun v i wr => ∃ (k : Nat) (u : Bool), k ≤ ss.length ∧ i = .int .i64 k ∧ v = .bool u ∧ Hid (u = (d0 && inTo (fun i => valueB (shareB b.oxides.length i) (gramsB b x.recipe)) (fun i => b.shares.getD i ⟨0, 0⟩) k)) ∧ Below w6.heap.size w6 wr) (fun _ i _ => ss.length - (intOf i).toNat)
                  case atStart => exact ⟨0, d0, Nat.zero_le _, rfl, rfl, by simp [Hid, inTo], Below.refl _ _⟩
                  case round =>
                    obtain ⟨k, u, hk, rfl, rfl, hu, hb⟩ := hrel
                    by_cases hlt : k < ss.length
                    · obtain ⟨b6, o6, rfl, q1, q2, -, -⟩ := hpp k hlt
                      have hlt2 : k < b.shares.length := by omega
                      obtain ⟨b7, o7, rfl, p1, p2, -, -⟩ := hl2 k hlt2
                      have hst := and_step hu.out (inTo_succ (fun i => valueB (shareB b.oxides.length i) (gramsB b x.recipe)) (fun i => b.shares.getD i ⟨0, 0⟩) k)
                      try simp only at hst
                      rw [← hsv k hlt, show b.shares.getD k ⟨0, 0⟩ = b.shares[k] from by simp [List.getD, List.getElem?_eq_getElem hlt2]] at hst
                      have hB9 := hB8.below hb hB8.lt
                      have f2 := hB9.cell 2 (.slice (some ⟨b7, o7, none⟩) b.shares.length k2) rfl
                      try simp only at q1 q2 p1 p2
                      replace q1 := ext_of_below hb _ _ q1
                      replace q2 := ext_of_below hb _ _ q2
                      replace p1 := ext_of_below hb _ _ (ext_of_below hA8 _ _ p1)
                      replace p2 := ext_of_below hb _ _ (ext_of_below hA8 _ _ p2)
                      have n1 : (0 : Int) ≤ (k : Int) := Int.natCast_nonneg _
                      have n2 : (k : Int) < (ss.length : Int) := by omega
                      have n3 : (k : Int) < (b.shares.length : Int) := by omega
                      clear hpp hl2 hl3 hsv hB9 hu hvs6 hli HD h hr1 hC8 hB8
                      generalize ss[k] = s at *
                      generalize b.shares[k] = m at *
                      cases u
                      case false =>
                        have HS := Lib.hid hst
                        clear hst
                        go_wp2_with fail
                        go_quiet (fail)
                        go_wp2
                        go_roundw
                        case rel => exact ⟨k + 1, _, by omega, by go_num, rfl, HS.out, by first | exact hb | exact hb.drew | exact below_drewN hb⟩
                        case measure => simp [intOf]; omega
                      case true =>
                        by_cases e1 : m.lo ≤ s.lo
                        · rw [decide_eq_true e1] at hst
                          have HS := Lib.hid hst
                          clear hst
                          go_wp2_with fail
                          go_quiet (fail)
                          go_wp2
                          go_roundw
                          case rel => exact ⟨k + 1, _, by omega, by go_num, rfl, HS.out, by first | exact hb | exact hb.drew | exact below_drewN hb⟩
                          case measure => simp [intOf]; omega
                        · have e1' := decide_eq_false e1
                          rw [e1'] at hst
                          have HS := Lib.hid hst
                          clear hst
                          go_wp2_with fail
                          go_quiet (fail)
                          go_wp2
                          go_roundw
                          case rel => exact ⟨k + 1, _, by omega, by go_num, rfl, HS.out, by first | exact hb | exact hb.drew | exact below_drewN hb⟩
                          case measure => simp [intOf]; omega
                    · have hA9 := hA8.trans (hb.mono hA8.size)
                      have hB9 := hB8.below hb hB8.lt
                      have hC9 := hC8.below hb hC8.lt
                      have hkk : k = b.oxides.length := by rw [← HSL.out]; omega
                      rw [hkk] at hu
                      clear hpp hl2 hsv hvs6 hA8 hB8 hC8 hb
                      have f0 := hB9.cell 0 (.slice a0 b.oxides.length k0) rfl
                      have f1 := hB9.cell 1 (.slice a1 b.mats.length k1) rfl
                      have f2 := hB9.cell 2 (.slice a2 b.shares.length k2) rfl
                      have f3 := hB9.cell 3 (.slice a3 b.props.length k3) rfl
                      have f4 := hB9.cell 4 (.int .i64 b.redox.lo) rfl
                      have f5 := hB9.cell 5 (.int .i64 b.redox.hi) rfl
                      have f6 := hB9.cell 6 (.int .i64 b.wanted) rfl
                      have c0 := hC9.cell 0 (.slice b0 x.recipe.length j0) rfl
                      have hrx := redox_any _ _ b x.recipe wr (h.mono (ext_of_below hA9)) (hr1.mono (ext_of_below hA9))
                      rw [show redoxB b x.recipe = (rdxB b x.recipe, 0) by simp [redoxB, HB0.out, hz]] at hrx
                      go_wp2_with fail
                      refine hrx.mono ?_
                      rintro e w7 ⟨rfl, hb7⟩
                      have hA10 := hA9.trans (hb7.mono hA9.size)
                      have hB10 := hB9.below hb7 hB9.lt
                      have hC10 := hC9.below hb7 hC9.lt
                      clear hrx hb7 hA9 hB9 hC9 f0 f1 f2 f3 f4 f5 f6 c0
                      have hA11 := hA10.alloc hA10.size (.cells #[.int .i64 (rdxB b x.recipe).lo, .int .i64 (rdxB b x.recipe).hi] 27)
                      have hB11 := hB10.alloc (.cells #[.int .i64 (rdxB b x.recipe).lo, .int .i64 (rdxB b x.recipe).hi] 27)
                      have hC11 := hC10.alloc (.cells #[.int .i64 (rdxB b x.recipe).lo, .int .i64 (rdxB b x.recipe).hi] 27)
                      have hD11 := Blk.new w7 #[.int .i64 (rdxB b x.recipe).lo, .int .i64 (rdxB b x.recipe).hi] 27
                      have f3 := hB11.cell 3 (.slice a3 b.props.length k3) rfl
                      have f4 := hB11.cell 4 (.int .i64 b.redox.lo) rfl
                      have f5 := hB11.cell 5 (.int .i64 b.redox.hi) rfl
                      have r0 := hD11.cell 0 (.int .i64 (rdxB b x.recipe).lo) rfl
                      have r1 := hD11.cell 1 (.int .i64 (rdxB b x.recipe).hi) rfl
                      have hls := Lib.hid (law_says HPS.out hli.out)
                      clear hA10 hB10 hC10 hD11 HPS hli
                      have hgo : ∀ D1 : Bool, (u && (decide (b.redox.lo ≤ (rdxB b x.recipe).lo) && decide ((rdxB b x.recipe).hi ≤ b.redox.hi))) = D1 → (D1 && inTo (fun i => valueB (pAt b i).coefs (gramsB b x.recipe)) (fun i => (pAt b i).target) b.props.length) = t := by
                        intro D1 hD
                        rw [← hD, hu.out, ← HD.out]
                        exact hls.out
                      cases u
                      case false =>
                        have hlsD := hgo false rfl
                        clear hgo hu HD
                        go_wp2_with fail
                        generalize w7.alloc (.cells #[.int .i64 (rdxB b x.recipe).lo, .int .i64 (rdxB b x.recipe).hi] 27) = W8 at *
                        clear r0 r1 f4 f5
                        go_wp2
                        go_loopw [16, 22] (fun v i wr => ∃ (n : Nat) (u : Bool), n ≤ b.props.length ∧ i = .int .i64 n ∧ v = .bool u ∧ Hid (u = (false && inTo (fun i => valueB (pAt b i).coefs (gramsB b x.recipe)) (fun i => (pAt b i).target) n)) ∧ Below W8.heap.size W8 wr) (fun _ i _ => b.props.length - (intOf i).toNat)
                        case atStart => exact ⟨0, false, Nat.zero_le _, rfl, rfl, by simp [Hid, inTo], Below.refl _ _⟩
                        case round =>
                          obtain ⟨n, u, hn, rfl, rfl, hu, hb⟩ := hrel
                          have hA12 := hA11.trans (hb.mono hA11.size)
                          have hB12 := hB11.below hb hB11.lt
                          have hC12 := hC11.below hb hC11.lt
                          by_cases hln : n < b.props.length
                          · have hst := and_step hu.out (inTo_succ (fun i => valueB (pAt b i).coefs (gramsB b x.recipe)) (fun i => (pAt b i).target) n)
                            try simp only at hst
                            rw [pAt_get hln] at hst
                            have f0 := hB12.cell 0 (.slice a0 b.oxides.length k0) rfl
                            have f1 := hB12.cell 1 (.slice a1 b.mats.length k1) rfl
                            have f2 := hB12.cell 2 (.slice a2 b.shares.length k2) rfl
                            have f3 := hB12.cell 3 (.slice a3 b.props.length k3) rfl
                            have f4 := hB12.cell 4 (.int .i64 b.redox.lo) rfl
                            have f5 := hB12.cell 5 (.int .i64 b.redox.hi) rfl
                            have f6 := hB12.cell 6 (.int .i64 b.wanted) rfl
                            have c0 := hC12.cell 0 (.slice b0 x.recipe.length j0) rfl
                            have hva := val_any _ _ b x.recipe n (by have := hok.pr; omega) wr (h.mono (ext_of_below hA12)) (hr1.mono (ext_of_below hA12))
                            rw [show valB b x.recipe n = (valueB (b.props[n]'hln).coefs (gramsB b x.recipe), 0) by simp [valB, HB0.out, hz, hln]] at hva
                            clear hls hu
                            go_wp2_with fail
                            refine hva.mono ?_
                            rintro e w9 ⟨rfl, hb9⟩
                            obtain ⟨b7, o7, rfl, vc, ⟨t0, t1, t2, t3⟩, -, -⟩ := hl3 n hln
                            have hbn := (hb.trans (hb9.mono hb.size)).alloc (by have := hb.size; have := hb9.size; omega) (.cells #[.int .i64 (valueB (b.props[n]'hln).coefs (gramsB b x.recipe)).lo, .int .i64 (valueB (b.props[n]'hln).coefs (gramsB b x.recipe)).hi] 27)
                            have hAn := hA11.trans (hbn.mono hA11.size)
                            have hBn := hB11.below hbn hB11.lt
                            have hDn := Blk.new w9 #[.int .i64 (valueB (b.props[n]'hln).coefs (gramsB b x.recipe)).lo, .int .i64 (valueB (b.props[n]'hln).coefs (gramsB b x.recipe)).hi] 27
                            clear f0 f1 f2 f3 f4 f5 f6 c0
                            have f3 := hBn.cell 3 (.slice (some ⟨b7, o7, none⟩) b.props.length k3) rfl
                            have r0 := hDn.cell 0 (.int .i64 (valueB (b.props[n]'hln).coefs (gramsB b x.recipe)).lo) rfl
                            have r1 := hDn.cell 1 (.int .i64 (valueB (b.props[n]'hln).coefs (gramsB b x.recipe)).hi) rfl
                            simp only at t2 t3
                            replace t2 := ext_of_below hAn _ _ t2
                            replace t3 := ext_of_below hAn _ _ t3
                            have n1 : (0 : Int) ≤ (n : Int) := Int.natCast_nonneg _
                            have n2 : (n : Int) < (b.props.length : Int) := by omega
                            clear hva hl3 hb hb9 hA12 hB12 hC12 hAn hBn hDn hA11 hB11 hC11 h hr1 t0 t1 hok
                            generalize valueB (b.props[n]'hln).coefs (gramsB b x.recipe) = s at *
                            generalize (b.props[n]'hln).target = m at *
                            cases u
                            case false =>
                              have HS := Lib.hid hst
                              clear hst
                              go_wp2_with fail
                              go_quiet (fail)
                              go_wp2
                              go_roundw
                              case rel => exact ⟨n + 1, _, by omega, by go_num, rfl, HS.out, below_drewN hbn⟩
                              case measure => simp [intOf]; omega
                            case true =>
                              by_cases e1 : m.lo ≤ s.lo
                              · rw [decide_eq_true e1] at hst
                                have HS := Lib.hid hst
                                clear hst
                                go_wp2_with fail
                                go_quiet (fail)
                                go_wp2
                                go_roundw
                                case rel => exact ⟨n + 1, _, by omega, by go_num, rfl, HS.out, below_drewN hbn⟩
                                case measure => simp [intOf]; omega
                              · have e1' := decide_eq_false e1
                                rw [e1'] at hst
                                have HS := Lib.hid hst
                                clear hst
                                go_wp2_with fail
                                go_quiet (fail)
                                go_wp2
                                go_roundw
                                case rel => exact ⟨n + 1, _, by omega, by go_num, rfl, HS.out, below_drewN hbn⟩
                                case measure => simp [intOf]; omega
                          · have hut : u = t := by rw [hu.out, show n = b.props.length by omega]; exact hlsD
                            have f3 := hB12.cell 3 (.slice a3 b.props.length k3) rfl
                            clear hu hlsD hl3 h hr1 hB12 hC12 hb hA11
                            subst hut
                            cases u
                            case false =>
                              go_wp2_with fail
                              refine (lives_any _).mono ?_
                              rintro e wl ⟨rfl, hbl⟩
                              have hAl := hA12.trans (hbl.mono hA12.size)
                              clear hbl
                              go_wp2
                              go_ret
                              exact ⟨rfl, hAl⟩
                            case true =>
                              go_wp2_with fail
                              refine (lives_any _).mono ?_
                              rintro e wl ⟨rfl, hbl⟩
                              have hAl := hA12.trans (hbl.mono hA12.size)
                              clear hbl
                              go_wp2
                              go_ret
                              exact ⟨rfl, hAl⟩
                      case true =>
                        by_cases e1 : b.redox.lo ≤ (rdxB b x.recipe).lo
                        · by_cases e2 : (rdxB b x.recipe).hi ≤ b.redox.hi
                          · skip
                            have hlsD := hgo true (by simp [e1, e2])
                            clear hgo hu HD
                            go_wp2_with fail
                            generalize w7.alloc (.cells #[.int .i64 (rdxB b x.recipe).lo, .int .i64 (rdxB b x.recipe).hi] 27) = W8 at *
                            clear r0 r1 f4 f5
                            go_wp2
                            go_loopw [16, 22] (fun v i wr => ∃ (n : Nat) (u : Bool), n ≤ b.props.length ∧ i = .int .i64 n ∧ v = .bool u ∧ Hid (u = (true && inTo (fun i => valueB (pAt b i).coefs (gramsB b x.recipe)) (fun i => (pAt b i).target) n)) ∧ Below W8.heap.size W8 wr) (fun _ i _ => b.props.length - (intOf i).toNat)
                            case atStart => exact ⟨0, true, Nat.zero_le _, rfl, rfl, by simp [Hid, inTo], Below.refl _ _⟩
                            case round =>
                              obtain ⟨n, u, hn, rfl, rfl, hu, hb⟩ := hrel
                              have hA12 := hA11.trans (hb.mono hA11.size)
                              have hB12 := hB11.below hb hB11.lt
                              have hC12 := hC11.below hb hC11.lt
                              by_cases hln : n < b.props.length
                              · have hst := and_step hu.out (inTo_succ (fun i => valueB (pAt b i).coefs (gramsB b x.recipe)) (fun i => (pAt b i).target) n)
                                try simp only at hst
                                rw [pAt_get hln] at hst
                                have f0 := hB12.cell 0 (.slice a0 b.oxides.length k0) rfl
                                have f1 := hB12.cell 1 (.slice a1 b.mats.length k1) rfl
                                have f2 := hB12.cell 2 (.slice a2 b.shares.length k2) rfl
                                have f3 := hB12.cell 3 (.slice a3 b.props.length k3) rfl
                                have f4 := hB12.cell 4 (.int .i64 b.redox.lo) rfl
                                have f5 := hB12.cell 5 (.int .i64 b.redox.hi) rfl
                                have f6 := hB12.cell 6 (.int .i64 b.wanted) rfl
                                have c0 := hC12.cell 0 (.slice b0 x.recipe.length j0) rfl
                                have hva := val_any _ _ b x.recipe n (by have := hok.pr; omega) wr (h.mono (ext_of_below hA12)) (hr1.mono (ext_of_below hA12))
                                rw [show valB b x.recipe n = (valueB (b.props[n]'hln).coefs (gramsB b x.recipe), 0) by simp [valB, HB0.out, hz, hln]] at hva
                                clear hls hu
                                go_wp2_with fail
                                refine hva.mono ?_
                                rintro e w9 ⟨rfl, hb9⟩
                                obtain ⟨b7, o7, rfl, vc, ⟨t0, t1, t2, t3⟩, -, -⟩ := hl3 n hln
                                have hbn := (hb.trans (hb9.mono hb.size)).alloc (by have := hb.size; have := hb9.size; omega) (.cells #[.int .i64 (valueB (b.props[n]'hln).coefs (gramsB b x.recipe)).lo, .int .i64 (valueB (b.props[n]'hln).coefs (gramsB b x.recipe)).hi] 27)
                                have hAn := hA11.trans (hbn.mono hA11.size)
                                have hBn := hB11.below hbn hB11.lt
                                have hDn := Blk.new w9 #[.int .i64 (valueB (b.props[n]'hln).coefs (gramsB b x.recipe)).lo, .int .i64 (valueB (b.props[n]'hln).coefs (gramsB b x.recipe)).hi] 27
                                clear f0 f1 f2 f3 f4 f5 f6 c0
                                have f3 := hBn.cell 3 (.slice (some ⟨b7, o7, none⟩) b.props.length k3) rfl
                                have r0 := hDn.cell 0 (.int .i64 (valueB (b.props[n]'hln).coefs (gramsB b x.recipe)).lo) rfl
                                have r1 := hDn.cell 1 (.int .i64 (valueB (b.props[n]'hln).coefs (gramsB b x.recipe)).hi) rfl
                                simp only at t2 t3
                                replace t2 := ext_of_below hAn _ _ t2
                                replace t3 := ext_of_below hAn _ _ t3
                                have n1 : (0 : Int) ≤ (n : Int) := Int.natCast_nonneg _
                                have n2 : (n : Int) < (b.props.length : Int) := by omega
                                clear hva hl3 hb hb9 hA12 hB12 hC12 hAn hBn hDn hA11 hB11 hC11 h hr1 t0 t1 hok
                                generalize valueB (b.props[n]'hln).coefs (gramsB b x.recipe) = s at *
                                generalize (b.props[n]'hln).target = m at *
                                cases u
                                case false =>
                                  have HS := Lib.hid hst
                                  clear hst
                                  go_wp2_with fail
                                  go_quiet (fail)
                                  go_wp2
                                  go_roundw
                                  case rel => exact ⟨n + 1, _, by omega, by go_num, rfl, HS.out, below_drewN hbn⟩
                                  case measure => simp [intOf]; omega
                                case true =>
                                  by_cases e1 : m.lo ≤ s.lo
                                  · rw [decide_eq_true e1] at hst
                                    have HS := Lib.hid hst
                                    clear hst
                                    go_wp2_with fail
                                    go_quiet (fail)
                                    go_wp2
                                    go_roundw
                                    case rel => exact ⟨n + 1, _, by omega, by go_num, rfl, HS.out, below_drewN hbn⟩
                                    case measure => simp [intOf]; omega
                                  · have e1' := decide_eq_false e1
                                    rw [e1'] at hst
                                    have HS := Lib.hid hst
                                    clear hst
                                    go_wp2_with fail
                                    go_quiet (fail)
                                    go_wp2
                                    go_roundw
                                    case rel => exact ⟨n + 1, _, by omega, by go_num, rfl, HS.out, below_drewN hbn⟩
                                    case measure => simp [intOf]; omega
                              · have hut : u = t := by rw [hu.out, show n = b.props.length by omega]; exact hlsD
                                have f3 := hB12.cell 3 (.slice a3 b.props.length k3) rfl
                                clear hu hlsD hl3 h hr1 hB12 hC12 hb hA11
                                subst hut
                                cases u
                                case false =>
                                  go_wp2_with fail
                                  refine (lives_any _).mono ?_
                                  rintro e wl ⟨rfl, hbl⟩
                                  have hAl := hA12.trans (hbl.mono hA12.size)
                                  clear hbl
                                  go_wp2
                                  go_ret
                                  exact ⟨rfl, hAl⟩
                                case true =>
                                  go_wp2_with fail
                                  refine (lives_any _).mono ?_
                                  rintro e wl ⟨rfl, hbl⟩
                                  have hAl := hA12.trans (hbl.mono hA12.size)
                                  clear hbl
                                  go_wp2
                                  go_ret
                                  exact ⟨rfl, hAl⟩
                          · have e2' := decide_eq_false e2
                            have hlsD := hgo false (by simp [e1, e2])
                            clear hgo hu HD
                            go_wp2_with fail
                            generalize w7.alloc (.cells #[.int .i64 (rdxB b x.recipe).lo, .int .i64 (rdxB b x.recipe).hi] 27) = W8 at *
                            clear r0 r1 f4 f5
                            go_wp2
                            go_loopw [16, 22] (fun v i wr => ∃ (n : Nat) (u : Bool), n ≤ b.props.length ∧ i = .int .i64 n ∧ v = .bool u ∧ Hid (u = (false && inTo (fun i => valueB (pAt b i).coefs (gramsB b x.recipe)) (fun i => (pAt b i).target) n)) ∧ Below W8.heap.size W8 wr) (fun _ i _ => b.props.length - (intOf i).toNat)
                            case atStart => exact ⟨0, false, Nat.zero_le _, rfl, rfl, by simp [Hid, inTo], Below.refl _ _⟩
                            case round =>
                              obtain ⟨n, u, hn, rfl, rfl, hu, hb⟩ := hrel
                              have hA12 := hA11.trans (hb.mono hA11.size)
                              have hB12 := hB11.below hb hB11.lt
                              have hC12 := hC11.below hb hC11.lt
                              by_cases hln : n < b.props.length
                              · have hst := and_step hu.out (inTo_succ (fun i => valueB (pAt b i).coefs (gramsB b x.recipe)) (fun i => (pAt b i).target) n)
                                try simp only at hst
                                rw [pAt_get hln] at hst
                                have f0 := hB12.cell 0 (.slice a0 b.oxides.length k0) rfl
                                have f1 := hB12.cell 1 (.slice a1 b.mats.length k1) rfl
                                have f2 := hB12.cell 2 (.slice a2 b.shares.length k2) rfl
                                have f3 := hB12.cell 3 (.slice a3 b.props.length k3) rfl
                                have f4 := hB12.cell 4 (.int .i64 b.redox.lo) rfl
                                have f5 := hB12.cell 5 (.int .i64 b.redox.hi) rfl
                                have f6 := hB12.cell 6 (.int .i64 b.wanted) rfl
                                have c0 := hC12.cell 0 (.slice b0 x.recipe.length j0) rfl
                                have hva := val_any _ _ b x.recipe n (by have := hok.pr; omega) wr (h.mono (ext_of_below hA12)) (hr1.mono (ext_of_below hA12))
                                rw [show valB b x.recipe n = (valueB (b.props[n]'hln).coefs (gramsB b x.recipe), 0) by simp [valB, HB0.out, hz, hln]] at hva
                                clear hls hu
                                go_wp2_with fail
                                refine hva.mono ?_
                                rintro e w9 ⟨rfl, hb9⟩
                                obtain ⟨b7, o7, rfl, vc, ⟨t0, t1, t2, t3⟩, -, -⟩ := hl3 n hln
                                have hbn := (hb.trans (hb9.mono hb.size)).alloc (by have := hb.size; have := hb9.size; omega) (.cells #[.int .i64 (valueB (b.props[n]'hln).coefs (gramsB b x.recipe)).lo, .int .i64 (valueB (b.props[n]'hln).coefs (gramsB b x.recipe)).hi] 27)
                                have hAn := hA11.trans (hbn.mono hA11.size)
                                have hBn := hB11.below hbn hB11.lt
                                have hDn := Blk.new w9 #[.int .i64 (valueB (b.props[n]'hln).coefs (gramsB b x.recipe)).lo, .int .i64 (valueB (b.props[n]'hln).coefs (gramsB b x.recipe)).hi] 27
                                clear f0 f1 f2 f3 f4 f5 f6 c0
                                have f3 := hBn.cell 3 (.slice (some ⟨b7, o7, none⟩) b.props.length k3) rfl
                                have r0 := hDn.cell 0 (.int .i64 (valueB (b.props[n]'hln).coefs (gramsB b x.recipe)).lo) rfl
                                have r1 := hDn.cell 1 (.int .i64 (valueB (b.props[n]'hln).coefs (gramsB b x.recipe)).hi) rfl
                                simp only at t2 t3
                                replace t2 := ext_of_below hAn _ _ t2
                                replace t3 := ext_of_below hAn _ _ t3
                                have n1 : (0 : Int) ≤ (n : Int) := Int.natCast_nonneg _
                                have n2 : (n : Int) < (b.props.length : Int) := by omega
                                clear hva hl3 hb hb9 hA12 hB12 hC12 hAn hBn hDn hA11 hB11 hC11 h hr1 t0 t1 hok
                                generalize valueB (b.props[n]'hln).coefs (gramsB b x.recipe) = s at *
                                generalize (b.props[n]'hln).target = m at *
                                cases u
                                case false =>
                                  have HS := Lib.hid hst
                                  clear hst
                                  go_wp2_with fail
                                  go_quiet (fail)
                                  go_wp2
                                  go_roundw
                                  case rel => exact ⟨n + 1, _, by omega, by go_num, rfl, HS.out, below_drewN hbn⟩
                                  case measure => simp [intOf]; omega
                                case true =>
                                  by_cases e1 : m.lo ≤ s.lo
                                  · rw [decide_eq_true e1] at hst
                                    have HS := Lib.hid hst
                                    clear hst
                                    go_wp2_with fail
                                    go_quiet (fail)
                                    go_wp2
                                    go_roundw
                                    case rel => exact ⟨n + 1, _, by omega, by go_num, rfl, HS.out, below_drewN hbn⟩
                                    case measure => simp [intOf]; omega
                                  · have e1' := decide_eq_false e1
                                    rw [e1'] at hst
                                    have HS := Lib.hid hst
                                    clear hst
                                    go_wp2_with fail
                                    go_quiet (fail)
                                    go_wp2
                                    go_roundw
                                    case rel => exact ⟨n + 1, _, by omega, by go_num, rfl, HS.out, below_drewN hbn⟩
                                    case measure => simp [intOf]; omega
                              · have hut : u = t := by rw [hu.out, show n = b.props.length by omega]; exact hlsD
                                have f3 := hB12.cell 3 (.slice a3 b.props.length k3) rfl
                                clear hu hlsD hl3 h hr1 hB12 hC12 hb hA11
                                subst hut
                                cases u
                                case false =>
                                  go_wp2_with fail
                                  refine (lives_any _).mono ?_
                                  rintro e wl ⟨rfl, hbl⟩
                                  have hAl := hA12.trans (hbl.mono hA12.size)
                                  clear hbl
                                  go_wp2
                                  go_ret
                                  exact ⟨rfl, hAl⟩
                                case true =>
                                  go_wp2_with fail
                                  refine (lives_any _).mono ?_
                                  rintro e wl ⟨rfl, hbl⟩
                                  have hAl := hA12.trans (hbl.mono hA12.size)
                                  clear hbl
                                  go_wp2
                                  go_ret
                                  exact ⟨rfl, hAl⟩
                        · have e1' := decide_eq_false e1
                          have hlsD := hgo false (by simp [e1])
                          clear hgo hu HD
                          go_wp2_with fail
                          generalize w7.alloc (.cells #[.int .i64 (rdxB b x.recipe).lo, .int .i64 (rdxB b x.recipe).hi] 27) = W8 at *
                          clear r0 r1 f4 f5
                          go_wp2
                          go_loopw [16, 22] (fun v i wr => ∃ (n : Nat) (u : Bool), n ≤ b.props.length ∧ i = .int .i64 n ∧ v = .bool u ∧ Hid (u = (false && inTo (fun i => valueB (pAt b i).coefs (gramsB b x.recipe)) (fun i => (pAt b i).target) n)) ∧ Below W8.heap.size W8 wr) (fun _ i _ => b.props.length - (intOf i).toNat)
                          case atStart => exact ⟨0, false, Nat.zero_le _, rfl, rfl, by simp [Hid, inTo], Below.refl _ _⟩
                          case round =>
                            obtain ⟨n, u, hn, rfl, rfl, hu, hb⟩ := hrel
                            have hA12 := hA11.trans (hb.mono hA11.size)
                            have hB12 := hB11.below hb hB11.lt
                            have hC12 := hC11.below hb hC11.lt
                            by_cases hln : n < b.props.length
                            · have hst := and_step hu.out (inTo_succ (fun i => valueB (pAt b i).coefs (gramsB b x.recipe)) (fun i => (pAt b i).target) n)
                              try simp only at hst
                              rw [pAt_get hln] at hst
                              have f0 := hB12.cell 0 (.slice a0 b.oxides.length k0) rfl
                              have f1 := hB12.cell 1 (.slice a1 b.mats.length k1) rfl
                              have f2 := hB12.cell 2 (.slice a2 b.shares.length k2) rfl
                              have f3 := hB12.cell 3 (.slice a3 b.props.length k3) rfl
                              have f4 := hB12.cell 4 (.int .i64 b.redox.lo) rfl
                              have f5 := hB12.cell 5 (.int .i64 b.redox.hi) rfl
                              have f6 := hB12.cell 6 (.int .i64 b.wanted) rfl
                              have c0 := hC12.cell 0 (.slice b0 x.recipe.length j0) rfl
                              have hva := val_any _ _ b x.recipe n (by have := hok.pr; omega) wr (h.mono (ext_of_below hA12)) (hr1.mono (ext_of_below hA12))
                              rw [show valB b x.recipe n = (valueB (b.props[n]'hln).coefs (gramsB b x.recipe), 0) by simp [valB, HB0.out, hz, hln]] at hva
                              clear hls hu
                              go_wp2_with fail
                              refine hva.mono ?_
                              rintro e w9 ⟨rfl, hb9⟩
                              obtain ⟨b7, o7, rfl, vc, ⟨t0, t1, t2, t3⟩, -, -⟩ := hl3 n hln
                              have hbn := (hb.trans (hb9.mono hb.size)).alloc (by have := hb.size; have := hb9.size; omega) (.cells #[.int .i64 (valueB (b.props[n]'hln).coefs (gramsB b x.recipe)).lo, .int .i64 (valueB (b.props[n]'hln).coefs (gramsB b x.recipe)).hi] 27)
                              have hAn := hA11.trans (hbn.mono hA11.size)
                              have hBn := hB11.below hbn hB11.lt
                              have hDn := Blk.new w9 #[.int .i64 (valueB (b.props[n]'hln).coefs (gramsB b x.recipe)).lo, .int .i64 (valueB (b.props[n]'hln).coefs (gramsB b x.recipe)).hi] 27
                              clear f0 f1 f2 f3 f4 f5 f6 c0
                              have f3 := hBn.cell 3 (.slice (some ⟨b7, o7, none⟩) b.props.length k3) rfl
                              have r0 := hDn.cell 0 (.int .i64 (valueB (b.props[n]'hln).coefs (gramsB b x.recipe)).lo) rfl
                              have r1 := hDn.cell 1 (.int .i64 (valueB (b.props[n]'hln).coefs (gramsB b x.recipe)).hi) rfl
                              simp only at t2 t3
                              replace t2 := ext_of_below hAn _ _ t2
                              replace t3 := ext_of_below hAn _ _ t3
                              have n1 : (0 : Int) ≤ (n : Int) := Int.natCast_nonneg _
                              have n2 : (n : Int) < (b.props.length : Int) := by omega
                              clear hva hl3 hb hb9 hA12 hB12 hC12 hAn hBn hDn hA11 hB11 hC11 h hr1 t0 t1 hok
                              generalize valueB (b.props[n]'hln).coefs (gramsB b x.recipe) = s at *
                              generalize (b.props[n]'hln).target = m at *
                              cases u
                              case false =>
                                have HS := Lib.hid hst
                                clear hst
                                go_wp2_with fail
                                go_quiet (fail)
                                go_wp2
                                go_roundw
                                case rel => exact ⟨n + 1, _, by omega, by go_num, rfl, HS.out, below_drewN hbn⟩
                                case measure => simp [intOf]; omega
                              case true =>
                                by_cases e1 : m.lo ≤ s.lo
                                · rw [decide_eq_true e1] at hst
                                  have HS := Lib.hid hst
                                  clear hst
                                  go_wp2_with fail
                                  go_quiet (fail)
                                  go_wp2
                                  go_roundw
                                  case rel => exact ⟨n + 1, _, by omega, by go_num, rfl, HS.out, below_drewN hbn⟩
                                  case measure => simp [intOf]; omega
                                · have e1' := decide_eq_false e1
                                  rw [e1'] at hst
                                  have HS := Lib.hid hst
                                  clear hst
                                  go_wp2_with fail
                                  go_quiet (fail)
                                  go_wp2
                                  go_roundw
                                  case rel => exact ⟨n + 1, _, by omega, by go_num, rfl, HS.out, below_drewN hbn⟩
                                  case measure => simp [intOf]; omega
                            · have hut : u = t := by rw [hu.out, show n = b.props.length by omega]; exact hlsD
                              have f3 := hB12.cell 3 (.slice a3 b.props.length k3) rfl
                              clear hu hlsD hl3 h hr1 hB12 hC12 hb hA11
                              subst hut
                              cases u
                              case false =>
                                go_wp2_with fail
                                refine (lives_any _).mono ?_
                                rintro e wl ⟨rfl, hbl⟩
                                have hAl := hA12.trans (hbl.mono hA12.size)
                                clear hbl
                                go_wp2
                                go_ret
                                exact ⟨rfl, hAl⟩
                              case true =>
                                go_wp2_with fail
                                refine (lives_any _).mono ?_
                                rintro e wl ⟨rfl, hbl⟩
                                have hAl := hA12.trans (hbl.mono hA12.size)
                                clear hbl
                                go_wp2
                                go_ret
                                exact ⟨rfl, hAl⟩

end Go.Proofs.Ytnflonldbmmihaa
