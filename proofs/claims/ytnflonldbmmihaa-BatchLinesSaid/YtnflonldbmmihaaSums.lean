/- The sum of two recipes that pass: the law's own call; no statement is proved here. -/
import Derived.Test.YtnflonldbmmihaaOpen2
import Derived.Deep.AppendLies
namespace Go.Proofs.Ytnflonldbmmihaa
open Go.RowKit Go.PlainAid
set_option linter.unusedVariables false

theorem asks {w : World} {a0 a1 a5 : Option Addr} {k0 k1 k5 : Nat} {x : Ask} (h : RAsk w (.agg #[.slice a0 x.recipe.length k0, .slice a1 x.other.length k1, .int .i64 x.property, .int .i64 x.lots, .int .i64 x.scale, .slice a5 x.weights.length k5]) x) :
    RInts w (.slice a0 x.recipe.length k0) x.recipe ∧ RInts w (.slice a1 x.other.length k1) x.other ∧ RInts w (.slice a5 x.weights.length k5) x.weights := by
  obtain ⟨v0, v1, v5, e, h2, h3, h4, h5⟩ := h
  simp only [Value.agg.injEq, Array.mk.injEq, List.cons.injEq, and_true] at e
  obtain ⟨rfl, rfl, -, -, -, rfl⟩ := e
  exact ⟨h2, h3, h4⟩

def TrueB (w : World) (e : Ending) (w' : World) : Prop := e = .returned (.bool true) ∧ Below w.heap.size w w'

theorem passes_parts (b : Bat) (r : List Int) : (∃ n, (n != 0) = true ∧ passesB b r = (false, n)) ∨ passesB b r = (false, 0) ∨ passesB b r = (true, 0) := by
  unfold passesB
  split
  · cases passB b r
    · exact .inr (.inl rfl)
    · exact .inr (.inr rfl)
  · rename_i h
    exact .inl ⟨_, by simp [h], rfl⟩

theorem passes_len {b : Bat} {r1 r2 : List Int} (h1 : passesB b r1 = (true, 0)) (h2 : passesB b r2 = (true, 0)) : r1.length = r2.length ∧ r1.length ≤ 12 := by
  have k1 : bothB b r1 = 0 := by
    unfold passesB at h1
    split at h1
    · assumption
    · simp at h1
  have k2 : bothB b r2 = 0 := by
    unfold passesB at h2
    split at h2
    · assumption
    · simp at h2
  have h3 := (ok_of (rec_len k1).1).mt
  have h4 := (rec_len k1).2.1
  have h5 := (rec_len k2).2.1
  omega

theorem addB_at (a c : List Int) (k : Nat) (h : k < a.length) (h2 : k < c.length) : (addB a c)[k]'(by simpa [addB] using h) = wrap64 (a[k] + c[k]) := by
  simp [addB, List.getD, List.getElem?_eq_getElem h, List.getElem?_eq_getElem h2]

theorem addB_snoc (a c : List Int) (k : Nat) (h : k < a.length) : (addB a c).take k ++ [(addB a c)[k]'(by simpa [addB] using h)] = (addB a c).take (k + 1) :=
  (List.take_succ_eq_append_getElem (by simpa [addB] using h)).symm

theorem keep4s {w1 w2 : World} {a1 a2 a3 a4 : Addr} {x1 x2 x3 x4 : Value} (hb : Below w1.heap.size w1 w2) (h : w1.cell? a1 = some x1 ∧ w1.cell? a2 = some x2 ∧ w1.cell? a3 = some x3 ∧ w1.cell? a4 = some x4) :
    w2.cell? a1 = some x1 ∧ w2.cell? a2 = some x2 ∧ w2.cell? a3 = some x3 ∧ w2.cell? a4 = some x4 := ⟨keepCell hb h.1, keepCell hb h.2.1, keepCell hb h.2.2.1, keepCell hb h.2.2.2⟩
theorem grow4s {w1 w2 : World} {row : Option Nat} {a b c i j k m : Nat} {x1 x2 x3 x4 : Value} (hg : w1.grownBy w2 row) (n0 : some a ≠ row) (n1 : some b ≠ row) (n2 : some c ≠ row) (h : w1.cell? ⟨a, i, none⟩ = some x1 ∧ w1.cell? ⟨a, j, none⟩ = some x2 ∧ w1.cell? ⟨b, k, none⟩ = some x3 ∧ w1.cell? ⟨c, m, none⟩ = some x4) :
    w2.cell? ⟨a, i, none⟩ = some x1 ∧ w2.cell? ⟨a, j, none⟩ = some x2 ∧ w2.cell? ⟨b, k, none⟩ = some x3 ∧ w2.cell? ⟨c, m, none⟩ = some x4 := ⟨hg.cell h.1 n0, hg.cell h.2.1 n0, hg.cell h.2.2.1 n1, hg.cell h.2.2.2 n2⟩

set_option maxRecDepth 100000 in
theorem sums_any (vb vx : Value) (b : Bat) (x : Ask) (w : World) (h : RBat w vb b) (hx : RAsk w vx x) :
    Calls Try.prog 10 #[vb, vx] w (TrueB w) := by
  obtain ⟨a0, k0, a1, k1, a2, k2, a3, k3, rfl⟩ := h.agg
  obtain ⟨b0, j0, b1, j1, b5, j5, rfl⟩ := hx.agg
  obtain ⟨hr1, hr2, -⟩ := asks hx
  have hA := below_two w (.cells #[.slice a0 b.oxides.length k0, .slice a1 b.mats.length k1, .slice a2 b.shares.length k2, .slice a3 b.props.length k3, .int .i64 b.redox.lo, .int .i64 b.redox.hi, .int .i64 b.wanted] 29) (.cells #[.slice b0 x.recipe.length j0, .slice b1 x.other.length j1, .int .i64 x.property, .int .i64 x.lots, .int .i64 x.scale, .slice b5 x.weights.length j5] 44)
  have hB := (Blk.new w #[.slice a0 b.oxides.length k0, .slice a1 b.mats.length k1, .slice a2 b.shares.length k2, .slice a3 b.props.length k3, .int .i64 b.redox.lo, .int .i64 b.redox.hi, .int .i64 b.wanted] 29).alloc (.cells #[.slice b0 x.recipe.length j0, .slice b1 x.other.length j1, .int .i64 x.property, .int .i64 x.lots, .int .i64 x.scale, .slice b5 x.weights.length j5] 44)
  have hC : Blk ((w.alloc (.cells #[.slice a0 b.oxides.length k0, .slice a1 b.mats.length k1, .slice a2 b.shares.length k2, .slice a3 b.props.length k3, .int .i64 b.redox.lo, .int .i64 b.redox.hi, .int .i64 b.wanted] 29)).alloc (.cells #[.slice b0 x.recipe.length j0, .slice b1 x.other.length j1, .int .i64 x.property, .int .i64 x.lots, .int .i64 x.scale, .slice b5 x.weights.length j5] 44)) (w.heap.size + 1) #[.slice b0 x.recipe.length j0, .slice b1 x.other.length j1, .int .i64 x.property, .int .i64 x.lots, .int .i64 x.scale, .slice b5 x.weights.length j5] 44 := by
    have := Blk.new (w.alloc (.cells #[.slice a0 b.oxides.length k0, .slice a1 b.mats.length k1, .slice a2 b.shares.length k2, .slice a3 b.props.length k3, .int .i64 b.redox.lo, .int .i64 b.redox.hi, .int .i64 b.wanted] 29)) #[.slice b0 x.recipe.length j0, .slice b1 x.other.length j1, .int .i64 x.property, .int .i64 x.lots, .int .i64 x.scale, .slice b5 x.weights.length j5] 44
    simpa using this
  go_enter Try.func10, Try.ntmps10
  go_wp2_with fail
  generalize (w.alloc (.cells #[.slice a0 b.oxides.length k0, .slice a1 b.mats.length k1, .slice a2 b.shares.length k2, .slice a3 b.props.length k3, .int .i64 b.redox.lo, .int .i64 b.redox.hi, .int .i64 b.wanted] 29)).alloc (.cells #[.slice b0 x.recipe.length j0, .slice b1 x.other.length j1, .int .i64 x.property, .int .i64 x.lots, .int .i64 x.scale, .slice b5 x.weights.length j5] 44) = W at *
  refine (great_any _ b _ (h.mono (ext_of_below hA))).mono ?_
  rintro e w1 ⟨t1, rfl, hb1⟩
  have hA1 := hA.trans (hb1.mono hA.size)
  have hB1 := hB.below hb1 hB.lt
  have hC1 := hC.below hb1 hC.lt
  clear hA hB hC hb1
  cases t1
  case true =>
    go_wp2_with fail
    refine (lives_any _).mono ?_
    rintro e w2 ⟨rfl, hb2⟩
    have hA2 := hA1.trans (hb2.mono hA1.size)
    clear hb2 hB1 hC1
    go_wp2
    go_ret
    exact ⟨rfl, hA2⟩
  case false =>
    have c0 := hC1.cell 0 (.slice b0 x.recipe.length j0) rfl
    have c1 := hC1.cell 1 (.slice b1 x.other.length j1) rfl
    have c2 := hC1.cell 2 (.int .i64 x.property) rfl
    have c3 := hC1.cell 3 (.int .i64 x.lots) rfl
    have c4 := hC1.cell 4 (.int .i64 x.scale) rfl
    have c5 := hC1.cell 5 (.slice b5 x.weights.length j5) rfl
    go_wp2_with fail
    refine (wide_any _ x _ ?_).mono ?_
    · exact hx.mono (ext_of_below hA1)
    rintro e w2 ⟨t2, rfl, hb2⟩
    have hA2 := hA1.trans (hb2.mono hA1.size)
    have hB2 := hB1.below hb2 hB1.lt
    have hC2 := hC1.below hb2 hC1.lt
    clear hA1 hB1 hC1 hb2 c0 c1 c2 c3 c4 c5
    cases t2
    case true =>
      go_wp2_with fail
      refine (lives_any _).mono ?_
      rintro e wl ⟨rfl, hbl⟩
      have hAl := hA2.trans (hbl.mono hA2.size)
      clear hbl hB2 hC2
      go_wp2
      go_ret
      exact ⟨rfl, hAl⟩
    have hp := passes_parts b x.recipe
    have f0 := hB2.cell 0 (.slice a0 b.oxides.length k0) rfl
    have f1 := hB2.cell 1 (.slice a1 b.mats.length k1) rfl
    have f2 := hB2.cell 2 (.slice a2 b.shares.length k2) rfl
    have f3 := hB2.cell 3 (.slice a3 b.props.length k3) rfl
    have f4 := hB2.cell 4 (.int .i64 b.redox.lo) rfl
    have f5 := hB2.cell 5 (.int .i64 b.redox.hi) rfl
    have f6 := hB2.cell 6 (.int .i64 b.wanted) rfl
    have c0 := hC2.cell 0 (.slice b0 x.recipe.length j0) rfl
    go_wp2_with fail
    refine (passes_any _ _ b x.recipe _ (h.mono (ext_of_below hA2)) (hr1.mono (ext_of_below hA2))).mono ?_
    rintro e w3 ⟨rfl, hb3⟩
    have hA3 := hA2.trans (hb3.mono hA2.size)
    have hB3 := hB2.below hb3 hB2.lt
    have hC3 := hC2.below hb3 hC2.lt
    clear hA2 hB2 hC2 hb3 f0 f1 f2 f3 f4 f5 f6 c0
    have hq := passes_parts b x.other
    have f0 := hB3.cell 0 (.slice a0 b.oxides.length k0) rfl
    have f1 := hB3.cell 1 (.slice a1 b.mats.length k1) rfl
    have f2 := hB3.cell 2 (.slice a2 b.shares.length k2) rfl
    have f3 := hB3.cell 3 (.slice a3 b.props.length k3) rfl
    have f4 := hB3.cell 4 (.int .i64 b.redox.lo) rfl
    have f5 := hB3.cell 5 (.int .i64 b.redox.hi) rfl
    have f6 := hB3.cell 6 (.int .i64 b.wanted) rfl
    have c1 := hC3.cell 1 (.slice b1 x.other.length j1) rfl
    go_wp2_with fail
    refine (passes_any _ _ b x.other _ (h.mono (ext_of_below hA3)) (hr2.mono (ext_of_below hA3))).mono ?_
    rintro e w4 ⟨rfl, hb4⟩
    have hA4 := hA3.trans (hb4.mono hA3.size)
    have hB4 := hB3.below hb4 hB3.lt
    have hC4 := hC3.below hb4 hC3.lt
    clear hA3 hB3 hC3 hb4 f0 f1 f2 f3 f4 f5 f6 c1
    rcases hp with ⟨n, hn, hp⟩ | hp | hp
    · rw [hp]
      clear hp hq
      go_wp2_with fail
      refine (lives_any _).mono ?_
      rintro e wl ⟨rfl, hbl⟩
      have hAl := hA4.trans (hbl.mono hA4.size)
      clear hbl hB4 hC4
      go_wp2
      go_ret
      exact ⟨rfl, hAl⟩
    · rw [hp]
      rcases hq with ⟨n, hn, hq⟩ | hq | hq
      · rw [hq]
        clear hp hq
        go_wp2_with fail
        refine (lives_any _).mono ?_
        rintro e wl ⟨rfl, hbl⟩
        have hAl := hA4.trans (hbl.mono hA4.size)
        clear hbl hB4 hC4
        go_wp2
        go_ret
        exact ⟨rfl, hAl⟩
      · rw [hq]
        clear hp hq
        go_wp2_with fail
        refine (lives_any _).mono ?_
        rintro e wl ⟨rfl, hbl⟩
        have hAl := hA4.trans (hbl.mono hA4.size)
        clear hbl hB4 hC4
        go_wp2
        go_ret
        exact ⟨rfl, hAl⟩
      · rw [hq]
        clear hp hq
        go_wp2_with fail
        refine (lives_any _).mono ?_
        rintro e wl ⟨rfl, hbl⟩
        have hAl := hA4.trans (hbl.mono hA4.size)
        clear hbl hB4 hC4
        go_wp2
        go_ret
        exact ⟨rfl, hAl⟩
    · rcases hq with ⟨n, hn, hq⟩ | hq | hq
      · rw [hp, hq]
        clear hp hq
        go_wp2_with fail
        refine (lives_any _).mono ?_
        rintro e wl ⟨rfl, hbl⟩
        have hAl := hA4.trans (hbl.mono hA4.size)
        clear hbl hB4 hC4
        go_wp2
        go_ret
        exact ⟨rfl, hAl⟩
      · rw [hp, hq]
        clear hp hq
        go_wp2_with fail
        refine (lives_any _).mono ?_
        rintro e wl ⟨rfl, hbl⟩
        have hAl := hA4.trans (hbl.mono hA4.size)
        clear hbl hB4 hC4
        go_wp2
        go_ret
        exact ⟨rfl, hAl⟩
      · rw [hp, hq]
        have hlen := Lib.hid (passes_len hp hq)
        have hsum := Lib.hid (sums_pass hp hq)
        clear hp hq
        go_wp2
        obtain ⟨i0, hi, hz0, hz1, hz2⟩ := info_parts info_int
        obtain ⟨ar, kr, er, -, ⟨-, l1⟩, hl1⟩ := id hr1
        obtain ⟨az, ks, es, -, ⟨-, l2⟩, hl2⟩ := id hr2
        simp only [Value.slice.injEq, true_and] at er es
        obtain ⟨rfl, rfl⟩ := er
        obtain ⟨rfl, rfl⟩ := es
        go_loopw [9, 10] (fun v i wr => ∃ (k : Nat) (l : List Int), k ≤ x.recipe.length ∧ i = .int .i64 k ∧ Hid (l = (addB x.recipe x.other).take k) ∧ wr.ownsRow w4.heap.size 3 1 v l.length (l.map (Value.int .i64)) ∧ Below w4.heap.size w4 wr) (fun _ i _ => x.recipe.length - (intOf i).toNat)
        case atStart => exact ⟨0, [], Nat.zero_le _, rfl, rfl, World.ownsRow_nil _ _ _ _, Below.refl _ _⟩
        case round =>
          obtain ⟨k, l, hk, rfl, hxx, hown, hb⟩ := hrel
          by_cases hlt : k < x.recipe.length
          · have hlx : x.recipe.length ≤ 12 := hlen.out.2
            have hlt2 : k < x.other.length := by rw [← hlen.out.1]; exact hlt
            have hst := Lib.hid (addB_snoc x.recipe x.other k hlt)
            have hll : l.length ≤ 12 := by have := hlen.out.2; rw [hxx.out, List.length_take]; omega
            obtain ⟨p1, o1, rfl, q1, i1⟩ := hl1 k hlt
            obtain ⟨p2, o2, rfl, q2, i2⟩ := hl2 k hlt2
            rw [addB_at x.recipe x.other k hlt hlt2] at hst
            have hb1 := cell_lt q1
            have hb2 := cell_lt q2
            simp only [Nat.mul_one] at q1 q2 hb1 hb2
            have hA5 := hA4.trans (hb.mono hA4.size)
            have hs4 := hA4.size
            have hs5 := hb.size
            have hC5 := hC4.below hb hC4.lt
            have c0 : wr.cell? ⟨w.heap.size + 1, 0, none⟩ = some (.slice (some ⟨p1, o1, none⟩) x.recipe.length j0) := hC5.cell 0 _ rfl
            have c1 : wr.cell? ⟨w.heap.size + 1, 1, none⟩ = some (.slice (some ⟨p2, o2, none⟩) x.other.length j1) := hC5.cell 1 _ rfl
            replace q1 := ext_of_below hA5 _ _ q1
            replace q2 := ext_of_below hA5 _ _ q2
            generalize x.recipe[k] = p at *
            generalize x.other[k] = q at *
            have hsz5 : w4.heap.size ≤ (wr.drew.alloc (.cells #[.int .i64 (IntKind.i64.wrap (p + q))] 3)).heap.size := by simp; omega
            have hown2 := (own_drew hown).alloc (.cells #[.int .i64 (IntKind.i64.wrap (p + q))] 3)
            have N0 : some (w.heap.size + 1) ≠ u9.ownBlock := fun e => by have := (hown.lt _ e.symm).1; have := hC4.lt; omega
            have N1 : some p1 ≠ u9.ownBlock := fun e => by have := (hown.lt _ e.symm).1; omega
            have N2 : some p2 ≠ u9.ownBlock := fun e => by have := (hown.lt _ e.symm).1; omega
            clear hl1 hl2 hr1 hr2 hx hC5 hsum hlen l1 l2
            go_wp2_with fail
            go_region_held3 (fun w' => w'.cell? ⟨w.heap.size + 1, 0, none⟩ = some (.slice (some ⟨p1, o1, none⟩) x.recipe.length j0) ∧ w'.cell? ⟨w.heap.size + 1, 1, none⟩ = some (.slice (some ⟨p2, o2, none⟩) x.other.length j1) ∧ w'.cell? ⟨p1, o1 + k, none⟩ = some (.int .i64 p) ∧ w'.cell? ⟨p2, o2 + k, none⟩ = some (.int .i64 q))
              (first | go_keep | (exact keep4s (by assumption) (by assumption)) | (exact grow4s (by assumption) N0 N1 N2 (by assumption)))
              (first
              | (refine step_append_lies _ (by rfl) _ _ _ (by rfl) w4.heap.size 3 i0 _ 1 8 Try.underlying37 hi hz0 hz1 hz2 rfl (by omega) _ l.length _ (by rfl) hown2 ⟨wr.drew.heap.size, 0, none⟩ 1 1 [.int .i64 (IntKind.i64.wrap (p + q))] (by rfl) (by rfl) (cell_one_new _ _ _) (by simp [Value.oneCell']) (by omega) (by unfold maxLen; omega) (by omega) hsz5 _ rfl ?_; intro g6 k6 w6 hown6 hgrow6 hat6 hlt6))
            have hb6 := (hb.trans ((Below.refl _ _).drew.alloc (by simp; omega) (.cells #[.int .i64 (IntKind.i64.wrap (p + q))] 3))).grown hgrow6 hsz5 (fun q hq => (hown2.lt q hq).1)
            have hownF : w6.ownsRow w4.heap.size 3 1 (.slice (some ⟨g6, 0, none⟩) (l.length + 1) k6) (l ++ [wrap64 (p + q)]).length ((l ++ [wrap64 (p + q)]).map (Value.int .i64)) := by
              simpa [IntWalk.i64_left] using hown6
            have hxx2 : Hid (l ++ [wrap64 (p + q)] = (addB x.recipe x.other).take (k + 1)) := by
              rw [hxx.out]; exact hst
            clear hown6 hown2 hgrow6 hown hb hat6 hxx hst
            go_wp2
            go_roundw
            case rel => exact ⟨k + 1, _, by omega, by go_num, hxx2, hownF, hb6⟩
            case measure => simp [intOf]; omega
          · have hl : l = addB x.recipe x.other := by
              rw [hxx.out, List.take_of_length_le]
              simp [addB]; omega
            subst hl
            have hRI := own_RInts hown (by simp [addB]; have := hlen.out.2; omega) (by intro y hy; obtain ⟨i, _, rfl⟩ := List.mem_map.1 hy; exact wrap_I64 _)
            have hA5 := hA4.trans (hb.mono hA4.size)
            have hC5 := hC4.below hb hC4.lt
            have hB5 := hB4.below hb hB4.lt
            have c0 := hC5.cell 0 (.slice b0 x.recipe.length j0) rfl
            have f0 := hB5.cell 0 (.slice a0 b.oxides.length k0) rfl
            have f1 := hB5.cell 1 (.slice a1 b.mats.length k1) rfl
            have f2 := hB5.cell 2 (.slice a2 b.shares.length k2) rfl
            have f3 := hB5.cell 3 (.slice a3 b.props.length k3) rfl
            have f4 := hB5.cell 4 (.int .i64 b.redox.lo) rfl
            have f5 := hB5.cell 5 (.int .i64 b.redox.hi) rfl
            have f6 := hB5.cell 6 (.int .i64 b.wanted) rfl
            clear hxx hown hb hl1 hl2 hr1 hr2 hx hA4 hB4 hC4
            go_wp2_with fail
            refine (passes_any _ _ b (addB x.recipe x.other) _ (h.mono (ext_of_below hA5)) hRI).mono ?_
            rintro e w5 ⟨rfl, hb5⟩
            have hA6 := hA5.trans (hb5.mono hA5.size)
            clear hA5 hRI c0 f0 f1 f2 f3 f4 f5 f6 hB5 hC5 hb5
            have hs := hsum.out
            clear hsum
            generalize passesB b (addB x.recipe x.other) = pq at *
            obtain ⟨pt, pn⟩ := pq
            rcases hs with hs | hs
            · obtain ⟨rfl, rfl⟩ := Prod.mk.inj hs
              go_wp2_with fail
              refine (lives_any _).mono ?_
              rintro e wl ⟨rfl, hbl⟩
              have hAl := hA6.trans (hbl.mono hA6.size)
              clear hbl hA6
              go_wp2
              go_ret
              exact ⟨rfl, hAl⟩
            · simp only at hs
              subst hs
              go_wp2_with fail
              refine (lives_any _).mono ?_
              rintro e wl ⟨rfl, hbl⟩
              have hAl := hA6.trans (hbl.mono hA6.size)
              clear hbl hA6
              go_wp2
              go_ret
              exact ⟨rfl, hAl⟩
end Go.Proofs.Ytnflonldbmmihaa
