/- BatchBests, the law's own call; no statement is proved here. -/
import Derived.Test.YtpkggjfaefkiiaaForm
import Derived.Test.YtpkggjfaefkiiaaCorr2
import Derived.Test.YtpkggjfaefkiiaaRPub
import Derived.Deep.QuietTactic
import Derived.BigQuiet
import Derived.Test.YtpkggjfaefkiiaaTill
namespace Go.Proofs.Ytpkggjfaefkiiaa
open Go.RowKit Go.PlainAid
set_option linter.unusedVariables false

def lst : Option (List Int × Int) → List Int
  | some p => p.1
  | none => []
def cst : Option (List Int × Int) → Int
  | some p => p.2
  | none => 0
theorem res_all {T : Nat → Prop} {w : World} {v : Value} {c : Int} {f : Bool} {o : Option (List Int × Int)} (h : ResIs T w v c f o) : RInts w v (lst o) ∧ c = cst o ∧ f = o.isSome := by
  cases o with
  | none =>
    obtain ⟨rfl, rfl, rfl⟩ := h
    exact ⟨ints_nil _, rfl, rfl⟩
  | some p =>
    obtain ⟨r, c0⟩ := p
    obtain ⟨rfl, rfl, h⟩ := h
    exact ⟨h.mono (vis_ext _ _), rfl, rfl⟩

set_option maxHeartbeats 4000000 in
set_option maxRecDepth 100000 in
theorem bsLaw_any (vb vx : Value) (b : Bat) (x : Ask) (w : World) (h : RBat w vb b) (hx : RAsk w vx x) :
    Calls Try.prog 6 #[vb, vx] w (TrueB w) := by
  obtain ⟨a0, k0, a1, k1, a2, k2, a3, k3, rfl⟩ := h.agg
  obtain ⟨b0, j0, b1, j1, b5, j5, rfl⟩ := hx.agg
  obtain ⟨hr1, hr2, -⟩ := asks hx
  have hA := below_two w (.cells #[.slice a0 b.oxides.length k0, .slice a1 b.mats.length k1, .slice a2 b.shares.length k2, .slice a3 b.props.length k3, .int .i64 b.redox.lo, .int .i64 b.redox.hi, .int .i64 b.wanted] 29) (.cells #[.slice b0 x.recipe.length j0, .slice b1 x.other.length j1, .int .i64 x.property, .int .i64 x.lots, .int .i64 x.scale, .slice b5 x.weights.length j5] 44)
  have hB := (Blk.new w #[.slice a0 b.oxides.length k0, .slice a1 b.mats.length k1, .slice a2 b.shares.length k2, .slice a3 b.props.length k3, .int .i64 b.redox.lo, .int .i64 b.redox.hi, .int .i64 b.wanted] 29).alloc (.cells #[.slice b0 x.recipe.length j0, .slice b1 x.other.length j1, .int .i64 x.property, .int .i64 x.lots, .int .i64 x.scale, .slice b5 x.weights.length j5] 44)
  have hC : Blk ((w.alloc (.cells #[.slice a0 b.oxides.length k0, .slice a1 b.mats.length k1, .slice a2 b.shares.length k2, .slice a3 b.props.length k3, .int .i64 b.redox.lo, .int .i64 b.redox.hi, .int .i64 b.wanted] 29)).alloc (.cells #[.slice b0 x.recipe.length j0, .slice b1 x.other.length j1, .int .i64 x.property, .int .i64 x.lots, .int .i64 x.scale, .slice b5 x.weights.length j5] 44)) (w.heap.size + 1) #[.slice b0 x.recipe.length j0, .slice b1 x.other.length j1, .int .i64 x.property, .int .i64 x.lots, .int .i64 x.scale, .slice b5 x.weights.length j5] 44 := by
    have := Blk.new (w.alloc (.cells #[.slice a0 b.oxides.length k0, .slice a1 b.mats.length k1, .slice a2 b.shares.length k2, .slice a3 b.props.length k3, .int .i64 b.redox.lo, .int .i64 b.redox.hi, .int .i64 b.wanted] 29)) #[.slice b0 x.recipe.length j0, .slice b1 x.other.length j1, .int .i64 x.property, .int .i64 x.lots, .int .i64 x.scale, .slice b5 x.weights.length j5] 44
    simpa using this
  go_enter Try.func6, Try.ntmps6
  go_wp2_with fail
  generalize (w.alloc (.cells #[.slice a0 b.oxides.length k0, .slice a1 b.mats.length k1, .slice a2 b.shares.length k2, .slice a3 b.props.length k3, .int .i64 b.redox.lo, .int .i64 b.redox.hi, .int .i64 b.wanted] 29)).alloc (.cells #[.slice b0 x.recipe.length j0, .slice b1 x.other.length j1, .int .i64 x.property, .int .i64 x.lots, .int .i64 x.scale, .slice b5 x.weights.length j5] 44) = W at *
  refine (great_any _ b _ (h.mono (ext_of_below hA))).mono ?_
  rintro e w1 ⟨t1, rfl, hb1⟩
  have hA1 := hA.trans (hb1.mono hA.size)
  have hB1 := hB.below hb1 hB.lt
  have hC1 := hC.below hb1 hC.lt
  clear hA hB hC hb1
  cases t1
  case true =>
    go_wp2_with fail
    refine (lives_any _).mono ?_
    rintro e wl ⟨rfl, hbl⟩
    have hAl := hA1.trans (hbl.mono hA1.size)
    clear hbl hB1 hC1
    go_wp2
    go_ret
    exact ⟨rfl, hAl⟩
  have c0 := hC1.cell 0 _ rfl
  have c1 := hC1.cell 1 _ rfl
  have c2 := hC1.cell 2 _ rfl
  have c3 := hC1.cell 3 _ rfl
  have c4 := hC1.cell 4 _ rfl
  have c5 := hC1.cell 5 _ rfl
  go_wp2_with fail
  refine (wide_any _ x _ ?_).mono ?_
  · exact hx.mono (ext_of_below hA1)
  rintro e w2 ⟨t2, rfl, hb2⟩
  have hA2 := hA1.trans (hb2.mono hA1.size)
  have hB2 := hB1.below hb2 hB1.lt
  have hC2 := hC1.below hb2 hC1.lt
  clear hA1 hB1 hC1 hb2 c0 c1 c2 c3 c4 c5
  cases t2
  case true =>
    go_wp2_with fail
    refine (lives_any _).mono ?_
    rintro e wl ⟨rfl, hbl⟩
    have hAl := hA2.trans (hbl.mono hA2.size)
    clear hbl hB2 hC2
    go_wp2
    go_ret
    exact ⟨rfl, hAl⟩
  have f0 := hB2.cell 0 _ rfl
  have f1 := hB2.cell 1 _ rfl
  have f2 := hB2.cell 2 _ rfl
  have f3 := hB2.cell 3 _ rfl
  have f4 := hB2.cell 4 _ rfl
  have f5 := hB2.cell 5 _ rfl
  have f6 := hB2.cell 6 _ rfl
  go_wp2_with fail
  refine (many_any _ b _ (h.mono (ext_of_below hA2))).mono ?_
  rintro e w3 ⟨t3, rfl, hb3⟩
  have hA3 := hA2.trans (hb3.mono hA2.size)
  have hB3 := hB2.below hb3 hB2.lt
  have hC3 := hC2.below hb3 hC2.lt
  clear hA2 hB2 hC2 hb3 f0 f1 f2 f3 f4 f5 f6
  cases t3
  case true =>
    go_wp2_with fail
    refine (lives_any _).mono ?_
    rintro e wl ⟨rfl, hbl⟩
    have hAl := hA3.trans (hbl.mono hA3.size)
    clear hbl hB3 hC3
    go_wp2
    go_ret
    exact ⟨rfl, hAl⟩
  have C1 := fun V => best_any (.agg #[.slice a0 b.oxides.length k0, .slice a1 b.mats.length k1, .slice a2 b.shares.length k2, .slice a3 b.props.length k3, .int .i64 b.redox.lo, .int .i64 b.redox.hi, .int .i64 b.wanted]) b V
  have C2 := fun V => rbest_any (.agg #[.slice a0 b.oxides.length k0, .slice a1 b.mats.length k1, .slice a2 b.shares.length k2, .slice a3 b.props.length k3, .int .i64 b.redox.lo, .int .i64 b.redox.hi, .int .i64 b.wanted]) b V
  obtain ⟨⟨ob, eb⟩, hob⟩ : ∃ q, q = bestB b := ⟨_, rfl⟩
  rw [← hob] at C1 C2
  clear hob
  have f0 := hB3.cell 0 _ rfl
  have f1 := hB3.cell 1 _ rfl
  have f2 := hB3.cell 2 _ rfl
  have f3 := hB3.cell 3 _ rfl
  have f4 := hB3.cell 4 _ rfl
  have f5 := hB3.cell 5 _ rfl
  have f6 := hB3.cell 6 _ rfl
  go_wp2_with fail
  refine (C1 _ (h.mono (ext_of_below hA3))).mono ?_
  rintro e w4 ⟨v1, c1q, g1, rfl, hb4, hres⟩
  obtain ⟨hv1, rfl, rfl⟩ := res_all hres
  obtain ⟨p1, j1q, rfl, -⟩ := id hv1
  dsimp only at *
  have hA4 := hA3.trans (hb4.mono hA3.size)
  have hB4 := hB3.below hb4 hB3.lt
  have hC4 := hC3.below hb4 hC3.lt
  clear hA3 hB3 hC3 f0 f1 f2 f3 f4 f5 f6 hres hb4
  have f0 := hB4.cell 0 _ rfl
  have f1 := hB4.cell 1 _ rfl
  have f2 := hB4.cell 2 _ rfl
  have f3 := hB4.cell 3 _ rfl
  have f4 := hB4.cell 4 _ rfl
  have f5 := hB4.cell 5 _ rfl
  have f6 := hB4.cell 6 _ rfl
  go_wp2_with fail
  refine (C2 _ (h.mono (ext_of_below hA4))).mono ?_
  rintro e w5 ⟨v2, c2q, g2, rfl, hb5, hres⟩
  obtain ⟨hv2, rfl, rfl⟩ := res_all hres
  obtain ⟨p2, j2q, rfl, -⟩ := id hv2
  dsimp only at *
  have hA5 := hA4.trans (hb5.mono hA4.size)
  have hB5 := hB4.below hb5 hB4.lt
  have hC5 := hC4.below hb5 hC4.lt
  replace hv1 := hv1.mono (ext_of_below hb5)
  clear hA4 hB4 hC4 f0 f1 f2 f3 f4 f5 f6 hres hb5 C1 C2
  go_wp2_with fail
  refine (sameInts_eq _ _ (lst ob) _ hv1 hv2).mono ?_
  rintro e w6 ⟨rfl, n1, rfl⟩
  have hX := below_drewN (Below.refl w5.heap.size w5) n1
  have hA6 := hA5.trans (hX.mono hA5.size)
  have hB6 := hB5.below hX hB5.lt
  have hC6 := hC5.below hX hC5.lt
  clear hA5 hB5 hC5 hX hv1 hv2
  generalize w5.drewN n1 = w6 at *
  generalize cst ob = cb at *
  generalize ob.isSome = gb at *
  have C1 := fun V => correct_any (.agg #[.slice a0 b.oxides.length k0, .slice a1 b.mats.length k1, .slice a2 b.shares.length k2, .slice a3 b.props.length k3, .int .i64 b.redox.lo, .int .i64 b.redox.hi, .int .i64 b.wanted]) (.slice b0 x.recipe.length j0) b x.recipe x.lots V
  have C2 := fun V => rcorrect_any (.agg #[.slice a0 b.oxides.length k0, .slice a1 b.mats.length k1, .slice a2 b.shares.length k2, .slice a3 b.props.length k3, .int .i64 b.redox.lo, .int .i64 b.redox.hi, .int .i64 b.wanted]) (.slice b0 x.recipe.length j0) b x.recipe x.lots V
  obtain ⟨⟨oc, ec⟩, hoc⟩ : ∃ q, q = correctB b x.recipe x.lots := ⟨_, rfl⟩
  rw [← hoc] at C1 C2
  clear hoc
  have f0 := hB6.cell 0 _ rfl
  have f1 := hB6.cell 1 _ rfl
  have f2 := hB6.cell 2 _ rfl
  have f3 := hB6.cell 3 _ rfl
  have f4 := hB6.cell 4 _ rfl
  have f5 := hB6.cell 5 _ rfl
  have f6 := hB6.cell 6 _ rfl
  have c0 := hC6.cell 0 _ rfl
  have c3 := hC6.cell 3 _ rfl
  go_wp2_with fail
  refine (C1 _ (h.mono (ext_of_below hA6)) (hr1.mono (ext_of_below hA6))).mono ?_
  rintro e w7 ⟨v3, c3q, g3, rfl, hb7, hres⟩
  obtain ⟨hv3, rfl, rfl⟩ := res_all hres
  obtain ⟨p3, j3q, rfl, -⟩ := id hv3
  dsimp only at *
  have hA7 := hA6.trans (hb7.mono hA6.size)
  have hB7 := hB6.below hb7 hB6.lt
  have hC7 := hC6.below hb7 hC6.lt
  clear hA6 hB6 hC6 f0 f1 f2 f3 f4 f5 f6 c0 c3 hres hb7
  have f0 := hB7.cell 0 _ rfl
  have f1 := hB7.cell 1 _ rfl
  have f2 := hB7.cell 2 _ rfl
  have f3 := hB7.cell 3 _ rfl
  have f4 := hB7.cell 4 _ rfl
  have f5 := hB7.cell 5 _ rfl
  have f6 := hB7.cell 6 _ rfl
  have c0 := hC7.cell 0 _ rfl
  have c3 := hC7.cell 3 _ rfl
  go_wp2_with fail
  refine (C2 _ (h.mono (ext_of_below hA7)) (hr1.mono (ext_of_below hA7))).mono ?_
  rintro e w8 ⟨v4, c4q, g4, rfl, hb8, hres⟩
  obtain ⟨hv4, rfl, rfl⟩ := res_all hres
  obtain ⟨p4, j4q, rfl, -⟩ := id hv4
  dsimp only at *
  have hA8 := hA7.trans (hb8.mono hA7.size)
  have hB8 := hB7.below hb8 hB7.lt
  have hC8 := hC7.below hb8 hC7.lt
  replace hv3 := hv3.mono (ext_of_below hb8)
  clear hA7 hB7 hC7 f0 f1 f2 f3 f4 f5 f6 c0 c3 hres hb8 C1 C2
  go_wp2_with fail
  refine (sameInts_eq _ _ (lst oc) _ hv3 hv4).mono ?_
  rintro e w9 ⟨rfl, n2, rfl⟩
  have hX := below_drewN (Below.refl w8.heap.size w8) n2
  have hA9 := hA8.trans (hX.mono hA8.size)
  clear hA8 hB8 hC8 hX hv3 hv4
  generalize w8.drewN n2 = w9 at *
  go_wp2_with fail
  refine (lives_any _).mono ?_
  rintro e wl ⟨rfl, hbl⟩
  have hAl := hA9.trans (hbl.mono hA9.size)
  clear hbl
  go_wp2
  go_ret
  exact ⟨rfl, hAl⟩

end Go.Proofs.Ytpkggjfaefkiiaa
