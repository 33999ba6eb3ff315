/- The law StrengthBursts: every input; no statement is proved here. -/
import Derived.Test.YtokgnbagegcnpaaDoorBurst2
import Derived.Test.YtokgnbagegcnpaaDoorSCells
import Derived.Test.YtokgnbagegcnpaaDoorSCLaw
import Derived.Test.YtokgnbagegcnpaaDoorSOwn
namespace Go.Proofs.YtokgnbagegcnpaaDoor
open Go.RowKit Go.PlainAid
set_option linter.unusedVariables false
attribute [local go_sem ↓] exec_ask

def pAt (u : Sp) (k : Nat) : Int := if k = 0 then u.lo else if k = 1 then u.lo + 1 else if k = 2 then u.hi - 1 else u.hi
theorem pAt_cell (u : Sp) (k : Nat) (hk : k < 4) : (#[.int .i64 u.lo, .int .i64 (u.lo + 1), .int .i64 (u.hi - 1), .int .i64 u.hi] : Array Value)[k]? = some (.int .i64 (pAt u k)) := by
  have : k = 0 ∨ k = 1 ∨ k = 2 ∨ k = 3 := by omega
  rcases this with rfl | rfl | rfl | rfl <;> rfl

set_option maxHeartbeats 8000000 in
set_option maxRecDepth 100000 in
theorem sBurstsLaw_any (vb vx : Value) (b : Bot) (x : Ask5) (w : World) (h : RBot w vb b) (hx : RAskC w vx x) (hC : Circ w) :
    Calls Tryd.prog 8 #[vb, vx] w (TrueB w) := by
  have h0 := h
  have hx0 := hx
  obtain ⟨v0, rfl, hr, hI⟩ := h
  obtain ⟨a, cap, rfl, -, -, -⟩ := hr
  obtain ⟨vt, vm, vr, pa, pk, cl, rfl, hx', -⟩ := hx
  obtain ⟨vt', vm', vr', pa', pk', he, hx1, hx2, hx3, -, hxi⟩ := hx'
  simp only [askCells, Value.agg.injEq, Array.mk.injEq, List.cons.injEq, and_true, true_and] at he
  obtain ⟨rfl, rfl, rfl, -⟩ := he
  have ht0 := hx1
  have hm0 := hx2
  have hc0 := hx3
  obtain ⟨at', kt, rfl, -, ⟨-, htm⟩, htl⟩ := hx1
  obtain ⟨am, km, rfl, -, ⟨-, hmm⟩, hml⟩ := hx2
  obtain ⟨ar, kr, rfl, -, -, -⟩ := hx3
  have hA : Below w.heap.size w ((w.alloc (.cells #[.slice a b.rings.length cap, .int .i64 b.flaw, .int .i64 b.tough] 24)).alloc (.cells (askCells x (.slice at' x.thick.length kt) (.slice am x.measured.length km) (.slice ar x.recipe.length kr) pa pk) 33)) := (below_boxS w _).alloc (by simp) _
  have hB := (Blk.new w #[.slice a b.rings.length cap, .int .i64 b.flaw, .int .i64 b.tough] 24).alloc (.cells (askCells x (.slice at' x.thick.length kt) (.slice am x.measured.length km) (.slice ar x.recipe.length kr) pa pk) 33)
  have hX := Blk.new (w.alloc (.cells #[.slice a b.rings.length cap, .int .i64 b.flaw, .int .i64 b.tough] 24)) (askCells x (.slice at' x.thick.length kt) (.slice am x.measured.length km) (.slice ar x.recipe.length kr) pa pk) 33
  rw [World.size_alloc] at hX
  have hz : ((w.alloc (.cells #[.slice a b.rings.length cap, .int .i64 b.flaw, .int .i64 b.tough] 24)).alloc (.cells (askCells x (.slice at' x.thick.length kt) (.slice am x.measured.length km) (.slice ar x.recipe.length kr) pa pk) 33)).heap.size = w.heap.size + 2 := by simp
  replace hz := And.intro (Nat.le_of_eq hz) (Nat.le_of_eq hz.symm)
  simp only [askCells] at hA hB hX hz ⊢
  go_enter Tryd.func8, Tryd.ntmps8
  go_wp2_with fail
  generalize (w.alloc (.cells #[.slice a b.rings.length cap, .int .i64 b.flaw, .int .i64 b.tough] 24)).alloc _ = W2 at *
  have HI := Lib.hid hxi
  have HR := Lib.hid (fun V (hV : Below w.heap.size w V) => h0.mono (ext_of_below hV))
  have HX := Lib.hid (fun V (hV : Below w.heap.size w V) => hx0.mono (ext_of_below hV))
  have HT := Lib.hid (fun V (hV : Below w.heap.size w V) => ht0.mono (ext_of_below hV))
  have HM := Lib.hid (fun V (hV : Below w.heap.size w V) => hm0.mono (ext_of_below hV))
  have HRC := Lib.hid (fun V (hV : Below w.heap.size w V) => hc0.mono (ext_of_below hV))
  have HTL := Lib.hid (fun V (hV : Below w.heap.size w V) i (h : i < x.thick.length) => (htl i h).elim fun b' h1 => h1.elim fun o' h2 => (⟨b', o', h2.1, h2.2.mono (ext_of_below hV)⟩ : ∃ b' o', at' = some ⟨b', o', none⟩ ∧ RSp V ⟨b', o' + i * 2, none⟩ x.thick[i]))
  have HML := Lib.hid hml
  have HC := Lib.hid (fun V (hV : Below w.heap.size w V) => hC.mono (ext_of_below hV))
  clear h0 hx0 ht0 htl hC hm0 hc0 hml hxi
  simp only [askCells] at HX
  refine (great5_any _ b _ (HR.out _ hA)).mono ?_
  rintro e w1 ⟨rfl, hb1⟩
  have hA1 := hA.trans (hb1.mono hA.size)
  have hB1 := hB.below hb1 hB.lt
  have hX1 := hX.below hb1 hX.lt
  have hz1 : w.heap.size + 2 ≤ w1.heap.size := by have := hb1.size; omega
  clear hA hB hX hb1 hz
  cases hg : decide (40 < b.rings.length) with
  | true =>
    clear hB1 hX1
    go_wp2_with fail
    refine (lives5_any _ (HC.out _ hA1)).mono ?_
    rintro e wl ⟨rfl, hbl⟩
    have hAl := hA1.trans (hbl.mono hA1.size)
    clear hbl hA1
    go_wp2
    go_ret
    exact ⟨rfl, hAl⟩

  | false =>
  have c0 := hB1.cell 0 _ rfl
  have c1 := hB1.cell 1 _ rfl
  have c2 := hB1.cell 2 _ rfl
  have hld := ld_ask hX1 rfl
  go_wp2_with fail
  refine (wide5_any _ x _ (HX.out _ hA1)).mono ?_
  rintro e w2 ⟨rw, rfl, hwd, hb2⟩
  have hA2 := hA1.trans (hb2.mono hA1.size)
  have hB2 := hB1.below hb2 hB1.lt
  have hX2 := hX1.below hb2 hX1.lt
  have hz2 : w.heap.size + 2 ≤ w2.heap.size := by have := hb2.size; omega
  clear hA1 hB1 hX1 hb2 hz1 c0 c1 c2 hld
  cases rw with
  | true =>
    clear hB2 hX2
    go_wp2_with fail
    refine (lives5_any _ (HC.out _ hA2)).mono ?_
    rintro e wl ⟨rfl, hbl⟩
    have hAl := hA2.trans (hbl.mono hA2.size)
    clear hbl hA2
    go_wp2
    go_ret
    exact ⟨rfl, hAl⟩

  | false =>
  have h40 := hwd rfl
  clear hwd
  have c0 := hB2.cell 0 _ rfl
  have c1 := hB2.cell 1 _ rfl
  have c2 := hB2.cell 2 _ rfl
  have x0 := hX2.cell 0 _ rfl
  have x1 := hX2.cell 1 _ rfl
  have x2 := hX2.cell 2 _ rfl
  have x3 := hX2.cell 3 _ rfl
  have x4 := hX2.cell 4 _ rfl
  go_wp2_with fail
  refine (burstP_any _ _ b x.thick x.load _ (HR.out _ hA2) (HT.out _ hA2) (HC.out _ hA2)).mono ?_
  rintro e w3 ⟨u, rfl, hu1, hu2, hb3⟩
  have hA3 := hA2.trans (hb3.mono hA2.size)
  have hB3 := hB2.below hb3 hB2.lt
  have hX3 := hX2.below hb3 hX2.lt
  have hz3 : w.heap.size + 2 ≤ w3.heap.size := by have := hb3.size; omega
  clear hA2 hB2 hX2 hb3 hz2
  clear c0 c1 c2 x0 x1 x2 x3 x4
  by_cases hw0 : wallS b x.thick x.load = 0
  case neg =>
    obtain rfl := hu2 hw0
    have hne : (wallS b x.thick x.load == 0) = false := by simpa using hw0
    have hA4 := hA3.alloc hA3.size (.cells #[.int .i64 0, .int .i64 0] 29)
    clear hB3 hX3 hu1 hu2
    go_wp2_with fail
    refine (lives5_any _ (HC.out _ hA4)).mono ?_
    rintro e wl ⟨rfl, hbl⟩
    have hAl := hA4.trans (hbl.mono hA4.size)
    clear hbl hA4
    go_wp2
    go_ret
    exact ⟨rfl, hAl⟩

  have hu := hu1 hw0
  have HW0 := Lib.hid hw0
  rw [hw0]
  have HU := Lib.hid hu
  have q1 := wrap_id (u.lo + 1) (by have := hu.lo; unfold I64; omega)
  have q2 := wrap_id (u.hi - 1) (by have := hu.hi; unfold I64; omega)
  have hA5 : Below w.heap.size w ((w3.alloc (.cells #[.int .i64 u.lo, .int .i64 u.hi] 29)).alloc (.cells #[.int .i64 u.lo, .int .i64 (u.lo + 1), .int .i64 (u.hi - 1), .int .i64 u.hi] 3)) := (hA3.alloc hA3.size _).alloc (Nat.le_trans hA3.size (by simp)) _
  have hB5 := (hB3.alloc (.cells #[.int .i64 u.lo, .int .i64 u.hi] 29)).alloc (.cells #[.int .i64 u.lo, .int .i64 (u.lo + 1), .int .i64 (u.hi - 1), .int .i64 u.hi] 3)
  have hX5 := (hX3.alloc (.cells #[.int .i64 u.lo, .int .i64 u.hi] 29)).alloc (.cells #[.int .i64 u.lo, .int .i64 (u.lo + 1), .int .i64 (u.hi - 1), .int .i64 u.hi] 3)
  have hU5 := (Blk.new w3 #[.int .i64 u.lo, .int .i64 u.hi] 29).alloc (.cells #[.int .i64 u.lo, .int .i64 (u.lo + 1), .int .i64 (u.hi - 1), .int .i64 u.hi] 3)
  have hP5 := Blk.new (w3.alloc (.cells #[.int .i64 u.lo, .int .i64 u.hi] 29)) #[.int .i64 u.lo, .int .i64 (u.lo + 1), .int .i64 (u.hi - 1), .int .i64 u.hi] 3
  rw [World.size_alloc] at hP5
  clear hu hu1 hu2 hw0 hA3 hB3 hX3
  go_wp2_with fail
  clear q1 q2
  generalize (w3.alloc (.cells #[.int .i64 u.lo, .int .i64 u.hi] 29)).alloc (.cells #[.int .i64 u.lo, .int .i64 (u.lo + 1), .int .i64 (u.hi - 1), .int .i64 u.hi] 3) = W5 at *
  go_loopw [49] (fun i wr => ∃ k : Nat, k ≤ 4 ∧ i = .int .i64 k ∧ Below W5.heap.size W5 wr) (fun i _ => 4 - (intOf i).toNat)
  case atStart => exact ⟨0, by omega, rfl, Below.refl _ _⟩
  case round =>
    obtain ⟨k, hk, rfl, hb⟩ := hrel
    have hUr := hU5.below hb hU5.lt
    have hAr := hA5.trans (hb.mono hA5.size)
    by_cases hlt : k < 4
    · have hBr := hB5.below hb hB5.lt
      have hXr := hX5.below hb hX5.lt
      have hPr := hP5.below hb hP5.lt
      have pf := hPr.cell k _ (pAt_cell u k hlt)
      have i1 : (0 : Int) ≤ (k : Int) := Int.natCast_nonneg _
      have i2 : (k : Int) < 4 := by omega
      generalize pAt u k = p at *
      clear hPr
      by_cases hp1 : p < 0
      · have hbN := hb
        clear hBr hXr hUr
        go_wp2
        go_roundw
        case rel => exact ⟨k + 1, by omega, by go_num, hbN⟩
        case measure => simp [intOf]; omega
      by_cases hp2 : 10000 < p
      · have hbN := hb
        clear hBr hXr hUr
        go_wp2
        go_roundw
        case rel => exact ⟨k + 1, by omega, by go_num, hbN⟩
        case measure => simp [intOf]; omega
      have c0 := hBr.cell 0 _ rfl
      have c1 := hBr.cell 1 _ rfl
      have c2 := hBr.cell 2 _ rfl
      have x0 := hXr.cell 0 _ rfl
      have x1 := hXr.cell 1 _ rfl
      have x2 := hXr.cell 2 _ rfl
      have x3 := hXr.cell 3 _ rfl
      have x4 := hXr.cell 4 _ rfl
      have hbL := hb.alloc hb.size (.cells #[.int .i64 p, .int .i64 x.load.force, .int .i64 x.load.speed, .int .i64 x.load.other] 27)
      have hArL := hAr.alloc hAr.size (.cells #[.int .i64 p, .int .i64 x.load.force, .int .i64 x.load.speed, .int .i64 x.load.other] 27)
      have hUrL := hUr.alloc (.cells #[.int .i64 p, .int .i64 x.load.force, .int .i64 x.load.speed, .int .i64 x.load.other] 27)
      have hBrL := hBr.alloc (.cells #[.int .i64 p, .int .i64 x.load.force, .int .i64 x.load.speed, .int .i64 x.load.other] 27)
      have hXrL := hXr.alloc (.cells #[.int .i64 p, .int .i64 x.load.force, .int .i64 x.load.speed, .int .i64 x.load.other] 27)
      have lB := hBr.lt
      have lX := hXr.lt
      clear hBr hXr hUr
      go_wp2_with fail
      refine (holdsP_any _ _ b x.thick (pressed x.load p) _ (HR.out _ hArL) (HT.out _ hArL) (HC.out _ hArL)).mono ?_
      rintro e w6 ⟨hh, br, rfl, hq1, -, hb6⟩
      have hwp := wallS_pressed HW0.out (p := p) (by omega) (by omega)
      obtain ⟨e1, e2⟩ := hq1 hwp
      rw [hwp]
      replace e1 := e1.trans (HU.out.holds p (by omega) (by omega))
      replace e2 := e2.trans (HU.out.breaks p (by omega) (by omega))
      have hbN := hbL.trans (hb6.mono hbL.size)
      have hU6 := hUrL.below hb6 hUrL.lt
      have u0 := hU6.cell 0 _ rfl
      have u1 := hU6.cell 1 _ rfl
      clear hq1 hwp hbL hArL hUrL hBrL hXrL hb6 hU6 c0 c1 c2 x0 x1 x2 x3 x4 hb pf
      by_cases g1 : p ≤ u.lo
      · obtain rfl : hh = true := e1.2 g1
        by_cases g2 : u.hi ≤ p
        · obtain rfl : br = true := e2.2 g2
          clear e1 e2
          go_wp2
          go_roundw
          case rel => exact ⟨k + 1, by omega, by go_num, hbN⟩
          case measure => simp [intOf]; omega
        · obtain rfl : br = false := by cases br with | false => rfl | true => exact absurd (e2.1 rfl) g2
          clear e1 e2
          go_wp2
          go_roundw
          case rel => exact ⟨k + 1, by omega, by go_num, hbN⟩
          case measure => simp [intOf]; omega
      · obtain rfl : hh = false := by cases hh with | false => rfl | true => exact absurd (e1.1 rfl) g1
        by_cases g2 : u.hi ≤ p
        · obtain rfl : br = true := e2.2 g2
          clear e1 e2
          go_wp2
          go_roundw
          case rel => exact ⟨k + 1, by omega, by go_num, hbN⟩
          case measure => simp [intOf]; omega
        · obtain rfl : br = false := by cases br with | false => rfl | true => exact absurd (e2.1 rfl) g2
          clear e1 e2
          go_wp2
          go_roundw
          case rel => exact ⟨k + 1, by omega, by go_num, hbN⟩
          case measure => simp [intOf]; omega
    · obtain rfl : k = 4 := by omega
      have u0 := hUr.cell 0 _ rfl
      have u1 := hUr.cell 1 _ rfl
      have g1 := HU.out.lo.1
      have g2 := HU.out.hi.2
      clear hUr hb hA5 hB5 hX5 hU5 hP5
      go_wp2_with fail
      refine (lives5_any _ (HC.out _ hAr)).mono ?_
      rintro e wl ⟨rfl, hbl⟩
      have hAl := hAr.trans (hbl.mono hAr.size)
      clear hbl hAr
      go_wp2
      go_ret
      exact ⟨rfl, hAl⟩

end Go.Proofs.YtokgnbagegcnpaaDoor
