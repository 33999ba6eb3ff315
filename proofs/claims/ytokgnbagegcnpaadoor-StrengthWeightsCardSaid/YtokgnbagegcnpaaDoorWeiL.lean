/- The law StrengthWeights: every input; no statement is proved here. -/
import Derived.Test.YtokgnbagegcnpaaDoorWeiM
import Derived.Test.YtokgnbagegcnpaaDoorHolds2
import Derived.Test.YtokgnbagegcnpaaDoorRealB
import Derived.Test.YtokgnbagegcnpaaDoorSCLaw
namespace Go.Proofs.YtokgnbagegcnpaaDoor
open Go.RowKit Go.PlainAid
set_option linter.unusedVariables false
set_option linter.unusedSimpArgs false
attribute [local go_sem ↓] exec_ask

def wAt (wl d : Int) (k : Nat) : Int := if k = 0 then wl else if k = 1 then wl + d else wl - 1
theorem wAt_cell (wl d : Int) (k : Nat) (hk : k < 3) : (#[.int .i64 wl, .int .i64 (wl + d), .int .i64 (wl - 1)] : Array Value)[k]? = some (.int .i64 (wAt wl d k)) := by
  have : k = 0 ∨ k = 1 ∨ k = 2 := by omega
  rcases this with rfl | rfl | rfl <;> rfl

set_option maxHeartbeats 8000000 in
set_option maxRecDepth 100000 in
theorem sWeightsLaw_any (vb vx : Value) (b : Bot) (x : Ask5) (w : World) (h : RBot w vb b) (hx : RAskC w vx x) (hC : Circ w) :
    Calls Tryd.prog 12 #[vb, vx] w (TrueB w) := by
  have h0 := h
  have hx0 := hx
  obtain ⟨v0, rfl, hr, hI⟩ := h
  obtain ⟨a, cap, rfl, -, -, -⟩ := hr
  obtain ⟨vt, vm, vr, pa, pk, cl, rfl, hx', -⟩ := hx
  obtain ⟨vt', vm', vr', pa', pk', he, hx1, hx2, hx3, -, hxi⟩ := hx'
  simp only [askCells, Value.agg.injEq, Array.mk.injEq, List.cons.injEq, and_true, true_and] at he
  obtain ⟨rfl, rfl, rfl, -⟩ := he
  have ht0 := hx1
  have hm0 := hx2
  have hc0 := hx3
  obtain ⟨at', kt, rfl, -, ⟨-, htm⟩, htl⟩ := hx1
  obtain ⟨am, km, rfl, -, ⟨-, hmm⟩, hml⟩ := hx2
  obtain ⟨ar, kr, rfl, -, -, -⟩ := hx3
  have hA : Below w.heap.size w ((w.alloc (.cells #[.slice a b.rings.length cap, .int .i64 b.flaw, .int .i64 b.tough] 24)).alloc (.cells (askCells x (.slice at' x.thick.length kt) (.slice am x.measured.length km) (.slice ar x.recipe.length kr) pa pk) 33)) := (below_boxS w _).alloc (by simp) _
  have hB := (Blk.new w #[.slice a b.rings.length cap, .int .i64 b.flaw, .int .i64 b.tough] 24).alloc (.cells (askCells x (.slice at' x.thick.length kt) (.slice am x.measured.length km) (.slice ar x.recipe.length kr) pa pk) 33)
  have hX := Blk.new (w.alloc (.cells #[.slice a b.rings.length cap, .int .i64 b.flaw, .int .i64 b.tough] 24)) (askCells x (.slice at' x.thick.length kt) (.slice am x.measured.length km) (.slice ar x.recipe.length kr) pa pk) 33
  rw [World.size_alloc] at hX
  have hz : ((w.alloc (.cells #[.slice a b.rings.length cap, .int .i64 b.flaw, .int .i64 b.tough] 24)).alloc (.cells (askCells x (.slice at' x.thick.length kt) (.slice am x.measured.length km) (.slice ar x.recipe.length kr) pa pk) 33)).heap.size = w.heap.size + 2 := by simp
  replace hz := And.intro (Nat.le_of_eq hz) (Nat.le_of_eq hz.symm)
  simp only [askCells] at hA hB hX hz ⊢
  go_enter Tryd.func12, Tryd.ntmps12
  go_wp2_with fail
  generalize (w.alloc (.cells #[.slice a b.rings.length cap, .int .i64 b.flaw, .int .i64 b.tough] 24)).alloc _ = W2 at *
  have HI := Lib.hid hxi
  have HR := Lib.hid (fun V (hV : Below w.heap.size w V) => h0.mono (ext_of_below hV))
  have HX := Lib.hid (fun V (hV : Below w.heap.size w V) => hx0.mono (ext_of_below hV))
  have HT := Lib.hid (fun V (hV : Below w.heap.size w V) => ht0.mono (ext_of_below hV))
  have HM := Lib.hid (fun V (hV : Below w.heap.size w V) => hm0.mono (ext_of_below hV))
  have HRC := Lib.hid (fun V (hV : Below w.heap.size w V) => hc0.mono (ext_of_below hV))
  have HTL := Lib.hid (fun V (hV : Below w.heap.size w V) i (h : i < x.thick.length) => (htl i h).elim fun b' h1 => h1.elim fun o' h2 => (⟨b', o', h2.1, h2.2.mono (ext_of_below hV)⟩ : ∃ b' o', at' = some ⟨b', o', none⟩ ∧ RSp V ⟨b', o' + i * 2, none⟩ x.thick[i]))
  have HML := Lib.hid hml
  have HC := Lib.hid (fun V (hV : Below w.heap.size w V) => hC.mono (ext_of_below hV))
  clear h0 hx0 ht0 htl hC hm0 hc0 hml hxi
  simp only [askCells] at HX
  refine (great5_any _ b _ (HR.out _ hA)).mono ?_
  rintro e w1 ⟨rfl, hb1⟩
  have hA1 := hA.trans (hb1.mono hA.size)
  have hB1 := hB.below hb1 hB.lt
  have hX1 := hX.below hb1 hX.lt
  have hz1 : w.heap.size + 2 ≤ w1.heap.size := by have := hb1.size; omega
  clear hA hB hX hb1 hz
  cases hg : decide (40 < b.rings.length) with
  | true =>
    clear hB1 hX1
    go_wp2_with fail
    refine (lives5_any _ (HC.out _ hA1)).mono ?_
    rintro e wl ⟨rfl, hbl⟩
    have hAl := hA1.trans (hbl.mono hA1.size)
    clear hbl hA1
    go_wp2
    go_ret
    exact ⟨rfl, hAl⟩

  | false =>
  have c0 := hB1.cell 0 _ rfl
  have c1 := hB1.cell 1 _ rfl
  have c2 := hB1.cell 2 _ rfl
  have hld := ld_ask hX1 rfl
  go_wp2_with fail
  refine (wide5_any _ x _ (HX.out _ hA1)).mono ?_
  rintro e w2 ⟨rw, rfl, hwd, hb2⟩
  have hA2 := hA1.trans (hb2.mono hA1.size)
  have hB2 := hB1.below hb2 hB1.lt
  have hX2 := hX1.below hb2 hX1.lt
  have hz2 : w.heap.size + 2 ≤ w2.heap.size := by have := hb2.size; omega
  clear hA1 hB1 hX1 hb2 hz1 c0 c1 c2 hld
  cases rw with
  | true =>
    clear hB2 hX2
    go_wp2_with fail
    refine (lives5_any _ (HC.out _ hA2)).mono ?_
    rintro e wl ⟨rfl, hbl⟩
    have hAl := hA2.trans (hbl.mono hA2.size)
    clear hbl hA2
    go_wp2
    go_ret
    exact ⟨rfl, hAl⟩

  | false =>
  have h40 := hwd rfl
  clear hwd
  have c0 := hB2.cell 0 _ rfl
  have c1 := hB2.cell 1 _ rfl
  have c2 := hB2.cell 2 _ rfl
  have x1 := hX2.cell 1 _ rfl
  have x2 := hX2.cell 2 _ rfl
  have x3 := hX2.cell 3 _ rfl
  have x4 := hX2.cell 4 _ rfl
  go_wp2_with fail
  refine (lightestP_any _ b x.load _ (HR.out _ hA2) (HC.out _ hA2)).mono ?_
  rintro e w3 ⟨rfl, hb3⟩
  have hA3 := hA2.trans (hb3.mono hA2.size)
  have hB3 := hB2.below hb3 hB2.lt
  have hX3 := hX2.below hb3 hX2.lt
  have hz3 : w.heap.size + 2 ≤ w3.heap.size := by have := hb3.size; omega
  clear hA2 hB2 hX2 hb3 hz2
  clear c0 c1 c2 x1 x2 x3 x4
  have c0 := hB3.cell 0 _ rfl
  have c1 := hB3.cell 1 _ rfl
  have c2 := hB3.cell 2 _ rfl
  have x1 := hX3.cell 1 _ rfl
  have x2 := hX3.cell 2 _ rfl
  have x3 := hX3.cell 3 _ rfl
  have x4 := hX3.cell 4 _ rfl
  go_wp2_with fail
  refine (neededP_any _ b x.load _ (HR.out _ hA3) (HC.out _ hA3)).mono ?_
  rintro e w4 ⟨vn, rfl, hvn, hb4⟩
  have hA4 := hA3.trans (hb4.mono hA3.size)
  have hB4 := hB3.below hb4 hB3.lt
  have hX4 := hX3.below hb4 hX3.lt
  have hz4 : w.heap.size + 2 ≤ w4.heap.size := by have := hb4.size; omega
  clear hA3 hB3 hX3 hb4 hz3
  clear c0 c1 c2 x1 x2 x3 x4
  have hqq : (bothS b x.load != bothS b x.load) = false := by simp
  obtain ⟨an, kn, rfl, -, ⟨-, hnm⟩, hnl⟩ := hvn
  by_cases hw0 : bothS b x.load = 0
  case neg =>
    have hne : (bothS b x.load == 0) = false := by simpa using hw0
    clear hB4 hX4 hnl
    go_wp2_with fail
    refine (lives5_any _ (HC.out _ hA4)).mono ?_
    rintro e wl ⟨rfl, hbl⟩
    have hAl := hA4.trans (hbl.mono hA4.size)
    clear hbl hA4
    go_wp2
    go_ret
    exact ⟨rfl, hAl⟩

  have hls : lightS b x.load = lightF b x.load := by rw [lightS, if_pos hw0]
  have hns : needsS b x.load = needS b x.load := by rw [needsS, if_pos hw0]
  rw [hns] at hnl hnm ⊢
  rw [hls]
  have HW0 := Lib.hid hw0
  obtain ⟨hok, hl⟩ := both_ok hw0
  rw [hw0]
  clear hqq
  have hfo := lightF_is (l := x.load) hok
  have wl1 := hfo.ge
  have wl2 := hfo.le
  obtain ⟨wl, hwl⟩ : ∃ wl, lightF b x.load = wl := ⟨_, rfl⟩
  rw [hwl] at wl1 wl2 ⊢
  have HWL := Lib.hid hwl
  by_cases hz0 : wl = 0
  · have hze : (wl == 0) = true := by rw [beq_iff_eq]; exact hz0
    clear hB4 hX4 hnl hfo hwl hls hns
    go_wp2_with fail
    refine (lives5_any _ (HC.out _ hA4)).mono ?_
    rintro e wl ⟨rfl, hbl⟩
    have hAl := hA4.trans (hbl.mono hA4.size)
    clear hbl hA4
    go_wp2
    go_ret
    exact ⟨rfl, hAl⟩

  have hze : (wl == 0) = false := by rw [beq_eq_false_iff_ne]; exact hz0
  have hlen := needS_len b x.load
  have hmo := hok.most
  have HLEN := Lib.hid hlen
  have HOK := Lib.hid hok
  have HL := Lib.hid hl
  have hn24 : (needS b x.load).length ≤ 24 := by omega
  have HNL : Hid (∀ i (h : i < (needS b x.load).length), ∃ b' o', an = some ⟨b', o', none⟩ ∧ b' < w4.heap.size ∧ ∀ V, Below w4.heap.size w4 V → V.cell? ⟨b', o' + i, none⟩ = some (.int .i64 (needS b x.load)[i])) := Lib.hid (fun i hi => by
    obtain ⟨b', o', h1, h2, -⟩ := hnl i hi
    obtain ⟨-, h3⟩ := vis_cell.1 h2
    refine ⟨b', o', h1, cell_lt h3, fun V hV => ?_⟩
    have := ext_of_below hV _ _ h3
    simpa using this)
  have hwi : I64 x.weights.lo := HI.out.2.1.1
  have t0 : I64 (x.weights.lo.tmod 1000) := by unfold I64; have := Int.tmod_lt_of_pos x.weights.lo (show (0 : Int) < 1000 by omega); have := Int.lt_tmod_of_pos x.weights.lo (show (0 : Int) < 1000 by omega); omega
  have t1 : x.weights.lo.tmod 1000 < 1000 := Int.tmod_lt_of_pos _ (by omega)
  have r0 := wrap_id _ t0
  obtain ⟨q, hq⟩ : ∃ q, x.weights.lo.tmod 1000 = q := ⟨_, rfl⟩
  rw [hq] at t0 t1 r0
  have m0 := max_if5 0 q
  obtain ⟨d, hd⟩ : ∃ d, max 0 q = d := ⟨_, rfl⟩
  have d1 : 0 ≤ d ∧ d ≤ 999 := by omega
  rw [hd] at m0
  have r1 := wrap_id (wl + d) (by unfold I64; omega)
  have r2 := wrap_id (wl - 1) (by unfold I64; omega)
  have x5 := hX4.cell 5 _ rfl
  have hA5 : Below w.heap.size w (w4.alloc (.cells #[.int .i64 wl, .int .i64 (wl + d), .int .i64 (wl - 1)] 3)) := hA4.alloc hA4.size _
  have hB5 := hB4.alloc (.cells #[.int .i64 wl, .int .i64 (wl + d), .int .i64 (wl - 1)] 3)
  have hX5 := hX4.alloc (.cells #[.int .i64 wl, .int .i64 (wl + d), .int .i64 (wl - 1)] 3)
  have hP5 := Blk.new w4 #[.int .i64 wl, .int .i64 (wl + d), .int .i64 (wl - 1)] 3
  have hD5 : Below w4.heap.size w4 (w4.alloc (.cells #[.int .i64 wl, .int .i64 (wl + d), .int .i64 (wl - 1)] 3)) := below_boxS w4 _
  clear hnl hlen hok hl hfo hwl hls hns hd hA4 hB4 hX4 hw0 hwi t0
  go_wp2_with fail
  clear x5 r0 r1 r2 m0 hq t1 hze
  generalize w4.alloc (.cells #[.int .i64 wl, .int .i64 (wl + d), .int .i64 (wl - 1)] 3) = W5 at *
  go_loopw [62] (fun i wr => ∃ k : Nat, k ≤ 3 ∧ i = .int .i64 k ∧ Below W5.heap.size W5 wr) (fun i _ => 3 - (intOf i).toNat)
  case atStart => exact ⟨0, by omega, rfl, Below.refl _ _⟩
  case round =>
    obtain ⟨k, hk, rfl, hb⟩ := hrel
    obtain ⟨w6, hw6⟩ : ∃ w6, w6 = wr := ⟨wr, rfl⟩
    subst hw6
    have hAr := hA5.trans (hb.mono hA5.size)
    by_cases hlt : k < 3
    · have hBr := hB5.below hb hB5.lt
      have hXr := hX5.below hb hX5.lt
      have hDr := hD5.trans (hb.mono hD5.size)
      have pf := (hP5.below hb hP5.lt).cell k _ (wAt_cell wl d k hlt)
      have i1 : (0 : Int) ≤ (k : Int) := Int.natCast_nonneg _
      have i2 : (k : Int) < 3 := by omega
      generalize wAt wl d k = n at *
      by_cases hp1 : n < 1
      · have hbN := hb
        clear hBr hXr hDr hAr
        go_wp2
        go_roundw
        case rel => exact ⟨k + 1, by omega, by go_num, hbN⟩
        case measure => simp [intOf]; omega
      by_cases hp2 : 100000 < n
      · have hbN := hb
        clear hBr hXr hDr hAr
        go_wp2
        go_roundw
        case rel => exact ⟨k + 1, by omega, by go_num, hbN⟩
        case measure => simp [intOf]; omega
      have HSV : Hid (∀ V, Below w6.heap.size w6 V → (fun w' : World => w'.cell? ⟨w.heap.size, 0, none⟩ = some (.slice a b.rings.length cap) ∧ w'.cell? ⟨w.heap.size, 1, none⟩ = some (.int .i64 b.flaw) ∧ w'.cell? ⟨w.heap.size, 2, none⟩ = some (.int .i64 b.tough)) V) := Lib.hid (fun V hV => ⟨ext_of_below hV _ _ (hBr.cell 0 _ rfl), ext_of_below hV _ _ (hBr.cell 1 _ rfl), ext_of_below hV _ _ (hBr.cell 2 _ rfl)⟩)
      have D0 : Below w6.heap.size w6 w6.drew := (Below.refl _ _).drew
      have hth := fun V (hV : Below w.heap.size w V) => thicknessP_any _ b ⟨n, n⟩ V (HR.out _ hV) (HC.out _ hV)
      rw [thickS_one (both_check HW0.out) (by omega) (by omega)] at hth
      simp only at hth
      go_wp2_with fail
      refine wp_region_till (fun w' : World => w'.cell? ⟨w.heap.size, 0, none⟩ = some (.slice a b.rings.length cap) ∧ w'.cell? ⟨w.heap.size, 1, none⟩ = some (.int .i64 b.flaw) ∧ w'.cell? ⟨w.heap.size, 2, none⟩ = some (.int .i64 b.tough)) 99 (by kernel_rfl) (HSV.out _ D0) (fun hHeld => ?_)
      refine Till.take 0 (some 73) (v := ?_) rfl rfl (by kernel_rfl) (by kernel_rfl) (by kernel_rfl) (by kernel_rfl) (fun _ _ _ h => h) (Or.inl ⟨by rfl, ?_⟩) (by assumption) ?_
      rotate_left
      · (intro w hSw; (try dsimp only at hSw); go_simp; try with_reducible rfl)
      try simp only [Act.put, List.setIfInBounds_toArray, List.set_cons_zero, List.set_cons_succ]
      refine Till.take 1 (some 74) (v := ?_) rfl rfl (by kernel_rfl) (by kernel_rfl) (by kernel_rfl) (by kernel_rfl) (fun _ _ _ h => h) (Or.inl ⟨by rfl, ?_⟩) (by assumption) ?_
      rotate_left
      · (intro w hSw; (try dsimp only at hSw); go_simp; try with_reducible rfl)
      try simp only [Act.put, List.setIfInBounds_toArray, List.set_cons_zero, List.set_cons_succ]
      refine Till.one 2 rfl (by kernel_rfl) (fun K hK => ?_)
      go_simp
      go_at_call 46
      refine (exact_any n _).mono ?_
      rintro e V1 ⟨rfl, hbb⟩
      have D1 := D0.trans (hbb.mono D0.size)
      refine hK.out _ _ (fun _ => HSV.out _ D1) (fun _ => ?_)
      clear hK K hbb
      try simp only [Act.put, List.setIfInBounds_toArray, List.set_cons_zero, List.set_cons_succ]
      refine Till.one 3 rfl (by kernel_rfl) (fun K hK => ?_)
      go_simp
      go_at_call 18
      refine (hth _ (hAr.trans (D1.mono hAr.size))).mono ?_
      rintro e V2 ⟨vt2, rfl, hvt, hbb⟩
      have D2 := D1.trans (hbb.mono D1.size)
      have hh := HSV.out _ D2
      have HTH : Hid (∀ V, Below V2.heap.size V2 V → RSps V vt2 (thickL b ⟨n, n⟩)) := Lib.hid (fun V hV => hvt.mono ((vis_ext _ _).trans (ext_of_below hV)))
      obtain ⟨at2, kt2, rfl, -, ⟨-, htm2⟩, htl2⟩ := hvt
      have HTC : Hid (∀ i (h : i < (thickL b ⟨n, n⟩).length), ∃ b' o', at2 = some ⟨b', o', none⟩ ∧ ∀ V, Below V2.heap.size V2 V → V.cell? ⟨b', o' + i * 2, none⟩ = some (.int .i64 (thickL b ⟨n, n⟩)[i].lo) ∧ V.cell? ⟨b', o' + i * 2 + 1, none⟩ = some (.int .i64 (thickL b ⟨n, n⟩)[i].hi)) := Lib.hid (fun i hi => by
        obtain ⟨b', o', h1, h2, h3, -⟩ := htl2 i hi
        exact ⟨b', o', h1, fun V hV => ⟨ext_of_below hV _ _ (vis_cell.1 h2).2, ext_of_below hV _ _ (vis_cell.1 h3).2⟩⟩)
      refine hK.out _ _ (fun _ => hh) (fun hHeld2 => ?_)
      clear hK K hbb hth htl2
      try simp only [Act.put, List.setIfInBounds_toArray, List.set_cons_zero, List.set_cons_succ]
      refine Till.take 4 (some 72) (v := ?_) rfl rfl (by kernel_rfl) (by kernel_rfl) (by kernel_rfl) (by kernel_rfl) (fun _ _ _ h => h) (Or.inl ⟨by rfl, ?_⟩) (by assumption) ?_
      rotate_left
      · (intro w hSw; (try dsimp only at hSw); go_simp; try with_reducible rfl)
      try simp only [Act.put, List.setIfInBounds_toArray, List.set_cons_zero, List.set_cons_succ]
      refine Till.take 5 (some 77) (v := ?_) rfl rfl (by kernel_rfl) (by kernel_rfl) (by kernel_rfl) (by kernel_rfl) (fun _ _ _ h => h) (Or.inl ⟨by rfl, ?_⟩) (by assumption) ?_
      rotate_left
      · (intro w hSw; (try dsimp only at hSw); go_simp; try with_reducible rfl)
      try simp only [Act.put, List.setIfInBounds_toArray, List.set_cons_zero, List.set_cons_succ]
      refine Till.take 6 (some 78) (v := ?_) rfl rfl (by kernel_rfl) (by kernel_rfl) (by kernel_rfl) (by kernel_rfl) (fun _ _ _ h => h) (Or.inl ⟨by rfl, ?_⟩) (by assumption) ?_
      rotate_left
      · (intro w hSw; (try dsimp only at hSw); go_simp; try with_reducible rfl)
      try simp only [Act.put, List.setIfInBounds_toArray, List.set_cons_zero, List.set_cons_succ]
      refine Till.take 7 (some 11) (v := ?_) rfl rfl (by kernel_rfl) (by kernel_rfl) (by kernel_rfl) (by kernel_rfl) (fun _ _ _ h => h) (Or.inl ⟨by rfl, ?_⟩) (by assumption) ?_
      rotate_left
      · (intro w hSw; (try dsimp only at hSw); go_simp; try with_reducible rfl)
      try simp only [Act.put, List.setIfInBounds_toArray, List.set_cons_zero, List.set_cons_succ]
      refine Till.take 8 (some 12) (v := ?_) rfl rfl (by kernel_rfl) (by kernel_rfl) (by kernel_rfl) (by kernel_rfl) (fun _ _ _ h => h) (Or.inl ⟨by rfl, ?_⟩) (by assumption) ?_
      rotate_left
      · (intro w hSw; (try dsimp only at hSw); go_simp; try with_reducible rfl)
      try simp only [Act.put, List.setIfInBounds_toArray, List.set_cons_zero, List.set_cons_succ]
      refine Till.done (by kernel_rfl) ?_ _
      have hA7 := hAr.trans (D2.mono hAr.size)
      have hB7 := hBr.below D2 hBr.lt
      have hX7 := hXr.below D2 hXr.lt
      have hD7 := hDr.trans (D2.mono hDr.size)
      have hb7 := hb.trans (D2.mono hb.size)
      have htlen := thickL_len b ⟨n, n⟩
      have HTL5 := Lib.hid htlen
      have hqn : (((thickL b ⟨n, n⟩).length : Int) != ((needS b x.load).length : Int)) = false := by rw [bne_eq_false_iff_eq, htlen, HLEN.out]
      have ht24 : (thickL b ⟨n, n⟩).length ≤ 24 := by omega
      clear hh hHeld hHeld2 HSV D0 D1 D2 hAr hBr hXr hDr pf htlen
      go_wp2_with fail
      clear hqn
      go_loopw [13, 14, 15] (fun e1 e2 i wr => ∃ (j : Nat) (be bm : Bool), j ≤ (thickL b ⟨n, n⟩).length ∧ i = .int .i64 j ∧ e1 = .bool be ∧ e2 = .bool bm ∧ Hid (be = enU (thickL b ⟨n, n⟩) (needS b x.load) j ∧ bm = mayU (thickL b ⟨n, n⟩) j) ∧ Below V2.heap.size V2 wr) (fun _ _ i _ => (thickL b ⟨n, n⟩).length - (intOf i).toNat)
      case atStart => exact ⟨0, true, true, Nat.zero_le _, rfl, rfl, rfl, ⟨rfl, rfl⟩, Below.refl _ _⟩
      case round =>
        obtain ⟨j, be, bm, hj, rfl, rfl, rfl, hbm, hb2⟩ := hrel
        have hA8 := hA7.trans (hb2.mono hA7.size)
        have hD8 := hD7.trans (hb2.mono hD7.size)
        by_cases hjl : j < (thickL b ⟨n, n⟩).length
        · obtain ⟨tb, o1, rfl, htc⟩ := HTC.out j hjl
          obtain ⟨t0, t1⟩ := htc _ hb2
          have hjn : j < (needS b x.load).length := by rw [HLEN.out, ← HTL5.out]; exact hjl
          obtain ⟨nb, no, rfl, hnb, hnc⟩ := HNL.out j hjn
          have nc := hnc _ hD8
          have j1 : (0 : Int) ≤ (j : Int) := Int.natCast_nonneg _
          have j2 : (j : Int) < ((thickL b ⟨n, n⟩).length : Int) := by omega
          have j3 : (j : Int) < ((needS b x.load).length : Int) := by omega
          have hgt : (thickL b ⟨n, n⟩).getD j ⟨0, 0⟩ = (thickL b ⟨n, n⟩)[j] := by rw [List.getD_eq_getElem?_getD, List.getElem?_eq_getElem hjl]; rfl
          have hgn : (needS b x.load).getD j 0 = (needS b x.load)[j] := by rw [List.getD_eq_getElem?_getD, List.getElem?_eq_getElem hjn]; rfl
          have HEN : Hid (enU (thickL b ⟨n, n⟩) (needS b x.load) (j + 1) = (be && decide ((needS b x.load)[j] ≤ (thickL b ⟨n, n⟩)[j].lo))) := Lib.hid (by rw [enU_succ, hgt, hgn, hbm.out.1])
          have HMA : Hid (mayU (thickL b ⟨n, n⟩) (j + 1) = (bm && (decide (1 ≤ (thickL b ⟨n, n⟩)[j].lo) && decide ((thickL b ⟨n, n⟩)[j].hi ≤ 2000)))) := Lib.hid (by rw [mayU_succ, hgt, hbm.out.2])
          clear hgt hgn hnc htc hbm hA8 hD8
          generalize (thickL b ⟨n, n⟩)[j] = T at *
          generalize (needS b x.load)[j] = q at *
          have D0 := hb2.drew
          have S0 : (fun w' : World => w'.cell? ⟨tb, o1 + j * 2, none⟩ = some (.int .i64 T.lo) ∧ w'.cell? ⟨nb, no + j, none⟩ = some (.int .i64 q)) wr.drew := ⟨t0, nc⟩
          have t0' : wr.drew.cell? ⟨tb, o1 + j * 2, none⟩ = some (.int .i64 T.lo) := t0
          have t1' : wr.drew.cell? ⟨tb, o1 + j * 2 + 1, none⟩ = some (.int .i64 T.hi) := t1
          clear t0 t1 nc
          obtain ⟨be', hbe'⟩ : ∃ be', (be && decide (q ≤ T.lo)) = be' := ⟨_, rfl⟩
          obtain ⟨bm', hbm'⟩ : ∃ bm', (bm && (decide (1 ≤ T.lo) && decide (T.hi ≤ 2000))) = bm' := ⟨_, rfl⟩
          have HR1 : Hid (be' = enU (thickL b ⟨n, n⟩) (needS b x.load) (j + 1) ∧ bm' = mayU (thickL b ⟨n, n⟩) (j + 1)) := Lib.hid ⟨by rw [HEN.out, hbe'], by rw [HMA.out, hbm']⟩
          have HB1 := Lib.hid hbe'
          have HB2 := Lib.hid hbm'
          clear hbe' hbm' HEN HMA hb2
          cases be with
          | true =>
            go_wp2_with fail
            refine wp_region_till (fun w' : World => w'.cell? ⟨tb, o1 + j * 2, none⟩ = some (.int .i64 T.lo) ∧ w'.cell? ⟨nb, no + j, none⟩ = some (.int .i64 q)) 99 (by kernel_rfl) S0 (fun hHeld => ?_)
            refine Till.take 0 (some 94) (v := ?_) rfl rfl (by kernel_rfl) (by kernel_rfl) (by kernel_rfl) (by kernel_rfl) (fun _ _ _ h => h) (Or.inl ⟨by rfl, ?_⟩) (by assumption) ?_
            rotate_left
            · (intro w hSw; (try dsimp only at hSw); go_simp; try with_reducible rfl)
            try simp only [Act.put, List.setIfInBounds_toArray, List.set_cons_zero, List.set_cons_succ]
            refine Till.take 1 (some 95) (v := ?_) rfl rfl (by kernel_rfl) (by kernel_rfl) (by kernel_rfl) (by kernel_rfl) (fun _ _ _ h => h) (Or.inl ⟨by rfl, ?_⟩) (by assumption) ?_
            rotate_left
            · (intro w hSw; (try dsimp only at hSw); go_simp; try with_reducible rfl)
            try simp only [Act.put, List.setIfInBounds_toArray, List.set_cons_zero, List.set_cons_succ]
            refine Till.take 2 (some 96) (v := ?_) rfl rfl (by kernel_rfl) (by kernel_rfl) (by kernel_rfl) (by kernel_rfl) (fun _ _ _ h => h) (Or.inl ⟨by rfl, ?_⟩) (by assumption) ?_
            rotate_left
            · (intro w hSw; (try dsimp only at hSw); go_simp; try with_reducible rfl)
            try simp only [Act.put, List.setIfInBounds_toArray, List.set_cons_zero, List.set_cons_succ]
            refine Till.take 3 (some 97) (v := ?_) rfl rfl (by kernel_rfl) (by kernel_rfl) (by kernel_rfl) (by kernel_rfl) (fun _ _ _ h => h) (Or.inl ⟨by rfl, ?_⟩) (by assumption) ?_
            rotate_left
            · (intro w hSw; (try dsimp only at hSw); go_simp; try with_reducible rfl)
            try simp only [Act.put, List.setIfInBounds_toArray, List.set_cons_zero, List.set_cons_succ]
            refine Till.take 4 (some 98) (v := ?_) rfl rfl (by kernel_rfl) (by kernel_rfl) (by kernel_rfl) (by kernel_rfl) (fun _ _ _ h => h) (Or.inl ⟨by rfl, ?_⟩) (by assumption) ?_
            rotate_left
            · (intro w hSw; (try dsimp only at hSw); go_simp; try with_reducible rfl)
            try simp only [Act.put, List.setIfInBounds_toArray, List.set_cons_zero, List.set_cons_succ]
            refine Till.take 5 (some 99) (v := ?_) rfl rfl (by kernel_rfl) (by kernel_rfl) (by kernel_rfl) (by kernel_rfl) (fun _ _ _ h => h) (Or.inl ⟨by rfl, ?_⟩) (by assumption) ?_
            rotate_left
            · (intro w hSw; (try dsimp only at hSw); go_simp; try with_reducible rfl)
            try simp only [Act.put, List.setIfInBounds_toArray, List.set_cons_zero, List.set_cons_succ]
            refine Till.take 6 (some 100) (v := ?_) rfl rfl (by kernel_rfl) (by kernel_rfl) (by kernel_rfl) (by kernel_rfl) (fun _ _ _ h => h) (Or.inl ⟨by rfl, ?_⟩) (by assumption) ?_
            rotate_left
            · (intro w hSw; (try dsimp only at hSw); go_simp; try with_reducible rfl)
            try simp only [Act.put, List.setIfInBounds_toArray, List.set_cons_zero, List.set_cons_succ]
            refine Till.take 7 (some 101) (v := ?_) rfl rfl (by kernel_rfl) (by kernel_rfl) (by kernel_rfl) (by kernel_rfl) (fun _ _ _ h => h) (Or.inl ⟨by rfl, ?_⟩) (by assumption) ?_
            rotate_left
            · (intro w hSw; (try dsimp only at hSw); go_simp; try with_reducible rfl)
            try simp only [Act.put, List.setIfInBounds_toArray, List.set_cons_zero, List.set_cons_succ]
            refine Till.take 8 (some 102) (v := ?_) rfl rfl (by kernel_rfl) (by kernel_rfl) (by kernel_rfl) (by kernel_rfl) (fun _ _ _ h => h) (Or.inl ⟨by rfl, ?_⟩) (by assumption) ?_
            rotate_left
            · (intro w hSw; (try dsimp only at hSw); go_simp; try with_reducible rfl)
            try simp only [Act.put, List.setIfInBounds_toArray, List.set_cons_zero, List.set_cons_succ]
            refine Till.take 9 (some 103) (v := ?_) rfl rfl (by kernel_rfl) (by kernel_rfl) (by kernel_rfl) (by kernel_rfl) (fun _ _ _ h => h) (Or.inl ⟨by rfl, ?_⟩) (by assumption) ?_
            rotate_left
            · (intro w hSw; (try dsimp only at hSw); go_simp; try with_reducible rfl)
            try simp only [Act.put, List.setIfInBounds_toArray, List.set_cons_zero, List.set_cons_succ]
            refine Till.take 10 (some 104) (v := ?_) rfl rfl (by kernel_rfl) (by kernel_rfl) (by kernel_rfl) (by kernel_rfl) (fun _ _ _ h => h) (Or.inl ⟨by rfl, ?_⟩) (by assumption) ?_
            rotate_left
            · (intro w hSw; (try dsimp only at hSw); go_simp; try with_reducible rfl)
            try simp only [Act.put, List.setIfInBounds_toArray, List.set_cons_zero, List.set_cons_succ]
            refine Till.take 11 (some 105) (v := ?_) rfl rfl (by kernel_rfl) (by kernel_rfl) (by kernel_rfl) (by kernel_rfl) (fun _ _ _ h => h) (Or.inl ⟨by rfl, ?_⟩) (by assumption) ?_
            rotate_left
            · (intro w hSw; (try dsimp only at hSw); go_simp; try with_reducible rfl)
            try simp only [Act.put, List.setIfInBounds_toArray, List.set_cons_zero, List.set_cons_succ]
            refine Till.take 12 (some 106) (v := ?_) rfl rfl (by kernel_rfl) (by kernel_rfl) (by kernel_rfl) (by kernel_rfl) (fun _ _ _ h => h) (Or.inl ⟨by rfl, ?_⟩) (by assumption) ?_
            rotate_left
            · (intro w hSw; (try dsimp only at hSw); go_simp; try with_reducible rfl)
            try simp only [Act.put, List.setIfInBounds_toArray, List.set_cons_zero, List.set_cons_succ]
            refine Till.take 13 (some 13) (v := ?_) rfl rfl (by kernel_rfl) (by kernel_rfl) (by kernel_rfl) (by kernel_rfl) (fun _ _ _ h => h) (Or.inl ⟨by rfl, ?_⟩) (by assumption) ?_
            rotate_left
            · (intro w hSw; (try dsimp only at hSw); go_simp; try with_reducible rfl)
            try simp only [Act.put, List.setIfInBounds_toArray, List.set_cons_zero, List.set_cons_succ]
            refine Till.done (by kernel_rfl) ?_ _
            clear hHeld S0
            generalize wr.drew = WD at *
            by_cases hc : q ≤ T.lo
            · obtain rfl : be' = true := by rw [← HB1.out]; simp [hc]
              have hcd := decide_eq_true hc
              cases bm with
              | false =>
                obtain rfl : bm' = false := by rw [← HB2.out]; rfl
                go_wp2
                go_roundw
                case rel => exact ⟨j + 1, _, _, by omega, by go_num, by first | rfl | rw [hcd], rfl, HR1, D0⟩
                case measure => simp [intOf]; omega
              | true =>
                by_cases hm1 : 1 ≤ T.lo
                · have hmd := decide_eq_true hm1
                  by_cases hm2 : T.hi ≤ 2000
                  · have hmd2 := decide_eq_true hm2
                    obtain rfl : bm' = true := by rw [← HB2.out]; simp [hm1, hm2]
                    go_wp2
                    go_roundw
                    case rel => exact ⟨j + 1, _, _, by omega, by go_num, by first | rfl | rw [hcd], rfl, HR1, D0⟩
                    case measure => simp [intOf]; omega
                  · have hmd2 := decide_eq_false hm2
                    obtain rfl : bm' = false := by rw [← HB2.out]; simp [hm2]
                    go_wp2
                    go_roundw
                    case rel => exact ⟨j + 1, _, _, by omega, by go_num, by first | rfl | rw [hcd], rfl, HR1, D0⟩
                    case measure => simp [intOf]; omega
                · have hmd := decide_eq_false hm1
                  obtain rfl : bm' = false := by rw [← HB2.out]; simp [hm1]
                  go_wp2
                  go_roundw
                  case rel => exact ⟨j + 1, _, _, by omega, by go_num, by first | rfl | rw [hcd], rfl, HR1, D0⟩
                  case measure => simp [intOf]; omega
            · obtain rfl : be' = false := by rw [← HB1.out]; simp [hc]
              have hcd := decide_eq_false hc
              cases bm with
              | false =>
                obtain rfl : bm' = false := by rw [← HB2.out]; rfl
                go_wp2
                go_roundw
                case rel => exact ⟨j + 1, _, _, by omega, by go_num, by first | rfl | rw [hcd], rfl, HR1, D0⟩
                case measure => simp [intOf]; omega
              | true =>
                by_cases hm1 : 1 ≤ T.lo
                · have hmd := decide_eq_true hm1
                  by_cases hm2 : T.hi ≤ 2000
                  · have hmd2 := decide_eq_true hm2
                    obtain rfl : bm' = true := by rw [← HB2.out]; simp [hm1, hm2]
                    go_wp2
                    go_roundw
                    case rel => exact ⟨j + 1, _, _, by omega, by go_num, by first | rfl | rw [hcd], rfl, HR1, D0⟩
                    case measure => simp [intOf]; omega
                  · have hmd2 := decide_eq_false hm2
                    obtain rfl : bm' = false := by rw [← HB2.out]; simp [hm2]
                    go_wp2
                    go_roundw
                    case rel => exact ⟨j + 1, _, _, by omega, by go_num, by first | rfl | rw [hcd], rfl, HR1, D0⟩
                    case measure => simp [intOf]; omega
                · have hmd := decide_eq_false hm1
                  obtain rfl : bm' = false := by rw [← HB2.out]; simp [hm1]
                  go_wp2
                  go_roundw
                  case rel => exact ⟨j + 1, _, _, by omega, by go_num, by first | rfl | rw [hcd], rfl, HR1, D0⟩
                  case measure => simp [intOf]; omega
          | false =>
            obtain rfl : be' = false := by rw [← HB1.out]; rfl
            go_wp2_with fail
            refine wp_region_till (fun w' : World => w'.cell? ⟨tb, o1 + j * 2, none⟩ = some (.int .i64 T.lo) ∧ w'.cell? ⟨nb, no + j, none⟩ = some (.int .i64 q)) 99 (by kernel_rfl) S0 (fun hHeld => ?_)
            refine Till.take 0 (some 94) (v := ?_) rfl rfl (by kernel_rfl) (by kernel_rfl) (by kernel_rfl) (by kernel_rfl) (fun _ _ _ h => h) (Or.inl ⟨by rfl, ?_⟩) (by assumption) ?_
            rotate_left
            · (intro w hSw; (try dsimp only at hSw); go_simp; try with_reducible rfl)
            try simp only [Act.put, List.setIfInBounds_toArray, List.set_cons_zero, List.set_cons_succ]
            refine Till.take 1 (some 95) (v := ?_) rfl rfl (by kernel_rfl) (by kernel_rfl) (by kernel_rfl) (by kernel_rfl) (fun _ _ _ h => h) (Or.inl ⟨by rfl, ?_⟩) (by assumption) ?_
            rotate_left
            · (intro w hSw; (try dsimp only at hSw); go_simp; try with_reducible rfl)
            try simp only [Act.put, List.setIfInBounds_toArray, List.set_cons_zero, List.set_cons_succ]
            refine Till.take 2 (some 96) (v := undef) rfl rfl (by kernel_rfl) (by kernel_rfl) (by kernel_rfl) (by kernel_rfl) (fun _ _ _ h => h) (Or.inr ⟨by rfl, rfl⟩) (by assumption) ?_
            try simp only [Act.put, List.setIfInBounds_toArray, List.set_cons_zero, List.set_cons_succ]
            refine Till.take 3 (some 97) (v := undef) rfl rfl (by kernel_rfl) (by kernel_rfl) (by kernel_rfl) (by kernel_rfl) (fun _ _ _ h => h) (Or.inr ⟨by rfl, rfl⟩) (by assumption) ?_
            try simp only [Act.put, List.setIfInBounds_toArray, List.set_cons_zero, List.set_cons_succ]
            refine Till.take 4 (some 98) (v := undef) rfl rfl (by kernel_rfl) (by kernel_rfl) (by kernel_rfl) (by kernel_rfl) (fun _ _ _ h => h) (Or.inr ⟨by rfl, rfl⟩) (by assumption) ?_
            try simp only [Act.put, List.setIfInBounds_toArray, List.set_cons_zero, List.set_cons_succ]
            refine Till.take 5 (some 99) (v := undef) rfl rfl (by kernel_rfl) (by kernel_rfl) (by kernel_rfl) (by kernel_rfl) (fun _ _ _ h => h) (Or.inr ⟨by rfl, rfl⟩) (by assumption) ?_
            try simp only [Act.put, List.setIfInBounds_toArray, List.set_cons_zero, List.set_cons_succ]
            refine Till.take 6 (some 100) (v := undef) rfl rfl (by kernel_rfl) (by kernel_rfl) (by kernel_rfl) (by kernel_rfl) (fun _ _ _ h => h) (Or.inr ⟨by rfl, rfl⟩) (by assumption) ?_
            try simp only [Act.put, List.setIfInBounds_toArray, List.set_cons_zero, List.set_cons_succ]
            refine Till.take 7 (some 101) (v := undef) rfl rfl (by kernel_rfl) (by kernel_rfl) (by kernel_rfl) (by kernel_rfl) (fun _ _ _ h => h) (Or.inr ⟨by rfl, rfl⟩) (by assumption) ?_
            try simp only [Act.put, List.setIfInBounds_toArray, List.set_cons_zero, List.set_cons_succ]
            refine Till.take 8 (some 102) (v := undef) rfl rfl (by kernel_rfl) (by kernel_rfl) (by kernel_rfl) (by kernel_rfl) (fun _ _ _ h => h) (Or.inr ⟨by rfl, rfl⟩) (by assumption) ?_
            try simp only [Act.put, List.setIfInBounds_toArray, List.set_cons_zero, List.set_cons_succ]
            refine Till.take 9 (some 103) (v := undef) rfl rfl (by kernel_rfl) (by kernel_rfl) (by kernel_rfl) (by kernel_rfl) (fun _ _ _ h => h) (Or.inr ⟨by rfl, rfl⟩) (by assumption) ?_
            try simp only [Act.put, List.setIfInBounds_toArray, List.set_cons_zero, List.set_cons_succ]
            refine Till.take 10 (some 104) (v := undef) rfl rfl (by kernel_rfl) (by kernel_rfl) (by kernel_rfl) (by kernel_rfl) (fun _ _ _ h => h) (Or.inr ⟨by rfl, rfl⟩) (by assumption) ?_
            try simp only [Act.put, List.setIfInBounds_toArray, List.set_cons_zero, List.set_cons_succ]
            refine Till.take 11 (some 105) (v := undef) rfl rfl (by kernel_rfl) (by kernel_rfl) (by kernel_rfl) (by kernel_rfl) (fun _ _ _ h => h) (Or.inr ⟨by rfl, rfl⟩) (by assumption) ?_
            try simp only [Act.put, List.setIfInBounds_toArray, List.set_cons_zero, List.set_cons_succ]
            refine Till.take 12 (some 106) (v := ?_) rfl rfl (by kernel_rfl) (by kernel_rfl) (by kernel_rfl) (by kernel_rfl) (fun _ _ _ h => h) (Or.inl ⟨by rfl, ?_⟩) (by assumption) ?_
            rotate_left
            · (intro w hSw; (try dsimp only at hSw); go_simp; try with_reducible rfl)
            try simp only [Act.put, List.setIfInBounds_toArray, List.set_cons_zero, List.set_cons_succ]
            refine Till.take 13 (some 13) (v := ?_) rfl rfl (by kernel_rfl) (by kernel_rfl) (by kernel_rfl) (by kernel_rfl) (fun _ _ _ h => h) (Or.inl ⟨by rfl, ?_⟩) (by assumption) ?_
            rotate_left
            · (intro w hSw; (try dsimp only at hSw); go_simp; try with_reducible rfl)
            try simp only [Act.put, List.setIfInBounds_toArray, List.set_cons_zero, List.set_cons_succ]
            refine Till.done (by kernel_rfl) ?_ _
            clear hHeld S0
            generalize wr.drew = WD at *
            cases bm with
            | false =>
              obtain rfl : bm' = false := by rw [← HB2.out]; rfl
              go_wp2
              go_roundw
              case rel => exact ⟨j + 1, _, _, by omega, by go_num, by first | rfl | rw [hcd], rfl, HR1, D0⟩
              case measure => simp [intOf]; omega
            | true =>
              by_cases hm1 : 1 ≤ T.lo
              · have hmd := decide_eq_true hm1
                by_cases hm2 : T.hi ≤ 2000
                · have hmd2 := decide_eq_true hm2
                  obtain rfl : bm' = true := by rw [← HB2.out]; simp [hm1, hm2]
                  go_wp2
                  go_roundw
                  case rel => exact ⟨j + 1, _, _, by omega, by go_num, by first | rfl | rw [hcd], rfl, HR1, D0⟩
                  case measure => simp [intOf]; omega
                · have hmd2 := decide_eq_false hm2
                  obtain rfl : bm' = false := by rw [← HB2.out]; simp [hm2]
                  go_wp2
                  go_roundw
                  case rel => exact ⟨j + 1, _, _, by omega, by go_num, by first | rfl | rw [hcd], rfl, HR1, D0⟩
                  case measure => simp [intOf]; omega
              · have hmd := decide_eq_false hm1
                obtain rfl : bm' = false := by rw [← HB2.out]; simp [hm1]
                go_wp2
                go_roundw
                case rel => exact ⟨j + 1, _, _, by omega, by go_num, by first | rfl | rw [hcd], rfl, HR1, D0⟩
                case measure => simp [intOf]; omega
        · obtain rfl : j = (thickL b ⟨n, n⟩).length := by omega
          obtain ⟨e1, e2⟩ := hbm.out
          have hen := en_iff (b := b) (l := x.load) (n := n) HW0.out (by rw [HWL.out]; exact hz0) (by omega) (by omega)
          rw [HTL5.out] at e1 e2
          rw [hen, HWL.out] at e1
          have hB8 := hB7.below hb2 hB7.lt
          have hX8 := hX7.below hb2 hX7.lt
          have hb8 := hb7.trans (hb2.mono hb7.size)
          have hrd := HTH.out _ hb2
          have x1 := hX8.cell 1 _ rfl
          have x2 := hX8.cell 2 _ rfl
          have x3 := hX8.cell 3 _ rfl
          have x4 := hX8.cell 4 _ rfl
          have c0 := hB8.cell 0 _ rfl
          have c1 := hB8.cell 1 _ rfl
          have c2 := hB8.cell 2 _ rfl
          have hho := holdsP_any _ _ b (thickL b ⟨n, n⟩) x.load _ (HR.out _ hA8) hrd (HC.out _ hA8)
          have HM5 : Hid (bm = mayU (thickL b ⟨n, n⟩) b.rings.length) := Lib.hid e2
          clear e2 hen hbm hA7 hB7 hX7 hD7 hb7 hA8 hD8 hB8 hX8 hrd
          by_cases hwn : wl ≤ n
          · have hdn := decide_eq_true hwn
            obtain rfl : be = true := by rw [e1, hdn]
            clear e1
            go_wp2_with fail
            refine hho.mono ?_
            rintro e w9 ⟨hh, br, rfl, hq1, -, hbb⟩
            have hbN := hb8.trans (hbb.mono hb8.size)
            clear hho hb8 hbb c0 c1 c2 x1 x2 x3 x4
            cases hbm : bm with
            | true =>
              have hm5 : mayU (thickL b ⟨n, n⟩) b.rings.length = true := by rw [← HM5.out, hbm]
              have hwo := wei_ok HW0.out (by omega) hm5
              obtain rfl : hh = true := (hq1 hwo).1.2 (wei_holds HW0.out (by rw [HWL.out]; exact hz0) (by omega) (by omega) hm5 (by rw [HWL.out]; exact hwn))
              rw [hwo]
              subst hbm
              clear hq1 hm5 hwo
              go_wp2
              go_roundw
              case rel => exact ⟨k + 1, by omega, by go_num, hbN⟩
              case measure => simp [intOf]; omega
            | false =>
              subst hbm
              clear hq1
              go_wp2
              go_roundw
              case rel => exact ⟨k + 1, by omega, by go_num, hbN⟩
              case measure => simp [intOf]; omega
          · have hdn := decide_eq_false hwn
            obtain rfl : be = false := by rw [e1, hdn]
            clear e1
            go_wp2_with fail
            refine hho.mono ?_
            rintro e w9 ⟨hh, br, rfl, hq1, -, hbb⟩
            have hbN := hb8.trans (hbb.mono hb8.size)
            clear hho hb8 hbb c0 c1 c2 x1 x2 x3 x4
            cases hbm : bm with
            | true =>
              have hm5 : mayU (thickL b ⟨n, n⟩) b.rings.length = true := by rw [← HM5.out, hbm]
              have hwo := wei_ok HW0.out (by omega) hm5
              rw [hwo]
              subst hbm
              clear hq1 hm5 hwo
              go_wp2
              go_roundw
              case rel => exact ⟨k + 1, by omega, by go_num, hbN⟩
              case measure => simp [intOf]; omega
            | false =>
              subst hbm
              clear hq1
              go_wp2
              go_roundw
              case rel => exact ⟨k + 1, by omega, by go_num, hbN⟩
              case measure => simp [intOf]; omega
    · obtain rfl : k = 3 := by omega
      clear hb hA5 hB5 hX5 hD5 hP5
      go_wp2_with fail
      refine (lives5_any _ (HC.out _ hAr)).mono ?_
      rintro e wl ⟨rfl, hbl⟩
      have hAl := hAr.trans (hbl.mono hAr.size)
      clear hbl hAr
      go_wp2
      go_ret
      exact ⟨rfl, hAl⟩
end Go.Proofs.YtokgnbagegcnpaaDoor
