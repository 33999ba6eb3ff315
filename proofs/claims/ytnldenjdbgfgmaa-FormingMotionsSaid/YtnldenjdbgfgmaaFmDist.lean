/- How far two stretches are apart; no statement is proved here. -/
import Derived.Test.YtnldenjdbgfgmaaFmAre
import Derived.Test.YtnldenjdbgfgmaaFmLeg
import Derived.Test.YtnldenjdbgfgmaaTill
import Derived.Deep.DeepCutAuto
namespace Go.Proofs.Ytnldenjdbgfgmaa
open Go.RowKit Go.PlainAid
set_option linter.unusedVariables false
set_option linter.unusedSimpArgs false

/-- how far the second stretch, later by t, begins behind the first one's end; and the other way round. -/
def aheadN (x y : St) (t : Int) : Int := (y.a.n + t * y.a.d) * x.b.d + -x.b.n * y.a.d
def behindN (x y : St) (t : Int) : Int := x.a.n * y.b.d + -(y.b.n + t * y.b.d) * x.a.d
def distQ (x y : St) (t : Int) : Rt :=
  if 0 < aheadN x y t then ⟨aheadN x y t, y.a.d * x.b.d⟩ else if behindN x y t < 0 then ⟨0, 1⟩ else ⟨behindN x y t, x.a.d * y.b.d⟩
/-- sizes that stretches of a cycle have. -/
def RtS (r : Rt) : Prop := (0 ≤ r.n ∧ r.n ≤ 3600000000) ∧ (1 ≤ r.d ∧ r.d ≤ 1000000)
def StS (s : St) : Prop := RtS s.a ∧ RtS s.b
theorem StOk.sized {c : Int} {s : St} (h : StOk c s) (hc : 1 ≤ c ∧ c ≤ 3600) : StS s := by
  obtain ⟨⟨⟨a1, a2, -⟩, a3, a4⟩, ⟨⟨b1, b2, -⟩, b3, b4⟩, -⟩ := h
  have c1 := cyc_bd hc ⟨a1, a2⟩
  have c2 := cyc_bd hc ⟨b1, b2⟩
  exact ⟨⟨⟨a3, by omega⟩, a1, a2⟩, ⟨b3, by omega⟩, b1, b2⟩
theorem sz_plus {r : Rt} (h : RtS r) {t : Int} (ht : -20000 ≤ t ∧ t ≤ 20000) : (-20000000000 ≤ t * r.d ∧ t * r.d ≤ 20000000000) ∧ (-20000000000 ≤ r.n + t * r.d ∧ r.n + t * r.d ≤ 24000000000) := by
  have h1 := h.1; have h2 := h.2
  have m := bd_mul (a := t) (b := r.d) (A := 20000) (B := 1000000) (by omega) (by omega) (by omega)
  omega
theorem sz_minus {p q a b : Int} (hp : -24000000000 ≤ p ∧ p ≤ 24000000000) (hq : 1 ≤ q ∧ q ≤ 1000000) (ha : -24000000000 ≤ a ∧ a ≤ 24000000000) (hb : 1 ≤ b ∧ b ≤ 1000000) :
    (-24000000000000000 ≤ p * b ∧ p * b ≤ 24000000000000000) ∧ (-24000000000000000 ≤ -a * q ∧ -a * q ≤ 24000000000000000) ∧ (1 ≤ q * b ∧ q * b ≤ 1000000000000) := by
  have m1 := bd_mul (a := p) (b := b) (A := 24000000000) (B := 1000000) (by omega) (by omega) (by omega)
  have m2 := bd_mul (a := -a) (b := q) (A := 24000000000) (B := 1000000) (by omega) (by omega) (by omega)
  have m3 := bd_mul (a := q) (b := b) (A := 1000000) (B := 1000000) (by omega) (by omega) (by omega)
  have m4 := Int.mul_pos (show 0 < q by omega) (show 0 < b by omega)
  omega

set_option maxHeartbeats 8000000 in
set_option maxRecDepth 100000 in
theorem distance_any (x y : St) (t : Int) (w : World) (hx : StS x) (hy : StS y) (ht : -20000 ≤ t ∧ t ≤ 20000) :
    Calls Try.prog 55 #[.agg #[.int .i64 x.a.n, .int .i64 x.a.d, .int .i64 x.b.n, .int .i64 x.b.d], .agg #[.int .i64 y.a.n, .int .i64 y.a.d, .int .i64 y.b.n, .int .i64 y.b.d], .int .i64 t] w fun e w' => e = .returned (rtV (distQ x y t)) ∧ Below w.heap.size w w' := by
  have hA3 : Below w.heap.size w (((w.alloc (.cells #[.int .i64 x.a.n, .int .i64 x.a.d, .int .i64 x.b.n, .int .i64 x.b.d] 41)).alloc (.cells #[.int .i64 y.a.n, .int .i64 y.a.d, .int .i64 y.b.n, .int .i64 y.b.d] 41)).alloc (.cells #[.int .i64 0, .int .i64 0] 67)) := ((below_box w _).alloc (by simp) _).alloc (by simp only [World.size_alloc]; omega) _
  have hX3 := ((Blk.new w #[.int .i64 x.a.n, .int .i64 x.a.d, .int .i64 x.b.n, .int .i64 x.b.d] 41).alloc (.cells #[.int .i64 y.a.n, .int .i64 y.a.d, .int .i64 y.b.n, .int .i64 y.b.d] 41)).alloc (.cells #[.int .i64 0, .int .i64 0] 67)
  have hY3 := (Blk.new (w.alloc (.cells #[.int .i64 x.a.n, .int .i64 x.a.d, .int .i64 x.b.n, .int .i64 x.b.d] 41)) #[.int .i64 y.a.n, .int .i64 y.a.d, .int .i64 y.b.n, .int .i64 y.b.d] 41).alloc (.cells #[.int .i64 0, .int .i64 0] 67)
  have hR3 := Blk.new ((w.alloc (.cells #[.int .i64 x.a.n, .int .i64 x.a.d, .int .i64 x.b.n, .int .i64 x.b.d] 41)).alloc (.cells #[.int .i64 y.a.n, .int .i64 y.a.d, .int .i64 y.b.n, .int .i64 y.b.d] 41)) #[.int .i64 0, .int .i64 0] 67
  have hz3 : (((w.alloc (.cells #[.int .i64 x.a.n, .int .i64 x.a.d, .int .i64 x.b.n, .int .i64 x.b.d] 41)).alloc (.cells #[.int .i64 y.a.n, .int .i64 y.a.d, .int .i64 y.b.n, .int .i64 y.b.d] 41)).alloc (.cells #[.int .i64 0, .int .i64 0] 67)).heap.size = w.heap.size + 3 := by simp
  replace hz3 := And.intro (Nat.le_of_eq hz3) (Nat.le_of_eq hz3.symm)
  simp only [World.size_alloc] at hY3 hR3
  have hxa := hx.1; have hxb := hx.2; have hya := hy.1; have hyb := hy.2
  have s1 := sz_plus hya ht
  have s2 := sz_plus hyb ht
  have n1 := hxa.1; have n2 := hxa.2; have n3 := hxb.1; have n4 := hxb.2; have n5 := hya.1; have n6 := hya.2; have n7 := hyb.1; have n8 := hyb.2
  have s3 := sz_minus (p := y.a.n + t * y.a.d) (q := y.a.d) (a := x.b.n) (b := x.b.d) (by omega) (by omega) (by omega) (by omega)
  have s4 := sz_minus (p := x.a.n) (q := x.a.d) (a := y.b.n + t * y.b.d) (b := y.b.d) (by omega) (by omega) (by omega) (by omega)
  have HC1 := fun Z => whole_any t Z
  have HC2 := fun Z => plus_any y.a.n y.a.d t 1 (y.a.n + t * y.a.d) y.a.d Z (by rw [Int.mul_one]; unfold I64; omega) (by unfold I64; omega) (by rw [Int.mul_one]; unfold I64; omega) (by rw [Int.mul_one]; unfold I64; omega) (by rw [Int.mul_one]) (by rw [Int.mul_one])
  have HC4 := fun Z => plus_any y.b.n y.b.d t 1 (y.b.n + t * y.b.d) y.b.d Z (by rw [Int.mul_one]; unfold I64; omega) (by unfold I64; omega) (by rw [Int.mul_one]; unfold I64; omega) (by rw [Int.mul_one]; unfold I64; omega) (by rw [Int.mul_one]) (by rw [Int.mul_one])
  obtain ⟨U, hU⟩ : ∃ U, aheadN x y t = U := ⟨_, rfl⟩
  obtain ⟨V, hV⟩ : ∃ V, y.a.d * x.b.d = V := ⟨_, rfl⟩
  obtain ⟨U2, hU2⟩ : ∃ U, behindN x y t = U := ⟨_, rfl⟩
  obtain ⟨V2, hV2⟩ : ∃ V, x.a.d * y.b.d = V := ⟨_, rfl⟩
  have HC3 := fun Z => minus_any (y.a.n + t * y.a.d) y.a.d x.b.n x.b.d U V Z (by unfold I64; omega) (by unfold I64; omega) (by unfold I64; omega) (by unfold I64; omega) (by unfold I64; omega) hU hV
  have HC5 := fun Z => minus_any x.a.n x.a.d (y.b.n + t * y.b.d) y.b.d U2 V2 Z (by unfold I64; omega) (by unfold I64; omega) (by unfold I64; omega) (by unfold I64; omega) (by unfold I64; omega) hU2 hV2
  have HC6 := fun Z => orZero_any U2 V2 Z
  have hdist : distQ x y t = if 0 < U then ⟨U, V⟩ else if U2 < 0 then ⟨0, 1⟩ else ⟨U2, V2⟩ := by unfold distQ; rw [hU, hV, hU2, hV2]
  clear s1 s2 s3 s4 n1 n2 n3 n4 n5 n6 n7 n8 hxa hxb hya hyb hU hV hU2 hV2 hx hy ht
  obtain ⟨R, hR⟩ : ∃ R, distQ x y t = R := ⟨_, rfl⟩
  rw [hR] at hdist ⊢
  have HR := Lib.hid hdist
  clear hR hdist
  have x0 := hX3.cell 0 _ rfl
  have x1 := hX3.cell 1 _ rfl
  have x2 := hX3.cell 2 _ rfl
  have x3 := hX3.cell 3 _ rfl
  have y0 := hY3.cell 0 _ rfl
  have y1 := hY3.cell 1 _ rfl
  have y2 := hY3.cell 2 _ rfl
  have y3 := hY3.cell 3 _ rfl
  go_enter Try.func55, Try.ntmps55
  go_upto_region 1 with fail
  generalize (((w.alloc (.cells #[.int .i64 x.a.n, .int .i64 x.a.d, .int .i64 x.b.n, .int .i64 x.b.d] 41)).alloc (.cells #[.int .i64 y.a.n, .int .i64 y.a.d, .int .i64 y.b.n, .int .i64 y.b.d] 41)).alloc (.cells #[.int .i64 0, .int .i64 0] 67)) = w3 at *
  go_cut [7] (fun sv wx => ∃ p, sv = .pointer (some ⟨p, 0, none⟩) ∧ w.heap.size + 3 ≤ p ∧ Blk wx p #[.int .i64 U, .int .i64 V] 67 ∧ Below w3.heap.size w3 wx)
  case first =>
    have D0 : Below w3.heap.size w3 w3.drew := (Below.refl _ _).drew
    have HSV : Hid (∀ V, Below w3.heap.size w3 V → (fun w' : World => w'.cell? ⟨w.heap.size, 0, none⟩ = some (.int .i64 x.a.n) ∧ w'.cell? ⟨w.heap.size, 1, none⟩ = some (.int .i64 x.a.d) ∧ w'.cell? ⟨w.heap.size, 2, none⟩ = some (.int .i64 x.b.n) ∧ w'.cell? ⟨w.heap.size, 3, none⟩ = some (.int .i64 x.b.d) ∧ w'.cell? ⟨w.heap.size + 1, 0, none⟩ = some (.int .i64 y.a.n) ∧ w'.cell? ⟨w.heap.size + 1, 1, none⟩ = some (.int .i64 y.a.d) ∧ w'.cell? ⟨w.heap.size + 1, 2, none⟩ = some (.int .i64 y.b.n) ∧ w'.cell? ⟨w.heap.size + 1, 3, none⟩ = some (.int .i64 y.b.d)) V) := Lib.hid (fun V hV => ⟨ext_of_below hV _ _ x0, ext_of_below hV _ _ x1, ext_of_below hV _ _ x2, ext_of_below hV _ _ x3, ext_of_below hV _ _ y0, ext_of_below hV _ _ y1, ext_of_below hV _ _ y2, ext_of_below hV _ _ y3⟩)
    clear x0 x1 x2 x3 y0 y1 y2 y3 hX3 hY3 hR3 hA3
    go_wp2_with fail
    refine wp_region_till (fun w' : World => w'.cell? ⟨w.heap.size, 0, none⟩ = some (.int .i64 x.a.n) ∧ w'.cell? ⟨w.heap.size, 1, none⟩ = some (.int .i64 x.a.d) ∧ w'.cell? ⟨w.heap.size, 2, none⟩ = some (.int .i64 x.b.n) ∧ w'.cell? ⟨w.heap.size, 3, none⟩ = some (.int .i64 x.b.d) ∧ w'.cell? ⟨w.heap.size + 1, 0, none⟩ = some (.int .i64 y.a.n) ∧ w'.cell? ⟨w.heap.size + 1, 1, none⟩ = some (.int .i64 y.a.d) ∧ w'.cell? ⟨w.heap.size + 1, 2, none⟩ = some (.int .i64 y.b.n) ∧ w'.cell? ⟨w.heap.size + 1, 3, none⟩ = some (.int .i64 y.b.d)) 9 (by kernel_rfl) (HSV.out _ D0) (fun hHeld => ?_)
    generalize w3.drew = wd at *
    refine Till.take 0 (some 8) (v := ?_) rfl rfl (by kernel_rfl) (by kernel_rfl) (by kernel_rfl) (by kernel_rfl) (fun _ _ _ h => h) (Or.inl ⟨by rfl, ?_⟩) (by assumption) ?_
    rotate_left
    · (intro w hSw; (try dsimp only at hSw); go_simp; try with_reducible rfl)
    try simp only [Act.put, List.setIfInBounds_toArray, List.set_cons_zero, List.set_cons_succ]
    refine Till.take 1 (some 9) (v := ?_) rfl rfl (by kernel_rfl) (by kernel_rfl) (by kernel_rfl) (by kernel_rfl) (fun _ _ _ h => h) (Or.inl ⟨by rfl, ?_⟩) (by assumption) ?_
    rotate_left
    · (intro w hSw; (try dsimp only at hSw); go_simp; try with_reducible rfl)
    try simp only [Act.put, List.setIfInBounds_toArray, List.set_cons_zero, List.set_cons_succ]
    refine Till.take 2 (some 10) (v := ?_) rfl rfl (by kernel_rfl) (by kernel_rfl) (by kernel_rfl) (by kernel_rfl) (fun _ _ _ h => h) (Or.inl ⟨by rfl, ?_⟩) (by assumption) ?_
    rotate_left
    · (intro w hSw; (try dsimp only at hSw); go_simp; try with_reducible rfl)
    try simp only [Act.put, List.setIfInBounds_toArray, List.set_cons_zero, List.set_cons_succ]
    refine Till.take 5 (some 13) (v := ?_) rfl rfl (by kernel_rfl) (by kernel_rfl) (by kernel_rfl) (by kernel_rfl) (fun _ _ _ h => h) (Or.inl ⟨by rfl, ?_⟩) (by assumption) ?_
    rotate_left
    · (intro w hSw; (try dsimp only at hSw); go_simp; try with_reducible rfl)
    try simp only [Act.put, List.setIfInBounds_toArray, List.set_cons_zero, List.set_cons_succ]
    refine Till.take 6 (some 14) (v := ?_) rfl rfl (by kernel_rfl) (by kernel_rfl) (by kernel_rfl) (by kernel_rfl) (fun _ _ _ h => h) (Or.inl ⟨by rfl, ?_⟩) (by assumption) ?_
    rotate_left
    · (intro w hSw; (try dsimp only at hSw); go_simp; try with_reducible rfl)
    try simp only [Act.put, List.setIfInBounds_toArray, List.set_cons_zero, List.set_cons_succ]
    refine Till.two 3 8 rfl rfl (by kernel_rfl) (fun K hK => ?_) (fun K hK => ?_)
    · go_simp
      go_at_call 35
      refine (HC1 _).mono ?_
      rintro e v2 ⟨rfl, hb⟩
      have E2 := D0.trans (hb.mono D0.size)
      have hh := HSV.out _ E2
      refine hK.out _ _ (fun _ => hh) (fun hHeld2 => ?_)
      clear hK K hb hh
      try simp only [Act.put, List.setIfInBounds_toArray, List.set_cons_zero, List.set_cons_succ]
      refine Till.two 4 8 rfl rfl (by kernel_rfl) (fun K hK => ?_) (fun K hK => ?_)
      · go_simp
        go_at_call 65
        refine (HC2 _).mono ?_
        rintro e v4 ⟨rfl, hb⟩
        have E4 := E2.trans (hb.mono E2.size)
        have hh := HSV.out _ E4
        refine hK.out _ _ (fun _ => hh) (fun hHeld4 => ?_)
        clear hK K hb hh
        try simp only [Act.put, List.setIfInBounds_toArray, List.set_cons_zero, List.set_cons_succ]
        refine Till.two 7 8 rfl rfl (by kernel_rfl) (fun K hK => ?_) (fun K hK => ?_)
        · go_simp
          go_at_call 66
          refine (HC3 _).mono ?_
          rintro e v6 ⟨rfl, hb⟩
          have E6 := E4.trans (hb.mono E4.size)
          have hh := HSV.out _ E6
          refine hK.out _ _ (fun _ => hh) (fun hHeld6 => ?_)
          clear hK K hb hh
          try simp only [Act.put, List.setIfInBounds_toArray, List.set_cons_zero, List.set_cons_succ]
          refine Till.one 8 rfl (by kernel_rfl) (fun K hK => ?_)
          go_simp
          have E8 := E6.alloc E6.size (.cells #[.int .i64 0, .int .i64 0] 67)
          have A8 := Blk.new v6 #[.int .i64 0, .int .i64 0] 67
          have P8 := E6.size
          have hh := HSV.out _ E8
          refine hK.out _ _ (fun _ => hh) (fun hHeld8 => ?_)
          clear hK K hh
          try simp only [Act.put, List.setIfInBounds_toArray, List.set_cons_zero, List.set_cons_succ]
          generalize hp8 : v6.heap.size = p at *
          generalize (v6.alloc (.cells #[.int .i64 0, .int .i64 0] 67)) = v8 at *
          have g0 := A8.cell 0 _ rfl
          have g1 := A8.cell 1 _ rfl
          have g2 := A8.frozen 0
          have g3 := A8.frozen 1
          have hR : Hid (Blk ((v8.setCell ⟨p, 0, none⟩ (.int .i64 U)).setCell ⟨p, 1, none⟩ (.int .i64 V)) p #[.int .i64 U, .int .i64 V] 67) := Lib.hid (by simpa using (A8.set 0 (.int .i64 U)).set 1 (.int .i64 V))
          have hD : Hid (Below w3.heap.size w3 ((v8.setCell ⟨p, 0, none⟩ (.int .i64 U)).setCell ⟨p, 1, none⟩ (.int .i64 V))) := Lib.hid ((E8.setCell (by simp only; omega) _).setCell (by simp only; omega) _)
          refine Till.one 9 rfl (by kernel_rfl) (fun K hK => ?_)
          go_simp
          refine hK.out _ _ (fun h => absurd rfl h) (fun _ => ?_)
          clear hK K g0 g1 g2 g3
          refine Till.done (by kernel_rfl) ?_ _
          go_wp2_with fail
          go_meet
          exact ⟨p, rfl, by omega, hR.out, hD.out⟩
        · go_simp
          have E10 := E4.alloc E4.size (.cells #[.int .i64 0, .int .i64 0] 67)
          have A10 := Blk.new v4 #[.int .i64 0, .int .i64 0] 67
          have P10 := E4.size
          have hh := HSV.out _ E10
          refine hK.out _ _ (fun _ => hh) (fun hHeld10 => ?_)
          clear hK K hh
          try simp only [Act.put, List.setIfInBounds_toArray, List.set_cons_zero, List.set_cons_succ]
          generalize hp10 : v4.heap.size = p at *
          generalize (v4.alloc (.cells #[.int .i64 0, .int .i64 0] 67)) = v10 at *
          refine Till.one 7 rfl (by kernel_rfl) (fun K hK => ?_)
          go_simp
          go_at_call 66
          refine (HC3 _).mono ?_
          rintro e v12 ⟨rfl, hb⟩
          have E12 := E10.trans (hb.mono E10.size)
          have A12 := A10.below hb A10.lt
          have hh := HSV.out _ E12
          refine hK.out _ _ (fun _ => hh) (fun hHeld12 => ?_)
          clear hK K hb hh
          try simp only [Act.put, List.setIfInBounds_toArray, List.set_cons_zero, List.set_cons_succ]
          have g0 := A12.cell 0 _ rfl
          have g1 := A12.cell 1 _ rfl
          have g2 := A12.frozen 0
          have g3 := A12.frozen 1
          have hR : Hid (Blk ((v12.setCell ⟨p, 0, none⟩ (.int .i64 U)).setCell ⟨p, 1, none⟩ (.int .i64 V)) p #[.int .i64 U, .int .i64 V] 67) := Lib.hid (by simpa using (A12.set 0 (.int .i64 U)).set 1 (.int .i64 V))
          have hD : Hid (Below w3.heap.size w3 ((v12.setCell ⟨p, 0, none⟩ (.int .i64 U)).setCell ⟨p, 1, none⟩ (.int .i64 V))) := Lib.hid ((E12.setCell (by simp only; omega) _).setCell (by simp only; omega) _)
          refine Till.one 9 rfl (by kernel_rfl) (fun K hK => ?_)
          go_simp
          refine hK.out _ _ (fun h => absurd rfl h) (fun _ => ?_)
          clear hK K g0 g1 g2 g3
          refine Till.done (by kernel_rfl) ?_ _
          go_wp2_with fail
          go_meet
          exact ⟨p, rfl, by omega, hR.out, hD.out⟩
      · go_simp
        have E14 := E2.alloc E2.size (.cells #[.int .i64 0, .int .i64 0] 67)
        have A14 := Blk.new v2 #[.int .i64 0, .int .i64 0] 67
        have P14 := E2.size
        have hh := HSV.out _ E14
        refine hK.out _ _ (fun _ => hh) (fun hHeld14 => ?_)
        clear hK K hh
        try simp only [Act.put, List.setIfInBounds_toArray, List.set_cons_zero, List.set_cons_succ]
        generalize hp14 : v2.heap.size = p at *
        generalize (v2.alloc (.cells #[.int .i64 0, .int .i64 0] 67)) = v14 at *
        refine Till.one 4 rfl (by kernel_rfl) (fun K hK => ?_)
        go_simp
        go_at_call 65
        refine (HC2 _).mono ?_
        rintro e v16 ⟨rfl, hb⟩
        have E16 := E14.trans (hb.mono E14.size)
        have A16 := A14.below hb A14.lt
        have hh := HSV.out _ E16
        refine hK.out _ _ (fun _ => hh) (fun hHeld16 => ?_)
        clear hK K hb hh
        try simp only [Act.put, List.setIfInBounds_toArray, List.set_cons_zero, List.set_cons_succ]
        refine Till.one 7 rfl (by kernel_rfl) (fun K hK => ?_)
        go_simp
        go_at_call 66
        refine (HC3 _).mono ?_
        rintro e v18 ⟨rfl, hb⟩
        have E18 := E16.trans (hb.mono E16.size)
        have A18 := A16.below hb A16.lt
        have hh := HSV.out _ E18
        refine hK.out _ _ (fun _ => hh) (fun hHeld18 => ?_)
        clear hK K hb hh
        try simp only [Act.put, List.setIfInBounds_toArray, List.set_cons_zero, List.set_cons_succ]
        have g0 := A18.cell 0 _ rfl
        have g1 := A18.cell 1 _ rfl
        have g2 := A18.frozen 0
        have g3 := A18.frozen 1
        have hR : Hid (Blk ((v18.setCell ⟨p, 0, none⟩ (.int .i64 U)).setCell ⟨p, 1, none⟩ (.int .i64 V)) p #[.int .i64 U, .int .i64 V] 67) := Lib.hid (by simpa using (A18.set 0 (.int .i64 U)).set 1 (.int .i64 V))
        have hD : Hid (Below w3.heap.size w3 ((v18.setCell ⟨p, 0, none⟩ (.int .i64 U)).setCell ⟨p, 1, none⟩ (.int .i64 V))) := Lib.hid ((E18.setCell (by simp only; omega) _).setCell (by simp only; omega) _)
        refine Till.one 9 rfl (by kernel_rfl) (fun K hK => ?_)
        go_simp
        refine hK.out _ _ (fun h => absurd rfl h) (fun _ => ?_)
        clear hK K g0 g1 g2 g3
        refine Till.done (by kernel_rfl) ?_ _
        go_wp2_with fail
        go_meet
        exact ⟨p, rfl, by omega, hR.out, hD.out⟩
    · go_simp
      have E20 := D0.alloc D0.size (.cells #[.int .i64 0, .int .i64 0] 67)
      have A20 := Blk.new wd #[.int .i64 0, .int .i64 0] 67
      have P20 := D0.size
      have hh := HSV.out _ E20
      refine hK.out _ _ (fun _ => hh) (fun hHeld20 => ?_)
      clear hK K hh
      try simp only [Act.put, List.setIfInBounds_toArray, List.set_cons_zero, List.set_cons_succ]
      generalize hp20 : wd.heap.size = p at *
      generalize (wd.alloc (.cells #[.int .i64 0, .int .i64 0] 67)) = v20 at *
      refine Till.one 3 rfl (by kernel_rfl) (fun K hK => ?_)
      go_simp
      go_at_call 35
      refine (HC1 _).mono ?_
      rintro e v22 ⟨rfl, hb⟩
      have E22 := E20.trans (hb.mono E20.size)
      have A22 := A20.below hb A20.lt
      have hh := HSV.out _ E22
      refine hK.out _ _ (fun _ => hh) (fun hHeld22 => ?_)
      clear hK K hb hh
      try simp only [Act.put, List.setIfInBounds_toArray, List.set_cons_zero, List.set_cons_succ]
      refine Till.one 4 rfl (by kernel_rfl) (fun K hK => ?_)
      go_simp
      go_at_call 65
      refine (HC2 _).mono ?_
      rintro e v24 ⟨rfl, hb⟩
      have E24 := E22.trans (hb.mono E22.size)
      have A24 := A22.below hb A22.lt
      have hh := HSV.out _ E24
      refine hK.out _ _ (fun _ => hh) (fun hHeld24 => ?_)
      clear hK K hb hh
      try simp only [Act.put, List.setIfInBounds_toArray, List.set_cons_zero, List.set_cons_succ]
      refine Till.one 7 rfl (by kernel_rfl) (fun K hK => ?_)
      go_simp
      go_at_call 66
      refine (HC3 _).mono ?_
      rintro e v26 ⟨rfl, hb⟩
      have E26 := E24.trans (hb.mono E24.size)
      have A26 := A24.below hb A24.lt
      have hh := HSV.out _ E26
      refine hK.out _ _ (fun _ => hh) (fun hHeld26 => ?_)
      clear hK K hb hh
      try simp only [Act.put, List.setIfInBounds_toArray, List.set_cons_zero, List.set_cons_succ]
      have g0 := A26.cell 0 _ rfl
      have g1 := A26.cell 1 _ rfl
      have g2 := A26.frozen 0
      have g3 := A26.frozen 1
      have hR : Hid (Blk ((v26.setCell ⟨p, 0, none⟩ (.int .i64 U)).setCell ⟨p, 1, none⟩ (.int .i64 V)) p #[.int .i64 U, .int .i64 V] 67) := Lib.hid (by simpa using (A26.set 0 (.int .i64 U)).set 1 (.int .i64 V))
      have hD : Hid (Below w3.heap.size w3 ((v26.setCell ⟨p, 0, none⟩ (.int .i64 U)).setCell ⟨p, 1, none⟩ (.int .i64 V))) := Lib.hid ((E26.setCell (by simp only; omega) _).setCell (by simp only; omega) _)
      refine Till.one 9 rfl (by kernel_rfl) (fun K hK => ?_)
      go_simp
      refine hK.out _ _ (fun h => absurd rfl h) (fun _ => ?_)
      clear hK K g0 g1 g2 g3
      refine Till.done (by kernel_rfl) ?_ _
      go_wp2_with fail
      go_meet
      exact ⟨p, rfl, by omega, hR.out, hD.out⟩
  case rest =>
  obtain ⟨p, rfl, hp, hB, hD⟩ := hcut
  have hA4 := hA3.trans (hD.mono hA3.size)
  have hX4 := hX3.below hD hX3.lt
  have hY4 := hY3.below hD hY3.lt
  have hR4 := hR3.below hD hR3.lt
  clear x0 x1 x2 x3 y0 y1 y2 y3 hX3 hY3 hR3 hA3 hD HC2 HC3
  have b0 := hB.cell 0 _ rfl
  have b1 := hB.cell 1 _ rfl
  have r0 := hR4.cell 0 _ rfl
  have r1 := hR4.cell 1 _ rfl
  have f0 := hR4.frozen 0
  have f1 := hR4.frozen 1
  by_cases hu : 0 < U
  · have hRR : R = ⟨U, V⟩ := by rw [HR.out, if_pos hu]
    have HE : Hid (Below w.heap.size w ((wc.setCell ⟨w.heap.size + 1 + 1, 0, none⟩ (.int .i64 U)).setCell ⟨w.heap.size + 1 + 1, 1, none⟩ (.int .i64 V))) := Lib.hid ((hA4.setCell (by simp only; omega) _).setCell (by simp only; omega) _)
    have HRR : Hid (Blk ((wc.setCell ⟨w.heap.size + 1 + 1, 0, none⟩ (.int .i64 U)).setCell ⟨w.heap.size + 1 + 1, 1, none⟩ (.int .i64 V)) (w.heap.size + 1 + 1) #[.int .i64 U, .int .i64 V] 67) := Lib.hid (by simpa using (hR4.set 0 (.int .i64 U)).set 1 (.int .i64 V))
    have C0 := Lib.hid (HRR.out.cell 0 _ rfl)
    have C1 := Lib.hid (HRR.out.cell 1 _ rfl)
    clear hX4 hY4 hR4 hA4 hB HRR HR HC1 HC4 HC5 HC6
    go_wp2
    have c0 := C0.out
    have c1 := C1.out
    have hE := HE.out
    clear C0 C1 HE r0 r1 f0 f1 b0 b1
    generalize ((wc.setCell ⟨w.heap.size + 1 + 1, 0, none⟩ (.int .i64 U)).setCell ⟨w.heap.size + 1 + 1, 1, none⟩ (.int .i64 V)) = WE at c0 c1 hE ⊢
    subst hRR
    refine ⟨rfl, .agg #[.int .i64 U, .int .i64 V], ?_, rfl, hE⟩
    simp [results, Try.results55, go_sem, c0, c1]
  · have hRR : R = if U2 < 0 then ⟨0, 1⟩ else ⟨U2, V2⟩ := by rw [HR.out, if_neg hu]
    have x0 := hX4.cell 0 _ rfl
    have x1 := hX4.cell 1 _ rfl
    have y2 := hY4.cell 2 _ rfl
    have y3 := hY4.cell 3 _ rfl
    have HRv : rtV R = .agg (if U2 < 0 then #[.int .i64 0, .int .i64 1] else #[.int .i64 U2, .int .i64 V2]) := by
      subst hRR; split <;> rfl
    clear HR hRR
    have D0 : Below wc.heap.size wc wc.drew := (Below.refl _ _).drew
    have HSV : Hid (∀ V, Below wc.heap.size wc V → (fun w' : World => w'.cell? ⟨w.heap.size, 0, none⟩ = some (.int .i64 x.a.n) ∧ w'.cell? ⟨w.heap.size, 1, none⟩ = some (.int .i64 x.a.d) ∧ w'.cell? ⟨w.heap.size + 1, 2, none⟩ = some (.int .i64 y.b.n) ∧ w'.cell? ⟨w.heap.size + 1, 3, none⟩ = some (.int .i64 y.b.d)) V) := Lib.hid (fun V hV => ⟨ext_of_below hV _ _ x0, ext_of_below hV _ _ x1, ext_of_below hV _ _ y2, ext_of_below hV _ _ y3⟩)
    have HRB := Lib.hid hR4
    have HAB := Lib.hid hA4
    clear hX4 hY4 hR4 hA4 hB x0 x1 y2 y3 r0 r1 f0 f1
    go_wp2_with fail
    clear b0 b1
    refine wp_region_till (fun w' : World => w'.cell? ⟨w.heap.size, 0, none⟩ = some (.int .i64 x.a.n) ∧ w'.cell? ⟨w.heap.size, 1, none⟩ = some (.int .i64 x.a.d) ∧ w'.cell? ⟨w.heap.size + 1, 2, none⟩ = some (.int .i64 y.b.n) ∧ w'.cell? ⟨w.heap.size + 1, 3, none⟩ = some (.int .i64 y.b.d)) 9 (by kernel_rfl) (HSV.out _ D0) (fun hHeld => ?_)
    generalize wc.drew = wd at *
    refine Till.take 0 (some 20) (v := ?_) rfl rfl (by kernel_rfl) (by kernel_rfl) (by kernel_rfl) (by kernel_rfl) (fun _ _ _ h => h) (Or.inl ⟨by rfl, ?_⟩) (by assumption) ?_
    rotate_left
    · (intro w hSw; (try dsimp only at hSw); go_simp; try with_reducible rfl)
    try simp only [Act.put, List.setIfInBounds_toArray, List.set_cons_zero, List.set_cons_succ]
    refine Till.take 1 (some 21) (v := ?_) rfl rfl (by kernel_rfl) (by kernel_rfl) (by kernel_rfl) (by kernel_rfl) (fun _ _ _ h => h) (Or.inl ⟨by rfl, ?_⟩) (by assumption) ?_
    rotate_left
    · (intro w hSw; (try dsimp only at hSw); go_simp; try with_reducible rfl)
    try simp only [Act.put, List.setIfInBounds_toArray, List.set_cons_zero, List.set_cons_succ]
    refine Till.take 2 (some 22) (v := ?_) rfl rfl (by kernel_rfl) (by kernel_rfl) (by kernel_rfl) (by kernel_rfl) (fun _ _ _ h => h) (Or.inl ⟨by rfl, ?_⟩) (by assumption) ?_
    rotate_left
    · (intro w hSw; (try dsimp only at hSw); go_simp; try with_reducible rfl)
    try simp only [Act.put, List.setIfInBounds_toArray, List.set_cons_zero, List.set_cons_succ]
    refine Till.take 3 (some 23) (v := ?_) rfl rfl (by kernel_rfl) (by kernel_rfl) (by kernel_rfl) (by kernel_rfl) (fun _ _ _ h => h) (Or.inl ⟨by rfl, ?_⟩) (by assumption) ?_
    rotate_left
    · (intro w hSw; (try dsimp only at hSw); go_simp; try with_reducible rfl)
    try simp only [Act.put, List.setIfInBounds_toArray, List.set_cons_zero, List.set_cons_succ]
    refine Till.take 4 (some 24) (v := ?_) rfl rfl (by kernel_rfl) (by kernel_rfl) (by kernel_rfl) (by kernel_rfl) (fun _ _ _ h => h) (Or.inl ⟨by rfl, ?_⟩) (by assumption) ?_
    rotate_left
    · (intro w hSw; (try dsimp only at hSw); go_simp; try with_reducible rfl)
    try simp only [Act.put, List.setIfInBounds_toArray, List.set_cons_zero, List.set_cons_succ]
    refine Till.one 5 rfl (by kernel_rfl) (fun K hK => ?_)
    go_simp
    go_at_call 35
    refine (HC1 _).mono ?_
    rintro e v0 ⟨rfl, hb0⟩
    have D1 := D0.trans (hb0.mono D0.size)
    have hh0 := HSV.out _ D1
    refine hK.out _ _ (fun _ => hh0) (fun hHeld0 => ?_)
    clear hK K hb0
    try simp only [Act.put, List.setIfInBounds_toArray, List.set_cons_zero, List.set_cons_succ]
    refine Till.one 6 rfl (by kernel_rfl) (fun K hK => ?_)
    go_simp
    go_at_call 65
    refine (HC4 _).mono ?_
    rintro e v1 ⟨rfl, hb1⟩
    have D2 := D1.trans (hb1.mono D1.size)
    have hh1 := HSV.out _ D2
    refine hK.out _ _ (fun _ => hh1) (fun hHeld1 => ?_)
    clear hK K hb1
    try simp only [Act.put, List.setIfInBounds_toArray, List.set_cons_zero, List.set_cons_succ]
    refine Till.one 7 rfl (by kernel_rfl) (fun K hK => ?_)
    go_simp
    go_at_call 66
    refine (HC5 _).mono ?_
    rintro e v2 ⟨rfl, hb2⟩
    have D3 := D2.trans (hb2.mono D2.size)
    have hh2 := HSV.out _ D3
    refine hK.out _ _ (fun _ => hh2) (fun hHeld2 => ?_)
    clear hK K hb2
    try simp only [Act.put, List.setIfInBounds_toArray, List.set_cons_zero, List.set_cons_succ]
    refine Till.one 8 rfl (by kernel_rfl) (fun K hK => ?_)
    go_simp
    go_at_call 67
    refine (HC6 _).mono ?_
    rintro e v3 ⟨rfl, hb3⟩
    have D4 := D3.trans (hb3.mono D3.size)
    have hh3 := HSV.out _ D4
    refine hK.out _ _ (fun _ => hh3) (fun hHeld3 => ?_)
    clear hK K hb3
    try simp only [Act.put, List.setIfInBounds_toArray, List.set_cons_zero, List.set_cons_succ]
    obtain ⟨RN, hRN⟩ : ∃ Z, R.n = Z := ⟨_, rfl⟩
    obtain ⟨RD, hRD⟩ : ∃ Z, R.d = Z := ⟨_, rfl⟩
    have hRV : rtV R = .agg #[.int .i64 RN, .int .i64 RD] := by rw [← hRN, ← hRD]; rfl
    rw [hRV] at HRv
    rw [← HRv]
    replace hRV := Lib.hid hRV
    clear HRv hRN hRD
    have hR := HRB.out.below D4 HRB.out.lt
    have hA := HAB.out.trans (D4.mono HAB.out.size)
    have r0 := hR.cell 0 _ rfl
    have r1 := hR.cell 1 _ rfl
    have f0 := hR.frozen 0
    have f1 := hR.frozen 1
    have HE : Hid (Below w.heap.size w ((v3.setCell ⟨w.heap.size + 1 + 1, 0, none⟩ (.int .i64 RN)).setCell ⟨w.heap.size + 1 + 1, 1, none⟩ (.int .i64 RD))) := Lib.hid ((hA.setCell (by simp only; omega) _).setCell (by simp only; omega) _)
    have HRR : Hid (Blk ((v3.setCell ⟨w.heap.size + 1 + 1, 0, none⟩ (.int .i64 RN)).setCell ⟨w.heap.size + 1 + 1, 1, none⟩ (.int .i64 RD)) (w.heap.size + 1 + 1) #[.int .i64 RN, .int .i64 RD] 67) := Lib.hid (by simpa using (hR.set 0 (.int .i64 RN)).set 1 (.int .i64 RD))
    have C0 := Lib.hid (HRR.out.cell 0 _ rfl)
    have C1 := Lib.hid (HRR.out.cell 1 _ rfl)
    clear HRR HRB HAB hR hA
    refine Till.one 9 rfl (by kernel_rfl) (fun K hK => ?_)
    go_simp
    refine hK.out _ _ (fun h => absurd rfl h) (fun _ => ?_)
    clear hK K
    refine Till.done (by kernel_rfl) ?_ _
    go_wp2
    have c0 := C0.out
    have c1 := C1.out
    have hE := HE.out
    clear C0 C1 HE r0 r1 f0 f1
    generalize ((v3.setCell ⟨w.heap.size + 1 + 1, 0, none⟩ (.int .i64 RN)).setCell ⟨w.heap.size + 1 + 1, 1, none⟩ (.int .i64 RD)) = WE at c0 c1 hE ⊢
    refine ⟨rfl, .agg #[.int .i64 RN, .int .i64 RD], ?_, by rw [hRV.out], hE⟩
    simp [results, Try.results55, go_sem, c0, c1]

end Go.Proofs.Ytnldenjdbgfgmaa
