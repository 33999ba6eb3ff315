/- When a leg is in a span; no statement is proved here. -/
import Derived.Test.YtnldenjdbgfgmaaFmLeg
import Derived.Test.YtnldenjdbgfgmaaTill
import Derived.Deep.DeepCutAuto
namespace Go.Proofs.Ytnldenjdbgfgmaa
open Go.RowKit Go.PlainAid
set_option linter.unusedVariables false
set_option linter.unusedSimpArgs false

def lowF (x y s : Sp) : Int := max s.lo (min x.hi y.hi)
def highF (x y s : Sp) : Int := min s.hi (max x.hi y.hi)
/-- the times of a leg at which it is in a span. -/
def insF (x y s : Sp) : Option St :=
  if highF x y s < lowF x y s then none
  else if x.hi < y.hi then some ⟨timeF x y (lowF x y s), timeF x y (highF x y s)⟩
  else if y.hi < x.hi then some ⟨timeF x y (highF x y s), timeF x y (lowF x y s)⟩
  else some ⟨⟨x.lo, 1⟩, ⟨y.lo, 1⟩⟩
def insV : Option St → Value
  | none => .tuple #[stV ⟨⟨0, 0⟩, ⟨0, 0⟩⟩, .bool false]
  | some r => .tuple #[stV r, .bool true]

theorem end4 {w w3 : World} {k : Nat} {T : TypeId} {z : Array Value} (hA : Below w.heap.size w w3) (hr : Blk w3 k z T) (hk : w.heap.size ≤ k) (hz : z.size = 4 := by rfl) (a b c d : Value) :
    Hid (Below w.heap.size w ((((w3.setCell ⟨k, 0, none⟩ a).setCell ⟨k, 1, none⟩ b).setCell ⟨k, 2, none⟩ c).setCell ⟨k, 3, none⟩ d))
      ∧ Hid (((((w3.setCell ⟨k, 0, none⟩ a).setCell ⟨k, 1, none⟩ b).setCell ⟨k, 2, none⟩ c).setCell ⟨k, 3, none⟩ d).cell? ⟨k, 0, none⟩ = some a)
      ∧ Hid (((((w3.setCell ⟨k, 0, none⟩ a).setCell ⟨k, 1, none⟩ b).setCell ⟨k, 2, none⟩ c).setCell ⟨k, 3, none⟩ d).cell? ⟨k, 1, none⟩ = some b)
      ∧ Hid (((((w3.setCell ⟨k, 0, none⟩ a).setCell ⟨k, 1, none⟩ b).setCell ⟨k, 2, none⟩ c).setCell ⟨k, 3, none⟩ d).cell? ⟨k, 2, none⟩ = some c)
      ∧ Hid (((((w3.setCell ⟨k, 0, none⟩ a).setCell ⟨k, 1, none⟩ b).setCell ⟨k, 2, none⟩ c).setCell ⟨k, 3, none⟩ d).cell? ⟨k, 3, none⟩ = some d) := by
  obtain ⟨l, hl⟩ : ∃ l, z = ⟨l⟩ := ⟨z.toList, rfl⟩
  subst hl
  match l, hz with
  | [z0, z1, z2, z3], _ =>
    have hR : Blk ((((w3.setCell ⟨k, 0, none⟩ a).setCell ⟨k, 1, none⟩ b).setCell ⟨k, 2, none⟩ c).setCell ⟨k, 3, none⟩ d) k #[a, b, c, d] T := by simpa using (((hr.set 0 a).set 1 b).set 2 c).set 3 d
    exact ⟨Lib.hid ((((hA.setCell (by simpa using hk) _).setCell (by simpa using hk) _).setCell (by simpa using hk) _).setCell (by simpa using hk) _), Lib.hid (hR.cell 0 _ rfl), Lib.hid (hR.cell 1 _ rfl), Lib.hid (hR.cell 2 _ rfl), Lib.hid (hR.cell 3 _ rfl)⟩

set_option maxHeartbeats 4000000 in
set_option maxRecDepth 100000 in
theorem inside_any (x y s : Sp) (w : World) (hok : LegOk x y) (hs : I64 s.lo ∧ I64 s.hi) :
    Calls Try.prog 51 #[lgV x y, .agg #[.int .i64 s.lo, .int .i64 s.hi]] w fun e w' => e = .returned (insV (insF x y s)) ∧ Below w.heap.size w w' := by
  have hA3 : Below w.heap.size w (((w.alloc (.cells #[.int .i64 x.lo, .int .i64 x.hi, .int .i64 y.lo, .int .i64 y.hi] 80)).alloc (.cells #[.int .i64 s.lo, .int .i64 s.hi] 26)).alloc (.cells #[.int .i64 0, .int .i64 0, .int .i64 0, .int .i64 0] 41)) := ((below_box w _).alloc (by simp) _).alloc (by simp only [World.size_alloc]; omega) _
  have hq := ((Blk.new w #[.int .i64 x.lo, .int .i64 x.hi, .int .i64 y.lo, .int .i64 y.hi] 80).alloc (.cells #[.int .i64 s.lo, .int .i64 s.hi] 26)).alloc (.cells #[.int .i64 0, .int .i64 0, .int .i64 0, .int .i64 0] 41)
  have hp := (Blk.new (w.alloc (.cells #[.int .i64 x.lo, .int .i64 x.hi, .int .i64 y.lo, .int .i64 y.hi] 80)) #[.int .i64 s.lo, .int .i64 s.hi] 26).alloc (.cells #[.int .i64 0, .int .i64 0, .int .i64 0, .int .i64 0] 41)
  have hr3 := Blk.new ((w.alloc (.cells #[.int .i64 x.lo, .int .i64 x.hi, .int .i64 y.lo, .int .i64 y.hi] 80)).alloc (.cells #[.int .i64 s.lo, .int .i64 s.hi] 26)) #[.int .i64 0, .int .i64 0, .int .i64 0, .int .i64 0] 41
  simp only [World.size_alloc] at hr3 hp
  have h1 := hok.a; have h2 := hok.b; have h3 := hok.c
  have hLm : lowF x y s = max s.lo (min x.hi y.hi) := rfl
  have hHm : highF x y s = min s.hi (max x.hi y.hi) := rfl
  have q0 := hq.cell 0 _ rfl
  have q1 := hq.cell 1 _ rfl
  have q2 := hq.cell 2 _ rfl
  have q3 := hq.cell 3 _ rfl
  have p0 := hp.cell 0 _ rfl
  have p1 := hp.cell 1 _ rfl
  have r0 := hr3.cell 0 _ rfl
  have r1 := hr3.cell 1 _ rfl
  have r2 := hr3.cell 2 _ rfl
  have r3 := hr3.cell 3 _ rfl
  have f0 := hr3.frozen 0
  have f1 := hr3.frozen 1
  have f2 := hr3.frozen 2
  have f3 := hr3.frozen 3
  obtain ⟨L, hL⟩ : ∃ L, lowF x y s = L := ⟨_, rfl⟩
  obtain ⟨H, hH⟩ : ∃ H, highF x y s = H := ⟨_, rfl⟩
  have hF : insF x y s = if H < L then none else if x.hi < y.hi then some ⟨timeF x y L, timeF x y H⟩ else if y.hi < x.hi then some ⟨timeF x y H, timeF x y L⟩ else some ⟨⟨x.lo, 1⟩, ⟨y.lo, 1⟩⟩ := by unfold insF; rw [hL, hH]
  rw [hL] at hLm
  rw [hH] at hHm
  have HLm := Lib.hid hLm
  have HHm := Lib.hid hHm
  obtain ⟨R, hR⟩ : ∃ R, insF x y s = R := ⟨_, rfl⟩
  rw [hR] at hF ⊢
  clear hLm hHm hR
  have hsz : w.heap.size + 3 ≤ (((w.alloc (.cells #[.int .i64 x.lo, .int .i64 x.hi, .int .i64 y.lo, .int .i64 y.hi] 80)).alloc (.cells #[.int .i64 s.lo, .int .i64 s.hi] 26)).alloc (.cells #[.int .i64 0, .int .i64 0, .int .i64 0, .int .i64 0] 41)).heap.size := by simp
  have hq3 : w.heap.size < (((w.alloc (.cells #[.int .i64 x.lo, .int .i64 x.hi, .int .i64 y.lo, .int .i64 y.hi] 80)).alloc (.cells #[.int .i64 s.lo, .int .i64 s.hi] 26)).alloc (.cells #[.int .i64 0, .int .i64 0, .int .i64 0, .int .i64 0] 41)).heap.size := by omega
  clear hp
  unfold lgV
  go_enter Try.func51, Try.ntmps51
  go_upto_region 1 with fail
  generalize (((w.alloc (.cells #[.int .i64 x.lo, .int .i64 x.hi, .int .i64 y.lo, .int .i64 y.hi] 80)).alloc (.cells #[.int .i64 s.lo, .int .i64 s.hi] 26)).alloc (.cells #[.int .i64 0, .int .i64 0, .int .i64 0, .int .i64 0] 41)) = w3 at *
  go_cut [6] (fun sv wx => sv = .int .i64 L ∧ w3 = wx)
  case first =>
    clear hF
    go_wp2_with fail
    all_goals (go_meet; have hLm := HLm.out; have hHm := HHm.out; exact ⟨congrArg (Value.int .i64) (by omega), rfl⟩)
  case rest =>
  obtain ⟨rfl, rfl⟩ := hcut
  go_upto_region 2 with fail
  go_cut [7] (fun sv wx => sv = .int .i64 H ∧ w3 = wx)
  case first =>
    clear hF
    go_wp2_with fail
    all_goals (go_meet; have hLm := HLm.out; have hHm := HHm.out; exact ⟨congrArg (Value.int .i64) (by omega), rfl⟩)
  case rest =>
  obtain ⟨rfl, rfl⟩ := hcut
  by_cases hc : H < L
  · rw [if_pos hc] at hF
    subst hF
    obtain ⟨HE, C0, C1, C2, C3⟩ := end4 hA3 hr3 (by omega) (by rfl) (.int .i64 0) (.int .i64 0) (.int .i64 0) (.int .i64 0)
    clear hok h1 h2 h3 hr3
    clear HLm HHm
    go_wp2
    have c0 := C0.out
    have c1 := C1.out
    have c2 := C2.out
    have c3 := C3.out
    have hE := HE.out
    clear C0 C1 C2 C3 HE
    generalize ((((w3.setCell ⟨w.heap.size + 1 + 1, 0, none⟩ (.int .i64 0)).setCell ⟨w.heap.size + 1 + 1, 1, none⟩ (.int .i64 0)).setCell ⟨w.heap.size + 1 + 1, 2, none⟩ (.int .i64 0)).setCell ⟨w.heap.size + 1 + 1, 3, none⟩ (.int .i64 0)) = WE at c0 c1 c2 c3 hE ⊢
    refine ⟨rfl, insV none, ?_, rfl, hE⟩
    simp [results, Try.results51, go_sem, c0, c1, c2, c3, insV, stV]
  rw [if_neg hc] at hF
  have hLm := HLm.out
  have hHm := HHm.out
  have hLb : 0 ≤ L ∧ L ≤ 1000000 := by omega
  have hHb : 0 ≤ H ∧ H ≤ 1000000 := by omega
  clear hLm hHm HLm HHm
  by_cases hup : x.hi < y.hi
  · rw [if_pos hup] at hF
    obtain ⟨A, hAe⟩ : ∃ A, timeF x y L = A := ⟨_, rfl⟩
    obtain ⟨B, hBe⟩ : ∃ A, timeF x y H = A := ⟨_, rfl⟩
    rw [hAe, hBe] at hF
    subst hF
    go_wp2_with fail
    have D0 : Below w3.heap.size w3 w3.drew := (Below.refl _ _).drew
    have HSV : Hid (∀ V, Below w3.heap.size w3 V → (fun w' : World => w'.cell? ⟨w.heap.size, 0, none⟩ = some (.int .i64 x.lo) ∧ w'.cell? ⟨w.heap.size, 1, none⟩ = some (.int .i64 x.hi) ∧ w'.cell? ⟨w.heap.size, 2, none⟩ = some (.int .i64 y.lo) ∧ w'.cell? ⟨w.heap.size, 3, none⟩ = some (.int .i64 y.hi)) V) := Lib.hid (fun V hV => ⟨ext_of_below hV _ _ q0, ext_of_below hV _ _ q1, ext_of_below hV _ _ q2, ext_of_below hV _ _ q3⟩)
    have HT1 := fun V => time_any x y L V hok (by omega) (by omega)
    have HT2 := fun V => time_any x y H V hok (by omega) (by omega)
    rw [hAe] at HT1
    rw [hBe] at HT2
    unfold rtV at HT1 HT2
    clear q0 q1 q2 q3 r0 r1 r2 r3 f0 f1 f2 f3
    refine wp_region_till (fun w' : World => w'.cell? ⟨w.heap.size, 0, none⟩ = some (.int .i64 x.lo) ∧ w'.cell? ⟨w.heap.size, 1, none⟩ = some (.int .i64 x.hi) ∧ w'.cell? ⟨w.heap.size, 2, none⟩ = some (.int .i64 y.lo) ∧ w'.cell? ⟨w.heap.size, 3, none⟩ = some (.int .i64 y.hi)) 8 (by kernel_rfl) (HSV.out _ D0) (fun hHeld => ?_)
    refine Till.take 0 (some 41) (v := ?_) rfl rfl (by kernel_rfl) (by kernel_rfl) (by kernel_rfl) (by kernel_rfl) (fun _ _ _ h => h) (Or.inl ⟨by rfl, ?_⟩) (by assumption) ?_
    rotate_left
    · (intro w hSw; (try dsimp only at hSw); go_simp; try with_reducible rfl)
    try simp only [Act.put, List.setIfInBounds_toArray, List.set_cons_zero, List.set_cons_succ]
    refine Till.take 1 (some 42) (v := ?_) rfl rfl (by kernel_rfl) (by kernel_rfl) (by kernel_rfl) (by kernel_rfl) (fun _ _ _ h => h) (Or.inl ⟨by rfl, ?_⟩) (by assumption) ?_
    rotate_left
    · (intro w hSw; (try dsimp only at hSw); go_simp; try with_reducible rfl)
    try simp only [Act.put, List.setIfInBounds_toArray, List.set_cons_zero, List.set_cons_succ]
    refine Till.take 3 (some 44) (v := ?_) rfl rfl (by kernel_rfl) (by kernel_rfl) (by kernel_rfl) (by kernel_rfl) (fun _ _ _ h => h) (Or.inl ⟨by rfl, ?_⟩) (by assumption) ?_
    rotate_left
    · (intro w hSw; (try dsimp only at hSw); go_simp; try with_reducible rfl)
    try simp only [Act.put, List.setIfInBounds_toArray, List.set_cons_zero, List.set_cons_succ]
    refine Till.take 4 (some 45) (v := ?_) rfl rfl (by kernel_rfl) (by kernel_rfl) (by kernel_rfl) (by kernel_rfl) (fun _ _ _ h => h) (Or.inl ⟨by rfl, ?_⟩) (by assumption) ?_
    rotate_left
    · (intro w hSw; (try dsimp only at hSw); go_simp; try with_reducible rfl)
    try simp only [Act.put, List.setIfInBounds_toArray, List.set_cons_zero, List.set_cons_succ]
    refine Till.one 2 rfl (by kernel_rfl) (fun K hK => ?_)
    go_simp
    go_at_call 62
    refine (HT1 _).mono ?_
    rintro e w4 ⟨rfl, hb0⟩
    have D1 := D0.trans (hb0.mono D0.size)
    have hh0 := HSV.out _ D1
    refine hK.out _ _ (fun _ => hh0) (fun hHeld0 => ?_)
    clear hK K hb0
    try simp only [Act.put, List.setIfInBounds_toArray, List.set_cons_zero, List.set_cons_succ]
    refine Till.one 5 rfl (by kernel_rfl) (fun K hK => ?_)
    go_simp
    go_at_call 62
    refine (HT2 _).mono ?_
    rintro e w5 ⟨rfl, hb1⟩
    have D2 := D1.trans (hb1.mono D1.size)
    have hh1 := HSV.out _ D2
    refine hK.out _ _ (fun _ => hh1) (fun hHeld1 => ?_)
    clear hK K hb1
    try simp only [Act.put, List.setIfInBounds_toArray, List.set_cons_zero, List.set_cons_succ]
    refine Till.take 6 (some 47) (v := ?_) rfl rfl (by kernel_rfl) (by kernel_rfl) (by kernel_rfl) (by kernel_rfl) (fun _ _ _ h => h) (Or.inl ⟨by rfl, ?_⟩) (by assumption) ?_
    rotate_left
    · (intro w hSw; (try dsimp only at hSw); go_simp; try with_reducible rfl)
    try simp only [Act.put, List.setIfInBounds_toArray, List.set_cons_zero, List.set_cons_succ]
    have hA5 := hA3.trans (D2.mono hA3.size)
    have hR5 := hr3.below D2 hr3.lt
    have hQ5 := hq.below D2 hq.lt
    have g0 := hR5.cell 0 _ rfl
    have g1 := hR5.cell 1 _ rfl
    have g2 := hR5.cell 2 _ rfl
    have g3 := hR5.cell 3 _ rfl
    have g4 := hR5.frozen 0
    have g5 := hR5.frozen 1
    have g6 := hR5.frozen 2
    have g7 := hR5.frozen 3
    have hQ6 := (((hQ5.other ⟨w.heap.size + 1 + 1, 0, none⟩ (.int .i64 A.n) (by simp only; omega)).other ⟨w.heap.size + 1 + 1, 1, none⟩ (.int .i64 A.d) (by simp only; omega)).other ⟨w.heap.size + 1 + 1, 2, none⟩ (.int .i64 B.n) (by simp only; omega)).other ⟨w.heap.size + 1 + 1, 3, none⟩ (.int .i64 B.d) (by simp only; omega)
    have HS6 := Lib.hid (And.intro (hQ6.cell 0 _ rfl) (And.intro (hQ6.cell 1 _ rfl) (And.intro (hQ6.cell 2 _ rfl) (hQ6.cell 3 _ rfl))))
    clear hQ5 hQ6
    obtain ⟨HE, C0, C1, C2, C3⟩ := end4 hA5 hR5 (by omega) (by rfl) (.int .i64 A.n) (.int .i64 A.d) (.int .i64 B.n) (.int .i64 B.d)
    refine Till.one 7 rfl (by kernel_rfl) (fun K hK => ?_)
    go_simp
    refine hK.out _ _ (fun _ => HS6.out) (fun hHeld6 => ?_)
    clear hK K hHeld6 HS6
    refine Till.one 8 rfl (by kernel_rfl) (fun K hK => ?_)
    go_simp
    refine hK.out _ _ (fun h => absurd rfl h) (fun _ => ?_)
    clear hK K
    try simp only [Act.put, List.setIfInBounds_toArray, List.set_cons_zero, List.set_cons_succ]
    refine Till.done (by kernel_rfl) ?_ _
    clear g0 g1 g2 g3 g4 g5 g6 g7 hHeld hHeld0 hHeld1 hh0 hh1 HSV D0 D1 D2 hA5 hR5 hA3 hr3 hq
    go_wp2
    have c0 := C0.out
    have c1 := C1.out
    have c2 := C2.out
    have c3 := C3.out
    have hE := HE.out
    clear C0 C1 C2 C3 HE
    generalize ((((w5.setCell ⟨w.heap.size + 1 + 1, 0, none⟩ (.int .i64 A.n)).setCell ⟨w.heap.size + 1 + 1, 1, none⟩ (.int .i64 A.d)).setCell ⟨w.heap.size + 1 + 1, 2, none⟩ (.int .i64 B.n)).setCell ⟨w.heap.size + 1 + 1, 3, none⟩ (.int .i64 B.d)) = WE at c0 c1 c2 c3 hE ⊢
    refine ⟨rfl, insV (some ⟨A, B⟩), ?_, rfl, hE⟩
    simp [results, Try.results51, go_sem, c0, c1, c2, c3, insV, stV]

  rw [if_neg hup] at hF
  by_cases hdn : y.hi < x.hi
  · rw [if_pos hdn] at hF
    obtain ⟨A, hAe⟩ : ∃ A, timeF x y H = A := ⟨_, rfl⟩
    obtain ⟨B, hBe⟩ : ∃ A, timeF x y L = A := ⟨_, rfl⟩
    rw [hAe, hBe] at hF
    subst hF
    go_wp2_with fail
    have D0 : Below w3.heap.size w3 w3.drew := (Below.refl _ _).drew
    have HSV : Hid (∀ V, Below w3.heap.size w3 V → (fun w' : World => w'.cell? ⟨w.heap.size, 0, none⟩ = some (.int .i64 x.lo) ∧ w'.cell? ⟨w.heap.size, 1, none⟩ = some (.int .i64 x.hi) ∧ w'.cell? ⟨w.heap.size, 2, none⟩ = some (.int .i64 y.lo) ∧ w'.cell? ⟨w.heap.size, 3, none⟩ = some (.int .i64 y.hi)) V) := Lib.hid (fun V hV => ⟨ext_of_below hV _ _ q0, ext_of_below hV _ _ q1, ext_of_below hV _ _ q2, ext_of_below hV _ _ q3⟩)
    have HT1 := fun V => time_any x y H V hok (by omega) (by omega)
    have HT2 := fun V => time_any x y L V hok (by omega) (by omega)
    rw [hAe] at HT1
    rw [hBe] at HT2
    unfold rtV at HT1 HT2
    clear q0 q1 q2 q3 r0 r1 r2 r3 f0 f1 f2 f3
    refine wp_region_till (fun w' : World => w'.cell? ⟨w.heap.size, 0, none⟩ = some (.int .i64 x.lo) ∧ w'.cell? ⟨w.heap.size, 1, none⟩ = some (.int .i64 x.hi) ∧ w'.cell? ⟨w.heap.size, 2, none⟩ = some (.int .i64 y.lo) ∧ w'.cell? ⟨w.heap.size, 3, none⟩ = some (.int .i64 y.hi)) 8 (by kernel_rfl) (HSV.out _ D0) (fun hHeld => ?_)
    refine Till.take 0 (some 56) (v := ?_) rfl rfl (by kernel_rfl) (by kernel_rfl) (by kernel_rfl) (by kernel_rfl) (fun _ _ _ h => h) (Or.inl ⟨by rfl, ?_⟩) (by assumption) ?_
    rotate_left
    · (intro w hSw; (try dsimp only at hSw); go_simp; try with_reducible rfl)
    try simp only [Act.put, List.setIfInBounds_toArray, List.set_cons_zero, List.set_cons_succ]
    refine Till.take 1 (some 57) (v := ?_) rfl rfl (by kernel_rfl) (by kernel_rfl) (by kernel_rfl) (by kernel_rfl) (fun _ _ _ h => h) (Or.inl ⟨by rfl, ?_⟩) (by assumption) ?_
    rotate_left
    · (intro w hSw; (try dsimp only at hSw); go_simp; try with_reducible rfl)
    try simp only [Act.put, List.setIfInBounds_toArray, List.set_cons_zero, List.set_cons_succ]
    refine Till.take 3 (some 59) (v := ?_) rfl rfl (by kernel_rfl) (by kernel_rfl) (by kernel_rfl) (by kernel_rfl) (fun _ _ _ h => h) (Or.inl ⟨by rfl, ?_⟩) (by assumption) ?_
    rotate_left
    · (intro w hSw; (try dsimp only at hSw); go_simp; try with_reducible rfl)
    try simp only [Act.put, List.setIfInBounds_toArray, List.set_cons_zero, List.set_cons_succ]
    refine Till.take 4 (some 60) (v := ?_) rfl rfl (by kernel_rfl) (by kernel_rfl) (by kernel_rfl) (by kernel_rfl) (fun _ _ _ h => h) (Or.inl ⟨by rfl, ?_⟩) (by assumption) ?_
    rotate_left
    · (intro w hSw; (try dsimp only at hSw); go_simp; try with_reducible rfl)
    try simp only [Act.put, List.setIfInBounds_toArray, List.set_cons_zero, List.set_cons_succ]
    refine Till.one 2 rfl (by kernel_rfl) (fun K hK => ?_)
    go_simp
    go_at_call 62
    refine (HT1 _).mono ?_
    rintro e w4 ⟨rfl, hb0⟩
    have D1 := D0.trans (hb0.mono D0.size)
    have hh0 := HSV.out _ D1
    refine hK.out _ _ (fun _ => hh0) (fun hHeld0 => ?_)
    clear hK K hb0
    try simp only [Act.put, List.setIfInBounds_toArray, List.set_cons_zero, List.set_cons_succ]
    refine Till.one 5 rfl (by kernel_rfl) (fun K hK => ?_)
    go_simp
    go_at_call 62
    refine (HT2 _).mono ?_
    rintro e w5 ⟨rfl, hb1⟩
    have D2 := D1.trans (hb1.mono D1.size)
    have hh1 := HSV.out _ D2
    refine hK.out _ _ (fun _ => hh1) (fun hHeld1 => ?_)
    clear hK K hb1
    try simp only [Act.put, List.setIfInBounds_toArray, List.set_cons_zero, List.set_cons_succ]
    refine Till.take 6 (some 62) (v := ?_) rfl rfl (by kernel_rfl) (by kernel_rfl) (by kernel_rfl) (by kernel_rfl) (fun _ _ _ h => h) (Or.inl ⟨by rfl, ?_⟩) (by assumption) ?_
    rotate_left
    · (intro w hSw; (try dsimp only at hSw); go_simp; try with_reducible rfl)
    try simp only [Act.put, List.setIfInBounds_toArray, List.set_cons_zero, List.set_cons_succ]
    have hA5 := hA3.trans (D2.mono hA3.size)
    have hR5 := hr3.below D2 hr3.lt
    have hQ5 := hq.below D2 hq.lt
    have g0 := hR5.cell 0 _ rfl
    have g1 := hR5.cell 1 _ rfl
    have g2 := hR5.cell 2 _ rfl
    have g3 := hR5.cell 3 _ rfl
    have g4 := hR5.frozen 0
    have g5 := hR5.frozen 1
    have g6 := hR5.frozen 2
    have g7 := hR5.frozen 3
    have hQ6 := (((hQ5.other ⟨w.heap.size + 1 + 1, 0, none⟩ (.int .i64 A.n) (by simp only; omega)).other ⟨w.heap.size + 1 + 1, 1, none⟩ (.int .i64 A.d) (by simp only; omega)).other ⟨w.heap.size + 1 + 1, 2, none⟩ (.int .i64 B.n) (by simp only; omega)).other ⟨w.heap.size + 1 + 1, 3, none⟩ (.int .i64 B.d) (by simp only; omega)
    have HS6 := Lib.hid (And.intro (hQ6.cell 0 _ rfl) (And.intro (hQ6.cell 1 _ rfl) (And.intro (hQ6.cell 2 _ rfl) (hQ6.cell 3 _ rfl))))
    clear hQ5 hQ6
    obtain ⟨HE, C0, C1, C2, C3⟩ := end4 hA5 hR5 (by omega) (by rfl) (.int .i64 A.n) (.int .i64 A.d) (.int .i64 B.n) (.int .i64 B.d)
    refine Till.one 7 rfl (by kernel_rfl) (fun K hK => ?_)
    go_simp
    refine hK.out _ _ (fun _ => HS6.out) (fun hHeld6 => ?_)
    clear hK K hHeld6 HS6
    refine Till.one 8 rfl (by kernel_rfl) (fun K hK => ?_)
    go_simp
    refine hK.out _ _ (fun h => absurd rfl h) (fun _ => ?_)
    clear hK K
    try simp only [Act.put, List.setIfInBounds_toArray, List.set_cons_zero, List.set_cons_succ]
    refine Till.done (by kernel_rfl) ?_ _
    clear g0 g1 g2 g3 g4 g5 g6 g7 hHeld hHeld0 hHeld1 hh0 hh1 HSV D0 D1 D2 hA5 hR5 hA3 hr3 hq
    go_wp2
    have c0 := C0.out
    have c1 := C1.out
    have c2 := C2.out
    have c3 := C3.out
    have hE := HE.out
    clear C0 C1 C2 C3 HE
    generalize ((((w5.setCell ⟨w.heap.size + 1 + 1, 0, none⟩ (.int .i64 A.n)).setCell ⟨w.heap.size + 1 + 1, 1, none⟩ (.int .i64 A.d)).setCell ⟨w.heap.size + 1 + 1, 2, none⟩ (.int .i64 B.n)).setCell ⟨w.heap.size + 1 + 1, 3, none⟩ (.int .i64 B.d)) = WE at c0 c1 c2 c3 hE ⊢
    refine ⟨rfl, insV (some ⟨A, B⟩), ?_, rfl, hE⟩
    simp [results, Try.results51, go_sem, c0, c1, c2, c3, insV, stV]

  rw [if_neg hdn] at hF
  obtain ⟨A, hAe⟩ : ∃ A, Rt.mk x.lo 1 = A := ⟨_, rfl⟩
  obtain ⟨B, hBe⟩ : ∃ A, Rt.mk y.lo 1 = A := ⟨_, rfl⟩
  rw [hAe, hBe] at hF
  subst hF
  go_wp2_with fail
  have D0 : Below w3.heap.size w3 w3.drew := (Below.refl _ _).drew
  have HSV : Hid (∀ V, Below w3.heap.size w3 V → (fun w' : World => w'.cell? ⟨w.heap.size, 0, none⟩ = some (.int .i64 x.lo) ∧ w'.cell? ⟨w.heap.size, 1, none⟩ = some (.int .i64 x.hi) ∧ w'.cell? ⟨w.heap.size, 2, none⟩ = some (.int .i64 y.lo) ∧ w'.cell? ⟨w.heap.size, 3, none⟩ = some (.int .i64 y.hi)) V) := Lib.hid (fun V hV => ⟨ext_of_below hV _ _ q0, ext_of_below hV _ _ q1, ext_of_below hV _ _ q2, ext_of_below hV _ _ q3⟩)
  have HW1 := fun V => whole_any x.lo V
  have HW2 := fun V => whole_any y.lo V
  have HT1 := fun V => ratio_any x.lo 1 V (by omega) (by omega)
  have HT2 := fun V => ratio_any y.lo 1 V (by omega) (by omega)
  rw [rat_pos (by omega), mk_one, hAe] at HT1
  rw [rat_pos (by omega), mk_one, hBe] at HT2
  unfold rtV at HT1 HT2
  clear q0 q1 q2 q3 r0 r1 r2 r3 f0 f1 f2 f3
  refine wp_region_till (fun w' : World => w'.cell? ⟨w.heap.size, 0, none⟩ = some (.int .i64 x.lo) ∧ w'.cell? ⟨w.heap.size, 1, none⟩ = some (.int .i64 x.hi) ∧ w'.cell? ⟨w.heap.size, 2, none⟩ = some (.int .i64 y.lo) ∧ w'.cell? ⟨w.heap.size, 3, none⟩ = some (.int .i64 y.hi)) 12 (by kernel_rfl) (HSV.out _ D0) (fun hHeld => ?_)
  refine Till.take 0 (some 63) (v := ?_) rfl rfl (by kernel_rfl) (by kernel_rfl) (by kernel_rfl) (by kernel_rfl) (fun _ _ _ h => h) (Or.inl ⟨by rfl, ?_⟩) (by assumption) ?_
  rotate_left
  · (intro w hSw; (try dsimp only at hSw); go_simp; try with_reducible rfl)
  try simp only [Act.put, List.setIfInBounds_toArray, List.set_cons_zero, List.set_cons_succ]
  refine Till.take 1 (some 64) (v := ?_) rfl rfl (by kernel_rfl) (by kernel_rfl) (by kernel_rfl) (by kernel_rfl) (fun _ _ _ h => h) (Or.inl ⟨by rfl, ?_⟩) (by assumption) ?_
  rotate_left
  · (intro w hSw; (try dsimp only at hSw); go_simp; try with_reducible rfl)
  try simp only [Act.put, List.setIfInBounds_toArray, List.set_cons_zero, List.set_cons_succ]
  refine Till.take 2 (some 65) (v := ?_) rfl rfl (by kernel_rfl) (by kernel_rfl) (by kernel_rfl) (by kernel_rfl) (fun _ _ _ h => h) (Or.inl ⟨by rfl, ?_⟩) (by assumption) ?_
  rotate_left
  · (intro w hSw; (try dsimp only at hSw); go_simp; try with_reducible rfl)
  try simp only [Act.put, List.setIfInBounds_toArray, List.set_cons_zero, List.set_cons_succ]
  refine Till.take 5 (some 68) (v := ?_) rfl rfl (by kernel_rfl) (by kernel_rfl) (by kernel_rfl) (by kernel_rfl) (fun _ _ _ h => h) (Or.inl ⟨by rfl, ?_⟩) (by assumption) ?_
  rotate_left
  · (intro w hSw; (try dsimp only at hSw); go_simp; try with_reducible rfl)
  try simp only [Act.put, List.setIfInBounds_toArray, List.set_cons_zero, List.set_cons_succ]
  refine Till.take 6 (some 69) (v := ?_) rfl rfl (by kernel_rfl) (by kernel_rfl) (by kernel_rfl) (by kernel_rfl) (fun _ _ _ h => h) (Or.inl ⟨by rfl, ?_⟩) (by assumption) ?_
  rotate_left
  · (intro w hSw; (try dsimp only at hSw); go_simp; try with_reducible rfl)
  try simp only [Act.put, List.setIfInBounds_toArray, List.set_cons_zero, List.set_cons_succ]
  refine Till.take 7 (some 70) (v := ?_) rfl rfl (by kernel_rfl) (by kernel_rfl) (by kernel_rfl) (by kernel_rfl) (fun _ _ _ h => h) (Or.inl ⟨by rfl, ?_⟩) (by assumption) ?_
  rotate_left
  · (intro w hSw; (try dsimp only at hSw); go_simp; try with_reducible rfl)
  try simp only [Act.put, List.setIfInBounds_toArray, List.set_cons_zero, List.set_cons_succ]
  refine Till.one 3 rfl (by kernel_rfl) (fun K hK => ?_)
  go_simp
  go_at_call 35
  refine (HW1 _).mono ?_
  rintro e v4 ⟨rfl, hb0⟩
  have D1 := D0.trans (hb0.mono D0.size)
  have hh0 := HSV.out _ D1
  refine hK.out _ _ (fun _ => hh0) (fun hHeld0 => ?_)
  clear hK K hb0
  try simp only [Act.put, List.setIfInBounds_toArray, List.set_cons_zero, List.set_cons_succ]
  refine Till.one 4 rfl (by kernel_rfl) (fun K hK => ?_)
  go_simp
  go_at_call 38
  refine (HT1 _).mono ?_
  rintro e w4 ⟨rfl, hb1⟩
  have D2 := D1.trans (hb1.mono D1.size)
  have hh1 := HSV.out _ D2
  refine hK.out _ _ (fun _ => hh1) (fun hHeld1 => ?_)
  clear hK K hb1
  try simp only [Act.put, List.setIfInBounds_toArray, List.set_cons_zero, List.set_cons_succ]
  refine Till.one 8 rfl (by kernel_rfl) (fun K hK => ?_)
  go_simp
  go_at_call 35
  refine (HW2 _).mono ?_
  rintro e v5 ⟨rfl, hb2⟩
  have D3 := D2.trans (hb2.mono D2.size)
  have hh2 := HSV.out _ D3
  refine hK.out _ _ (fun _ => hh2) (fun hHeld2 => ?_)
  clear hK K hb2
  try simp only [Act.put, List.setIfInBounds_toArray, List.set_cons_zero, List.set_cons_succ]
  refine Till.one 9 rfl (by kernel_rfl) (fun K hK => ?_)
  go_simp
  go_at_call 38
  refine (HT2 _).mono ?_
  rintro e w5 ⟨rfl, hb3⟩
  have D4 := D3.trans (hb3.mono D3.size)
  have hh3 := HSV.out _ D4
  refine hK.out _ _ (fun _ => hh3) (fun hHeld3 => ?_)
  clear hK K hb3
  try simp only [Act.put, List.setIfInBounds_toArray, List.set_cons_zero, List.set_cons_succ]
  refine Till.take 10 (some 73) (v := ?_) rfl rfl (by kernel_rfl) (by kernel_rfl) (by kernel_rfl) (by kernel_rfl) (fun _ _ _ h => h) (Or.inl ⟨by rfl, ?_⟩) (by assumption) ?_
  rotate_left
  · (intro w hSw; (try dsimp only at hSw); go_simp; try with_reducible rfl)
  try simp only [Act.put, List.setIfInBounds_toArray, List.set_cons_zero, List.set_cons_succ]
  have hA5 := hA3.trans (D4.mono hA3.size)
  have hR5 := hr3.below D4 hr3.lt
  have hQ5 := hq.below D4 hq.lt
  have g0 := hR5.cell 0 _ rfl
  have g1 := hR5.cell 1 _ rfl
  have g2 := hR5.cell 2 _ rfl
  have g3 := hR5.cell 3 _ rfl
  have g4 := hR5.frozen 0
  have g5 := hR5.frozen 1
  have g6 := hR5.frozen 2
  have g7 := hR5.frozen 3
  have hQ6 := (((hQ5.other ⟨w.heap.size + 1 + 1, 0, none⟩ (.int .i64 A.n) (by simp only; omega)).other ⟨w.heap.size + 1 + 1, 1, none⟩ (.int .i64 A.d) (by simp only; omega)).other ⟨w.heap.size + 1 + 1, 2, none⟩ (.int .i64 B.n) (by simp only; omega)).other ⟨w.heap.size + 1 + 1, 3, none⟩ (.int .i64 B.d) (by simp only; omega)
  have HS6 := Lib.hid (And.intro (hQ6.cell 0 _ rfl) (And.intro (hQ6.cell 1 _ rfl) (And.intro (hQ6.cell 2 _ rfl) (hQ6.cell 3 _ rfl))))
  clear hQ5 hQ6
  obtain ⟨HE, C0, C1, C2, C3⟩ := end4 hA5 hR5 (by omega) (by rfl) (.int .i64 A.n) (.int .i64 A.d) (.int .i64 B.n) (.int .i64 B.d)
  refine Till.one 11 rfl (by kernel_rfl) (fun K hK => ?_)
  go_simp
  refine hK.out _ _ (fun _ => HS6.out) (fun hHeld6 => ?_)
  clear hK K hHeld6 HS6
  refine Till.one 12 rfl (by kernel_rfl) (fun K hK => ?_)
  go_simp
  refine hK.out _ _ (fun h => absurd rfl h) (fun _ => ?_)
  clear hK K
  try simp only [Act.put, List.setIfInBounds_toArray, List.set_cons_zero, List.set_cons_succ]
  refine Till.done (by kernel_rfl) ?_ _
  clear g0 g1 g2 g3 g4 g5 g6 g7 hHeld hHeld0 hHeld1 hHeld2 hHeld3 hh0 hh1 hh2 hh3 HSV D0 D1 D2 D3 D4 hA5 hR5 hA3 hr3 hq
  go_wp2
  have c0 := C0.out
  have c1 := C1.out
  have c2 := C2.out
  have c3 := C3.out
  have hE := HE.out
  clear C0 C1 C2 C3 HE
  generalize ((((w5.setCell ⟨w.heap.size + 1 + 1, 0, none⟩ (.int .i64 A.n)).setCell ⟨w.heap.size + 1 + 1, 1, none⟩ (.int .i64 A.d)).setCell ⟨w.heap.size + 1 + 1, 2, none⟩ (.int .i64 B.n)).setCell ⟨w.heap.size + 1 + 1, 3, none⟩ (.int .i64 B.d)) = WE at c0 c1 c2 c3 hE ⊢
  refine ⟨rfl, insV (some ⟨A, B⟩), ?_, rfl, hE⟩
  simp [results, Try.results51, go_sem, c0, c1, c2, c3, insV, stV]


end Go.Proofs.Ytnldenjdbgfgmaa
