/- The law FormingNear; no statement is proved here. -/
import Derived.Test.YtnldenjdbgfgmaaFmNx
import Derived.Test.YtnldenjdbgfgmaaFmRl
namespace Go.Proofs.Ytnldenjdbgfgmaa
open Go.RowKit Go.PlainAid
set_option linter.unusedVariables false
set_option linter.unusedSimpArgs false
attribute [local go_sem] beq_self_eq_true bne_self_eq_false

theorem neR (x1 x2 : Int) (w : World) : Sem.run Try.prog (Go.binOp .neq 24 (.agg #[.int .i64 x1, .int .i64 x2]) (.agg #[.int .i64 x1, .int .i64 x2])) w = .ok (.bool false) w := by
  rw [run_neq_struct]
  simp [go_sem]
theorem putBlk {W : World} {k : Nat} {T : TypeId} {z0 z1 z2 z3 : Value} (h : Blk W k #[z0, z1, z2, z3] T) (a b c d : Value) : Blk ((((W.setCell ⟨k, 0, none⟩ a).setCell ⟨k, 1, none⟩ b).setCell ⟨k, 2, none⟩ c).setCell ⟨k, 3, none⟩ d) k #[a, b, c, d] T := by simpa using (((h.set 0 a).set 1 b).set 2 c).set 3 d
theorem othBlk {W : World} {k p : Nat} {T : TypeId} {z : Array Value} (h : Blk W k z T) (hp : p ≠ k) (a b c d : Value) : Blk ((((W.setCell ⟨p, 0, none⟩ a).setCell ⟨p, 1, none⟩ b).setCell ⟨p, 2, none⟩ c).setCell ⟨p, 3, none⟩ d) k z T :=
  (((h.other _ _ (by simp only; omega)).other _ _ (by simp only; omega)).other _ _ (by simp only; omega)).other _ _ (by simp only; omega)
theorem put4B {n : Nat} {w W : World} {p : Nat} (h : Below n w W) (hp : n ≤ p) (a b c d : Value) : Below n w ((((W.setCell ⟨p, 0, none⟩ a).setCell ⟨p, 1, none⟩ b).setCell ⟨p, 2, none⟩ c).setCell ⟨p, 3, none⟩ d) :=
  (((h.setCell (by simpa using hp) _).setCell (by simpa using hp) _).setCell (by simpa using hp) _).setCell (by simpa using hp) _
theorem pick_ix (i : Int) {n : Nat} (hn : n ≠ 0) (hs : n ≤ 20) (hi : I64 i) : ∃ k : Nat, k < n ∧ (i.tmod n + n).tmod n = (k : Int) ∧ (-20 ≤ i.tmod n ∧ i.tmod n ≤ 20) ∧ (0 ≤ i.tmod n + n ∧ i.tmod n + n ≤ 40) := by
  have h1 := Int.tmod_lt_of_pos i (show 0 < (n : Int) by omega)
  have h2 := Int.lt_tmod_of_pos i (show 0 < (n : Int) by omega)
  have h3 := Int.emod_nonneg i (show (n : Int) ≠ 0 by omega)
  have h4 := Int.emod_lt_of_pos i (show 0 < (n : Int) by omega)
  exact ⟨(i % n).toNat, by omega, by rw [emod_of i n (by omega)]; omega, by omega, by omega⟩

set_option maxHeartbeats 16000000 in
set_option maxRecDepth 100000 in
theorem fNearLaw_any (c : Int) (va : Value) (la : List St) (vb : Value) (lb : List St) (sh i k turn : Int) (w : World) (hic : I64 c) (hra : RSts w va la) (hrb : RSts w vb lb) (his : I64 sh) (hii : I64 i) (hik : I64 k) (hit : I64 turn) :
    Calls Try.prog 7 #[.int .i64 c, va, vb, .int .i64 sh, .int .i64 i, .int .i64 k, .int .i64 turn] w (TrueF w) := by
  obtain ⟨aa, ca, rfl, -, ⟨hca, hma⟩, -⟩ := id hra
  obtain ⟨ab, cb, rfl, -, ⟨hcb, hmb⟩, -⟩ := id hrb
  have hA := Below.refl w.heap.size w
  by_cases n1 : 20 < la.length
  · clear hra hrb
    have i1 : (20 : Int) < (la.length : Int) := by omega
    go_enter Try.func7, Try.ntmps7
    go_wp2_with fail
    refine (turns_any _).mono ?_
    rintro e wz ⟨rfl, hb⟩
    have hA := hA.trans (hb.mono hA.size)
    go_wp2
    go_ret
    exact ⟨rfl, hA⟩
  by_cases n2 : 20 < lb.length
  · clear hra hrb
    have i1 : ¬ (20 : Int) < (la.length : Int) := by omega
    have i2 : (20 : Int) < (lb.length : Int) := by omega
    go_enter Try.func7, Try.ntmps7
    go_wp2_with fail
    refine (turns_any _).mono ?_
    rintro e wz ⟨rfl, hb⟩
    have hA := hA.trans (hb.mono hA.size)
    go_wp2
    go_ret
    exact ⟨rfl, hA⟩
  have i1 : ¬ (20 : Int) < (la.length : Int) := by omega
  have i2 : ¬ (20 : Int) < (lb.length : Int) := by omega
  go_enter Try.func7, Try.ntmps7
  go_wp2_with fail
  refine (ordered_any c aa ca la _ hra).mono ?_
  rintro e w' ⟨⟨b, rfl⟩, hw'⟩
  subst hw'
  cases b
  case false =>
    clear hra hrb
    go_wp2_with fail
    refine (turns_any _).mono ?_
    rintro e wz ⟨rfl, hb⟩
    have hA := hA.trans (hb.mono hA.size)
    go_wp2
    go_ret
    exact ⟨rfl, hA⟩
  go_wp2_with fail
  refine (ordered_any c ab cb lb _ hrb).mono ?_
  rintro e w'' ⟨⟨b, rfl⟩, hw'⟩
  subst hw'
  cases b
  case false =>
    clear hra hrb
    go_wp2_with fail
    refine (turns_any _).mono ?_
    rintro e wz ⟨rfl, hb⟩
    have hA := hA.trans (hb.mono hA.size)
    go_wp2
    go_ret
    exact ⟨rfl, hA⟩
  go_wp2_with fail
  by_cases hok : GapOk c sh la lb
  case neg =>
    refine (gap_any c sh aa ab ca cb la lb _ hra hrb hic).mono ?_
    rintro e w1 ⟨hG, hb⟩
    obtain rfl := gapA_bad hok hG
    clear hG hok
    have hra := hra.mono (ext_of_below hb)
    have hrb := hrb.mono (ext_of_below hb)
    have hA := hA.trans (hb.mono hA.size)
    clear hb
    have hX := Blk.new w1 #[.int .i64 0, .int .i64 0] 24
    have hb := below_box w1 (.cells #[.int .i64 0, .int .i64 0] 24)
    have hra := hra.mono (ext_of_below hb)
    have hrb := hrb.mono (ext_of_below hb)
    have hA := hA.trans (hb.mono hA.size)
    clear hb
    have eqq := fun V => eqR 0 0 V
    have x0 := hX.cell 0 _ rfl
    have x1 := hX.cell 1 _ rfl
    clear hra hrb hX
    go_upto_region 5 with fail
    generalize (w1.alloc (.cells #[.int .i64 0, .int .i64 0] 24)) = w2 at *
    go_wp2_with fail
    refine (turns_any _).mono ?_
    rintro e wz ⟨rfl, hb⟩
    have hA := hA.trans (hb.mono hA.size)
    go_wp2
    go_ret
    exact ⟨rfl, hA⟩
  obtain ⟨hc, hs, hla, hlb⟩ := gapOk_iff.1 hok
  obtain ⟨s', hs'⟩ : ∃ s', (c - sh).tmod c = s' := ⟨_, rfl⟩
  have hsh : s' = if sh = 0 then 0 else c - sh := by rw [← hs']; exact turn_sh hc hs
  have HSH := Lib.hid hsh
  have hsb : 0 ≤ s' ∧ s' ≤ c - 1 := by rw [hsh]; split <;> omega
  clear hsh
  have z1 := wrap_id (c - sh) (by unfold I64; omega)
  have z2 := wrap_id s' (by unfold I64; omega)
  have c0 : ¬ c = 0 := by omega
  have hok2 := gapOk_turn hok HSH.out
  by_cases hemp : la = [] ∨ lb = []
  case pos =>
    refine (gap_any c sh aa ab ca cb la lb _ hra hrb hic).mono ?_
    rintro e w1 ⟨hG, hb⟩
    obtain rfl := gapA_none hok hemp hG
    clear hG
    have hra := hra.mono (ext_of_below hb)
    have hrb := hrb.mono (ext_of_below hb)
    have hA := hA.trans (hb.mono hA.size)
    clear hb
    have hX := Blk.new w1 #[.int .i64 0, .int .i64 1] 24
    have hb := below_box w1 (.cells #[.int .i64 0, .int .i64 1] 24)
    have hra := hra.mono (ext_of_below hb)
    have hrb := hrb.mono (ext_of_below hb)
    have hA := hA.trans (hb.mono hA.size)
    clear hb
    go_wp2_with fail
    generalize (w1.alloc (.cells #[.int .i64 0, .int .i64 1] 24)) = w2 at *
    refine (gap_any c s' ab aa cb ca lb la _ hrb hra hic).mono ?_
    rintro e w3 ⟨hG, hb⟩
    obtain rfl := gapA_none hok2 hemp.symm hG
    clear hG
    have hra := hra.mono (ext_of_below hb)
    have hrb := hrb.mono (ext_of_below hb)
    have hX := hX.below hb hX.lt
    have hA := hA.trans (hb.mono hA.size)
    clear hb
    have hY := Blk.new w3 #[.int .i64 0, .int .i64 1] 24
    have hb := below_box w3 (.cells #[.int .i64 0, .int .i64 1] 24)
    have hra := hra.mono (ext_of_below hb)
    have hrb := hrb.mono (ext_of_below hb)
    have hX := hX.below hb hX.lt
    have hA := hA.trans (hb.mono hA.size)
    clear hb
    go_upto_region 7 with fail
    generalize (w3.alloc (.cells #[.int .i64 0, .int .i64 1] 24)) = w4 at *
    have nqq := fun V => neR 0 1 V
    have eqq := fun V => eqR 0 1 V
    have D0 : Below w4.heap.size w4 w4.drew := (Below.refl _ _).drew
    by_cases hl0 : la.length = 0
    · have j1 : (la.length : Int) = 0 := by omega
      have HSV : Hid (∀ V, Below w4.heap.size w4 V → (fun w' : World => w'.cell? ⟨w1.heap.size, 0, none⟩ = some (.int .i64 0) ∧ w'.cell? ⟨w1.heap.size, 1, none⟩ = some (.int .i64 1)) V) := Lib.hid (fun V hV => ⟨ext_of_below hV _ _ (hX.cell 0 _ rfl), ext_of_below hV _ _ (hX.cell 1 _ rfl)⟩)
      have x0 := hX.cell 0 _ rfl
      have x1 := hX.cell 1 _ rfl
      have y0 := hY.cell 0 _ rfl
      have y1 := hY.cell 1 _ rfl
      have HAB := Lib.hid hA
      clear hra hrb hX hY hA
      go_upto_region 10 with fail
      clear x0 x1 y0 y1
      go_wp2_with fail
      refine wp_region_till (fun w' : World => w'.cell? ⟨w1.heap.size, 0, none⟩ = some (.int .i64 0) ∧ w'.cell? ⟨w1.heap.size, 1, none⟩ = some (.int .i64 1)) 7 (by kernel_rfl) (HSV.out _ D0) (fun hHeld => ?_)
      generalize w4.drew = wd at *
      refine Till.take 0 (some 107) (v := ?_) rfl rfl (by kernel_rfl) (by kernel_rfl) (by kernel_rfl) (by kernel_rfl) (fun _ _ _ h => h) (Or.inl ⟨by rfl, ?_⟩) (by assumption) ?_
      rotate_left
      · (intro w hSw; (try dsimp only at hSw); go_simp; try with_reducible rfl)
      try simp only [Act.put, List.setIfInBounds_toArray, List.set_cons_zero, List.set_cons_succ]
      refine Till.one 1 rfl (by kernel_rfl) (fun K hK => ?_)
      go_simp
      go_at_call 17
      refine (lwhole_any 0 _).mono ?_
      rintro e v1 ⟨rfl, hb1⟩
      have D1 := D0.trans (hb1.mono D0.size)
      have hh1 := HSV.out _ D1
      refine hK.out _ _ (fun _ => hh1) (fun hHeld1 => ?_)
      clear hK K hb1
      try simp only [Act.put, List.setIfInBounds_toArray, List.set_cons_zero, List.set_cons_succ]
      refine Till.take 2 (some 109) (v := ?_) rfl rfl (by kernel_rfl) (by kernel_rfl) (by kernel_rfl) (by kernel_rfl) (fun _ _ _ h => h) (Or.inl ⟨by rfl, ?_⟩) (by assumption) ?_
      rotate_left
      · (intro w hSw; (try dsimp only at hSw); go_simp; try with_reducible rfl)
      try simp only [Act.put, List.setIfInBounds_toArray, List.set_cons_zero, List.set_cons_succ]
      refine Till.take 3 (some 110) (v := ?_) rfl rfl (by kernel_rfl) (by kernel_rfl) (by kernel_rfl) (by kernel_rfl) (fun _ _ _ h => h) (Or.inl ⟨by rfl, ?_⟩) (by assumption) ?_
      rotate_left
      · (intro w hSw; (try dsimp only at hSw); go_simp; try with_reducible rfl)
      try simp only [Act.put, List.setIfInBounds_toArray, List.set_cons_zero, List.set_cons_succ]
      refine Till.one 4 rfl (by kernel_rfl) (fun K hK => ?_)
      go_simp
      go_at_call 8
      refine (turns_any _).mono ?_
      rintro e v2 ⟨rfl, hb2⟩
      have D2 := D1.trans (hb2.mono D1.size)
      have hh2 := HSV.out _ D2
      refine hK.out _ _ (fun _ => hh2) (fun hHeld2 => ?_)
      clear hK K hb2
      try simp only [Act.put, List.setIfInBounds_toArray, List.set_cons_zero, List.set_cons_succ]
      refine Till.take 5 (some 112) (v := ?_) rfl rfl (by kernel_rfl) (by kernel_rfl) (by kernel_rfl) (by kernel_rfl) (fun _ _ _ h => h) (Or.inl ⟨by rfl, ?_⟩) (by assumption) ?_
      rotate_left
      · (intro w hSw; (try dsimp only at hSw); go_simp; try with_reducible rfl)
      try simp only [Act.put, List.setIfInBounds_toArray, List.set_cons_zero, List.set_cons_succ]
      refine Till.take 6 (some 14) (v := ?_) rfl rfl (by kernel_rfl) (by kernel_rfl) (by kernel_rfl) (by kernel_rfl) (fun _ _ _ h => h) (Or.inl ⟨by rfl, ?_⟩) (by assumption) ?_
      rotate_left
      · (intro w hSw; (try dsimp only at hSw); go_simp; try with_reducible rfl)
      try simp only [Act.put, List.setIfInBounds_toArray, List.set_cons_zero, List.set_cons_succ]
      have HE := Lib.hid (HAB.out.trans (D2.mono HAB.out.size))
      refine Till.done (by kernel_rfl) ?_ _
      go_wp2
      go_ret
      exact ⟨rfl, HE.out⟩
    · have j1 : ¬ (la.length : Int) = 0 := by omega
      have j2 : (lb.length : Int) = 0 := by rcases hemp with h | h <;> simp [h] at *
      have HSV : Hid (∀ V, Below w4.heap.size w4 V → (fun w' : World => w'.cell? ⟨w1.heap.size, 0, none⟩ = some (.int .i64 0) ∧ w'.cell? ⟨w1.heap.size, 1, none⟩ = some (.int .i64 1)) V) := Lib.hid (fun V hV => ⟨ext_of_below hV _ _ (hX.cell 0 _ rfl), ext_of_below hV _ _ (hX.cell 1 _ rfl)⟩)
      have x0 := hX.cell 0 _ rfl
      have x1 := hX.cell 1 _ rfl
      have y0 := hY.cell 0 _ rfl
      have y1 := hY.cell 1 _ rfl
      have HAB := Lib.hid hA
      clear hra hrb hX hY hA
      go_upto_region 10 with fail
      clear x0 x1 y0 y1
      go_wp2_with fail
      refine wp_region_till (fun w' : World => w'.cell? ⟨w1.heap.size, 0, none⟩ = some (.int .i64 0) ∧ w'.cell? ⟨w1.heap.size, 1, none⟩ = some (.int .i64 1)) 7 (by kernel_rfl) (HSV.out _ D0) (fun hHeld => ?_)
      generalize w4.drew = wd at *
      refine Till.take 0 (some 107) (v := ?_) rfl rfl (by kernel_rfl) (by kernel_rfl) (by kernel_rfl) (by kernel_rfl) (fun _ _ _ h => h) (Or.inl ⟨by rfl, ?_⟩) (by assumption) ?_
      rotate_left
      · (intro w hSw; (try dsimp only at hSw); go_simp; try with_reducible rfl)
      try simp only [Act.put, List.setIfInBounds_toArray, List.set_cons_zero, List.set_cons_succ]
      refine Till.one 1 rfl (by kernel_rfl) (fun K hK => ?_)
      go_simp
      go_at_call 17
      refine (lwhole_any 0 _).mono ?_
      rintro e v1 ⟨rfl, hb1⟩
      have D1 := D0.trans (hb1.mono D0.size)
      have hh1 := HSV.out _ D1
      refine hK.out _ _ (fun _ => hh1) (fun hHeld1 => ?_)
      clear hK K hb1
      try simp only [Act.put, List.setIfInBounds_toArray, List.set_cons_zero, List.set_cons_succ]
      refine Till.take 2 (some 109) (v := ?_) rfl rfl (by kernel_rfl) (by kernel_rfl) (by kernel_rfl) (by kernel_rfl) (fun _ _ _ h => h) (Or.inl ⟨by rfl, ?_⟩) (by assumption) ?_
      rotate_left
      · (intro w hSw; (try dsimp only at hSw); go_simp; try with_reducible rfl)
      try simp only [Act.put, List.setIfInBounds_toArray, List.set_cons_zero, List.set_cons_succ]
      refine Till.take 3 (some 110) (v := ?_) rfl rfl (by kernel_rfl) (by kernel_rfl) (by kernel_rfl) (by kernel_rfl) (fun _ _ _ h => h) (Or.inl ⟨by rfl, ?_⟩) (by assumption) ?_
      rotate_left
      · (intro w hSw; (try dsimp only at hSw); go_simp; try with_reducible rfl)
      try simp only [Act.put, List.setIfInBounds_toArray, List.set_cons_zero, List.set_cons_succ]
      refine Till.one 4 rfl (by kernel_rfl) (fun K hK => ?_)
      go_simp
      go_at_call 8
      refine (turns_any _).mono ?_
      rintro e v2 ⟨rfl, hb2⟩
      have D2 := D1.trans (hb2.mono D1.size)
      have hh2 := HSV.out _ D2
      refine hK.out _ _ (fun _ => hh2) (fun hHeld2 => ?_)
      clear hK K hb2
      try simp only [Act.put, List.setIfInBounds_toArray, List.set_cons_zero, List.set_cons_succ]
      refine Till.take 5 (some 112) (v := ?_) rfl rfl (by kernel_rfl) (by kernel_rfl) (by kernel_rfl) (by kernel_rfl) (fun _ _ _ h => h) (Or.inl ⟨by rfl, ?_⟩) (by assumption) ?_
      rotate_left
      · (intro w hSw; (try dsimp only at hSw); go_simp; try with_reducible rfl)
      try simp only [Act.put, List.setIfInBounds_toArray, List.set_cons_zero, List.set_cons_succ]
      refine Till.take 6 (some 14) (v := ?_) rfl rfl (by kernel_rfl) (by kernel_rfl) (by kernel_rfl) (by kernel_rfl) (fun _ _ _ h => h) (Or.inl ⟨by rfl, ?_⟩) (by assumption) ?_
      rotate_left
      · (intro w hSw; (try dsimp only at hSw); go_simp; try with_reducible rfl)
      try simp only [Act.put, List.setIfInBounds_toArray, List.set_cons_zero, List.set_cons_succ]
      have HE := Lib.hid (HAB.out.trans (D2.mono HAB.out.size))
      refine Till.done (by kernel_rfl) ?_ _
      go_wp2
      go_ret
      exact ⟨rfl, HE.out⟩
  have ka : la.length ≠ 0 := fun h => hemp (.inl (List.length_eq_zero_iff.1 h))
  have kb : lb.length ≠ 0 := fun h => hemp (.inr (List.length_eq_zero_iff.1 h))
  clear hemp
  obtain ⟨X, hXX⟩ := gapA_some hok ka kb
  obtain ⟨Y, hYY⟩ := gapA_some hok2 kb ka
  obtain rfl := gapX_turn hok HSH.out hXX hYY
  have HALF := Lib.hid (gapX_half hok hXX)
  have HC := Lib.hid hc
  have HS := Lib.hid hs
  refine (gap_any c sh aa ab ca cb la lb _ hra hrb hic).mono ?_
  rintro e w1 ⟨hG, hb⟩
  obtain rfl := hXX.e _ hG
  clear hG
  have hra := hra.mono (ext_of_below hb)
  have hrb := hrb.mono (ext_of_below hb)
  have hA := hA.trans (hb.mono hA.size)
  clear hb
  have hX := Blk.new w1 #[.int .i64 X.n, .int .i64 X.d] 24
  have hb := below_box w1 (.cells #[.int .i64 X.n, .int .i64 X.d] 24)
  have hra := hra.mono (ext_of_below hb)
  have hrb := hrb.mono (ext_of_below hb)
  have hA := hA.trans (hb.mono hA.size)
  clear hb
  go_wp2_with fail
  generalize (w1.alloc (.cells #[.int .i64 X.n, .int .i64 X.d] 24)) = w2 at *
  refine (gap_any c s' ab aa cb ca lb la _ hrb hra hic).mono ?_
  rintro e w3 ⟨hG, hb⟩
  obtain rfl := hYY.e _ hG
  clear hG hYY
  have hra := hra.mono (ext_of_below hb)
  have hrb := hrb.mono (ext_of_below hb)
  have hX := hX.below hb hX.lt
  have hA := hA.trans (hb.mono hA.size)
  clear hb
  have hY := Blk.new w3 #[.int .i64 X.n, .int .i64 X.d] 24
  have hb := below_box w3 (.cells #[.int .i64 X.n, .int .i64 X.d] 24)
  have hra := hra.mono (ext_of_below hb)
  have hrb := hrb.mono (ext_of_below hb)
  have hX := hX.below hb hX.lt
  have hA := hA.trans (hb.mono hA.size)
  clear hb
  have nqq := fun V => neR X.n X.d V
  have j1 : ¬ (la.length : Int) = 0 := by omega
  have j2 : ¬ (lb.length : Int) = 0 := by omega
  have j3 : ((la.length : Int) == (0 : Int)) = false := beq_eq_false_iff_ne.2 (by omega)
  have j4 : ((lb.length : Int) == (0 : Int)) = false := beq_eq_false_iff_ne.2 (by omega)
  go_upto_region 7 with fail
  generalize (w3.alloc (.cells #[.int .i64 X.n, .int .i64 X.d] 24)) = w4 at *
  have x0 := hX.cell 0 _ rfl
  have x1 := hX.cell 1 _ rfl
  have y0 := hY.cell 0 _ rfl
  have y1 := hY.cell 1 _ rfl
  go_upto_region 11 with fail
  clear x0 x1 y0 y1 nqq hY
  have D0 : Below w4.heap.size w4 w4.drew := (Below.refl _ _).drew
  have HSV : Hid (∀ V, Below w4.heap.size w4 V → (fun w' : World => w'.cell? ⟨w1.heap.size, 0, none⟩ = some (.int .i64 X.n) ∧ w'.cell? ⟨w1.heap.size, 1, none⟩ = some (.int .i64 X.d)) V) := Lib.hid (fun V hV => ⟨ext_of_below hV _ _ (hX.cell 0 _ rfl), ext_of_below hV _ _ (hX.cell 1 _ rfl)⟩)
  have hm2 := mkQ_bd c (b := 2) (by omega) (by omega)
  have hm3 := mk_nabs c (d := 2) (by omega) 3600 (by omega)
  have HM := fun V => made_any c 2 V (by omega) (by omega)
  have HL := fun V => rl_any (mk c 2).n (mk c 2).d X.n X.d V (by unfold Num4; omega) (by unfold Den4; omega) hXX.n hXX.d
  rw [decide_eq_false (by have := HALF.out; omega)] at HL
  clear HALF
  obtain ⟨M, hM⟩ : ∃ M, (mk c 2).n = M := ⟨_, rfl⟩
  obtain ⟨N, hN⟩ : ∃ N, (mk c 2).d = N := ⟨_, rfl⟩
  unfold rtV at HM
  rw [hM, hN] at HM HL
  clear hM hN hm2 hm3
  go_cut [116] (fun sv wx => sv = .bool false ∧ Below w4.heap.size w4 wx)
  case first =>
    go_wp2_with fail
    refine wp_region_till (fun w' : World => w'.cell? ⟨w1.heap.size, 0, none⟩ = some (.int .i64 X.n) ∧ w'.cell? ⟨w1.heap.size, 1, none⟩ = some (.int .i64 X.d)) 4 (by kernel_rfl) (HSV.out _ D0) (fun hHeld => ?_)
    generalize w4.drew = wd at *
    refine Till.take 0 (some 113) (v := ?_) rfl rfl (by kernel_rfl) (by kernel_rfl) (by kernel_rfl) (by kernel_rfl) (fun _ _ _ h => h) (Or.inl ⟨by rfl, ?_⟩) (by assumption) ?_
    rotate_left
    · (intro w hSw; (try dsimp only at hSw); go_simp; try with_reducible rfl)
    try simp only [Act.put, List.setIfInBounds_toArray, List.set_cons_zero, List.set_cons_succ]
    refine Till.take 2 (some 115) (v := ?_) rfl rfl (by kernel_rfl) (by kernel_rfl) (by kernel_rfl) (by kernel_rfl) (fun _ _ _ h => h) (Or.inl ⟨by rfl, ?_⟩) (by assumption) ?_
    rotate_left
    · (intro w hSw; (try dsimp only at hSw); go_simp; try with_reducible rfl)
    try simp only [Act.put, List.setIfInBounds_toArray, List.set_cons_zero, List.set_cons_succ]
    refine Till.one 1 rfl (by kernel_rfl) (fun K hK => ?_)
    go_simp
    go_at_call 21
    refine (HM _).mono ?_
    rintro e v1 ⟨rfl, hb1⟩
    have D1 := D0.trans (hb1.mono D0.size)
    have hh1 := HSV.out _ D1
    refine hK.out _ _ (fun _ => hh1) (fun hHeld1 => ?_)
    clear hK K hb1
    try simp only [Act.put, List.setIfInBounds_toArray, List.set_cons_zero, List.set_cons_succ]
    refine Till.one 3 rfl (by kernel_rfl) (fun K hK => ?_)
    go_simp
    go_at_call 16
    refine (HL _).mono ?_
    rintro e v2 ⟨rfl, hb2⟩
    have D2 := D1.trans (hb2.mono D1.size)
    have hh2 := HSV.out _ D2
    refine hK.out _ _ (fun _ => hh2) (fun hHeld2 => ?_)
    clear hK K hb2
    try simp only [Act.put, List.setIfInBounds_toArray, List.set_cons_zero, List.set_cons_succ]
    refine Till.done (by kernel_rfl) ?_ _
    go_wp2_with fail
    go_meet
    exact ⟨rfl, D2⟩
  case rest =>
  obtain ⟨rfl, hb⟩ := hcut
  rename World => w5
  have hra := hra.mono (ext_of_below hb)
  have hrb := hrb.mono (ext_of_below hb)
  have hX := hX.below hb hX.lt
  have hA := hA.trans (hb.mono hA.size)
  clear hb HM HL HSV D0
  obtain ⟨ka1, hk1, e1, e2, e3⟩ := pick_ix i ka (by omega) hii
  obtain ⟨kb1, hk2, f1, f2, f3⟩ := pick_ix k kb (by omega) hik
  obtain ⟨aa', ca', he, -, -, hla'⟩ := id hra
  simp only [Value.slice.injEq, true_and] at he
  obtain ⟨rfl, rfl⟩ := he
  obtain ⟨ab', cb', he, -, -, hlb'⟩ := id hrb
  simp only [Value.slice.injEq, true_and] at he
  obtain ⟨rfl, rfl⟩ := he
  obtain ⟨b1, o1, rfl, ⟨p0, p1, p2, p3⟩, pi, pj⟩ := hla' ka1 hk1
  obtain ⟨b2, o2, rfl, ⟨q0, q1, q2, q3⟩, qi, qj⟩ := hlb' kb1 hk2
  have hPm := List.getElem_mem hk1
  have hQm := List.getElem_mem hk2
  clear hla' hlb'
  generalize la[ka1] = P at *
  generalize lb[kb1] = Q at *
  have hPs := (hla _ hPm).sized hc
  have hQs := (hlb _ hQm).sized hc
  have lt1 := cell_lt p0
  have lt2 := cell_lt q0
  simp only at lt1 lt2
  have y1 := IntWalk.i64_in (i.tmod la.length) (by omega)
  have y2 := IntWalk.i64_in (i.tmod la.length + la.length) (by omega)
  have y4 := IntWalk.i64_in (ka1 : Int) (by omega)
  have y5 := IntWalk.i64_in (k.tmod lb.length) (by omega)
  have y6 := IntWalk.i64_in (k.tmod lb.length + lb.length) (by omega)
  have y8 := IntWalk.i64_in (kb1 : Int) (by omega)
  have u1 : (0 : Int) ≤ (ka1 : Int) := Int.natCast_nonneg _
  have u2 : (ka1 : Int) < (la.length : Int) := by omega
  have u3 : (0 : Int) ≤ (kb1 : Int) := Int.natCast_nonneg _
  have u4 : (kb1 : Int) < (lb.length : Int) := by omega
  have D0 : Below w5.heap.size w5 w5.drew := (Below.refl _ _).drew
  have HSV : Hid (∀ V, Below w5.heap.size w5 V → (fun w' : World => w'.cell? ⟨b1, o1 + ka1 * 4, none⟩ = some (.int .i64 P.a.n) ∧ w'.cell? ⟨b1, o1 + ka1 * 4 + 1, none⟩ = some (.int .i64 P.a.d) ∧ w'.cell? ⟨b1, o1 + ka1 * 4 + 2, none⟩ = some (.int .i64 P.b.n) ∧ w'.cell? ⟨b1, o1 + ka1 * 4 + 3, none⟩ = some (.int .i64 P.b.d) ∧ w'.cell? ⟨b2, o2 + kb1 * 4, none⟩ = some (.int .i64 Q.a.n) ∧ w'.cell? ⟨b2, o2 + kb1 * 4 + 1, none⟩ = some (.int .i64 Q.a.d) ∧ w'.cell? ⟨b2, o2 + kb1 * 4 + 2, none⟩ = some (.int .i64 Q.b.n) ∧ w'.cell? ⟨b2, o2 + kb1 * 4 + 3, none⟩ = some (.int .i64 Q.b.d)) V) := Lib.hid (fun V hV => ⟨ext_of_below hV _ _ p0, ext_of_below hV _ _ p1, ext_of_below hV _ _ p2, ext_of_below hV _ _ p3, ext_of_below hV _ _ q0, ext_of_below hV _ _ q1, ext_of_below hV _ _ q2, ext_of_below hV _ _ q3⟩)
  clear p0 p1 p2 p3 q0 q1 q2 q3
  go_upto_region 13 with fail
  go_cut [21, 22] (fun s1 s2 wx => ∃ b1 b2, s1 = .pointer (some ⟨b1, 0, none⟩) ∧ s2 = .pointer (some ⟨b2, 0, none⟩) ∧ Blk wx b1 #[.int .i64 P.a.n, .int .i64 P.a.d, .int .i64 P.b.n, .int .i64 P.b.d] 41 ∧ Blk wx b2 #[.int .i64 Q.a.n, .int .i64 Q.a.d, .int .i64 Q.b.n, .int .i64 Q.b.d] 41 ∧ Below w5.heap.size w5 wx)
  case first =>
    clear hra hrb hX hA
    go_wp2_with fail
    refine wp_region_till (fun w' : World => w'.cell? ⟨b1, o1 + ka1 * 4, none⟩ = some (.int .i64 P.a.n) ∧ w'.cell? ⟨b1, o1 + ka1 * 4 + 1, none⟩ = some (.int .i64 P.a.d) ∧ w'.cell? ⟨b1, o1 + ka1 * 4 + 2, none⟩ = some (.int .i64 P.b.n) ∧ w'.cell? ⟨b1, o1 + ka1 * 4 + 3, none⟩ = some (.int .i64 P.b.d) ∧ w'.cell? ⟨b2, o2 + kb1 * 4, none⟩ = some (.int .i64 Q.a.n) ∧ w'.cell? ⟨b2, o2 + kb1 * 4 + 1, none⟩ = some (.int .i64 Q.a.d) ∧ w'.cell? ⟨b2, o2 + kb1 * 4 + 2, none⟩ = some (.int .i64 Q.b.n) ∧ w'.cell? ⟨b2, o2 + kb1 * 4 + 3, none⟩ = some (.int .i64 Q.b.d)) 29 (by kernel_rfl) (HSV.out _ D0) (fun hHeld => ?_)
    generalize w5.drew = wd at *
    refine Till.take 0 (some 117) (v := ?_) rfl rfl (by kernel_rfl) (by kernel_rfl) (by kernel_rfl) (by kernel_rfl) (fun _ _ _ h => h) (Or.inl ⟨by rfl, ?_⟩) (by assumption) ?_
    rotate_left
    · (intro w hSw; (try dsimp only at hSw); go_simp; try with_reducible rfl)
    try simp only [Act.put, List.setIfInBounds_toArray, List.set_cons_zero, List.set_cons_succ]
    refine Till.take 1 (some 118) (v := ?_) rfl rfl (by kernel_rfl) (by kernel_rfl) (by kernel_rfl) (by kernel_rfl) (fun _ _ _ h => h) (Or.inl ⟨by rfl, ?_⟩) (by assumption) ?_
    rotate_left
    · (intro w hSw; (try dsimp only at hSw); go_simp; try with_reducible rfl)
    try simp only [Act.put, List.setIfInBounds_toArray, List.set_cons_zero, List.set_cons_succ]
    refine Till.take 2 (some 119) (v := ?_) rfl rfl (by kernel_rfl) (by kernel_rfl) (by kernel_rfl) (by kernel_rfl) (fun _ _ _ h => h) (Or.inl ⟨by rfl, ?_⟩) (by assumption) ?_
    rotate_left
    · (intro w hSw; (try dsimp only at hSw); go_simp; try with_reducible rfl)
    try simp only [Act.put, List.setIfInBounds_toArray, List.set_cons_zero, List.set_cons_succ]
    refine Till.take 3 (some 120) (v := ?_) rfl rfl (by kernel_rfl) (by kernel_rfl) (by kernel_rfl) (by kernel_rfl) (fun _ _ _ h => h) (Or.inl ⟨by rfl, ?_⟩) (by assumption) ?_
    rotate_left
    · (intro w hSw; (try dsimp only at hSw); go_simp; try with_reducible rfl)
    try simp only [Act.put, List.setIfInBounds_toArray, List.set_cons_zero, List.set_cons_succ]
    refine Till.take 4 (some 121) (v := ?_) rfl rfl (by kernel_rfl) (by kernel_rfl) (by kernel_rfl) (by kernel_rfl) (fun _ _ _ h => h) (Or.inl ⟨by rfl, ?_⟩) (by assumption) ?_
    rotate_left
    · (intro w hSw; (try dsimp only at hSw); go_simp; try with_reducible rfl)
    try simp only [Act.put, List.setIfInBounds_toArray, List.set_cons_zero, List.set_cons_succ]
    refine Till.take 5 (some 122) (v := ?_) rfl rfl (by kernel_rfl) (by kernel_rfl) (by kernel_rfl) (by kernel_rfl) (fun _ _ _ h => h) (Or.inl ⟨by rfl, ?_⟩) (by assumption) ?_
    rotate_left
    · (intro w hSw; (try dsimp only at hSw); go_simp; try with_reducible rfl)
    try simp only [Act.put, List.setIfInBounds_toArray, List.set_cons_zero, List.set_cons_succ]
    refine Till.take 6 (some 123) (v := ?_) rfl rfl (by kernel_rfl) (by kernel_rfl) (by kernel_rfl) (by kernel_rfl) (fun _ _ _ h => h) (Or.inl ⟨by rfl, ?_⟩) (by assumption) ?_
    rotate_left
    · (intro w hSw; (try dsimp only at hSw); go_simp; try with_reducible rfl)
    try simp only [Act.put, List.setIfInBounds_toArray, List.set_cons_zero, List.set_cons_succ]
    refine Till.take 7 (some 124) (v := ?_) rfl rfl (by kernel_rfl) (by kernel_rfl) (by kernel_rfl) (by kernel_rfl) (fun _ _ _ h => h) (Or.inl ⟨by rfl, ?_⟩) (by assumption) ?_
    rotate_left
    · (intro w hSw; (try dsimp only at hSw); go_simp; try with_reducible rfl)
    try simp only [Act.put, List.setIfInBounds_toArray, List.set_cons_zero, List.set_cons_succ]
    refine Till.take 8 (some 125) (v := ?_) rfl rfl (by kernel_rfl) (by kernel_rfl) (by kernel_rfl) (by kernel_rfl) (fun _ _ _ h => h) (Or.inl ⟨by rfl, ?_⟩) (by assumption) ?_
    rotate_left
    · (intro w hSw; (try dsimp only at hSw); go_simp; try with_reducible rfl)
    try simp only [Act.put, List.setIfInBounds_toArray, List.set_cons_zero, List.set_cons_succ]
    refine Till.take 9 (some 126) (v := ?_) rfl rfl (by kernel_rfl) (by kernel_rfl) (by kernel_rfl) (by kernel_rfl) (fun _ _ _ h => h) (Or.inl ⟨by rfl, ?_⟩) (by assumption) ?_
    rotate_left
    · (intro w hSw; (try dsimp only at hSw); go_simp; try with_reducible rfl)
    try simp only [Act.put, List.setIfInBounds_toArray, List.set_cons_zero, List.set_cons_succ]
    refine Till.take 10 (some 127) (v := ?_) rfl rfl (by kernel_rfl) (by kernel_rfl) (by kernel_rfl) (by kernel_rfl) (fun _ _ _ h => h) (Or.inl ⟨by rfl, ?_⟩) (by assumption) ?_
    rotate_left
    · (intro w hSw; (try dsimp only at hSw); go_simp; try with_reducible rfl)
    try simp only [Act.put, List.setIfInBounds_toArray, List.set_cons_zero, List.set_cons_succ]
    refine Till.take 11 (some 128) (v := ?_) rfl rfl (by kernel_rfl) (by kernel_rfl) (by kernel_rfl) (by kernel_rfl) (fun _ _ _ h => h) (Or.inl ⟨by rfl, ?_⟩) (by assumption) ?_
    rotate_left
    · (intro w hSw; (try dsimp only at hSw); go_simp; try with_reducible rfl)
    try simp only [Act.put, List.setIfInBounds_toArray, List.set_cons_zero, List.set_cons_succ]
    refine Till.take 12 (some 129) (v := ?_) rfl rfl (by kernel_rfl) (by kernel_rfl) (by kernel_rfl) (by kernel_rfl) (fun _ _ _ h => h) (Or.inl ⟨by rfl, ?_⟩) (by assumption) ?_
    rotate_left
    · (intro w hSw; (try dsimp only at hSw); go_simp; try with_reducible rfl)
    try simp only [Act.put, List.setIfInBounds_toArray, List.set_cons_zero, List.set_cons_succ]
    refine Till.take 13 (some 130) (v := ?_) rfl rfl (by kernel_rfl) (by kernel_rfl) (by kernel_rfl) (by kernel_rfl) (fun _ _ _ h => h) (Or.inl ⟨by rfl, ?_⟩) (by assumption) ?_
    rotate_left
    · (intro w hSw; (try dsimp only at hSw); go_simp; try with_reducible rfl)
    try simp only [Act.put, List.setIfInBounds_toArray, List.set_cons_zero, List.set_cons_succ]
    refine Till.take 14 (some 131) (v := ?_) rfl rfl (by kernel_rfl) (by kernel_rfl) (by kernel_rfl) (by kernel_rfl) (fun _ _ _ h => h) (Or.inl ⟨by rfl, ?_⟩) (by assumption) ?_
    rotate_left
    · (intro w hSw; (try dsimp only at hSw); go_simp; try with_reducible rfl)
    try simp only [Act.put, List.setIfInBounds_toArray, List.set_cons_zero, List.set_cons_succ]
    refine Till.take 15 (some 132) (v := ?_) rfl rfl (by kernel_rfl) (by kernel_rfl) (by kernel_rfl) (by kernel_rfl) (fun _ _ _ h => h) (Or.inl ⟨by rfl, ?_⟩) (by assumption) ?_
    rotate_left
    · (intro w hSw; (try dsimp only at hSw); go_simp; try with_reducible rfl)
    try simp only [Act.put, List.setIfInBounds_toArray, List.set_cons_zero, List.set_cons_succ]
    refine Till.take 16 (some 133) (v := ?_) rfl rfl (by kernel_rfl) (by kernel_rfl) (by kernel_rfl) (by kernel_rfl) (fun _ _ _ h => h) (Or.inl ⟨by rfl, ?_⟩) (by assumption) ?_
    rotate_left
    · (intro w hSw; (try dsimp only at hSw); go_simp; try with_reducible rfl)
    try simp only [Act.put, List.setIfInBounds_toArray, List.set_cons_zero, List.set_cons_succ]
    refine Till.take 17 (some 134) (v := ?_) rfl rfl (by kernel_rfl) (by kernel_rfl) (by kernel_rfl) (by kernel_rfl) (fun _ _ _ h => h) (Or.inl ⟨by rfl, ?_⟩) (by assumption) ?_
    rotate_left
    · (intro w hSw; (try dsimp only at hSw); go_simp; try with_reducible rfl)
    try simp only [Act.put, List.setIfInBounds_toArray, List.set_cons_zero, List.set_cons_succ]
    refine Till.take 18 (some 135) (v := ?_) rfl rfl (by kernel_rfl) (by kernel_rfl) (by kernel_rfl) (by kernel_rfl) (fun _ _ _ h => h) (Or.inl ⟨by rfl, ?_⟩) (by assumption) ?_
    rotate_left
    · (intro w hSw; (try dsimp only at hSw); go_simp; try with_reducible rfl)
    try simp only [Act.put, List.setIfInBounds_toArray, List.set_cons_zero, List.set_cons_succ]
    refine Till.take 19 (some 136) (v := ?_) rfl rfl (by kernel_rfl) (by kernel_rfl) (by kernel_rfl) (by kernel_rfl) (fun _ _ _ h => h) (Or.inl ⟨by rfl, ?_⟩) (by assumption) ?_
    rotate_left
    · (intro w hSw; (try dsimp only at hSw); go_simp; try with_reducible rfl)
    try simp only [Act.put, List.setIfInBounds_toArray, List.set_cons_zero, List.set_cons_succ]
    refine Till.take 20 (some 137) (v := ?_) rfl rfl (by kernel_rfl) (by kernel_rfl) (by kernel_rfl) (by kernel_rfl) (fun _ _ _ h => h) (Or.inl ⟨by rfl, ?_⟩) (by assumption) ?_
    rotate_left
    · (intro w hSw; (try dsimp only at hSw); go_simp; try with_reducible rfl)
    try simp only [Act.put, List.setIfInBounds_toArray, List.set_cons_zero, List.set_cons_succ]
    refine Till.take 21 (some 138) (v := ?_) rfl rfl (by kernel_rfl) (by kernel_rfl) (by kernel_rfl) (by kernel_rfl) (fun _ _ _ h => h) (Or.inl ⟨by rfl, ?_⟩) (by assumption) ?_
    rotate_left
    · (intro w hSw; (try dsimp only at hSw); go_simp; try with_reducible rfl)
    try simp only [Act.put, List.setIfInBounds_toArray, List.set_cons_zero, List.set_cons_succ]
    refine Till.take 22 (some 139) (v := ?_) rfl rfl (by kernel_rfl) (by kernel_rfl) (by kernel_rfl) (by kernel_rfl) (fun _ _ _ h => h) (Or.inl ⟨by rfl, ?_⟩) (by assumption) ?_
    rotate_left
    · (intro w hSw; (try dsimp only at hSw); go_simp; try with_reducible rfl)
    try simp only [Act.put, List.setIfInBounds_toArray, List.set_cons_zero, List.set_cons_succ]
    refine Till.take 23 (some 140) (v := ?_) rfl rfl (by kernel_rfl) (by kernel_rfl) (by kernel_rfl) (by kernel_rfl) (fun _ _ _ h => h) (Or.inl ⟨by rfl, ?_⟩) (by assumption) ?_
    rotate_left
    · (intro w hSw; (try dsimp only at hSw); go_simp; try with_reducible rfl)
    try simp only [Act.put, List.setIfInBounds_toArray, List.set_cons_zero, List.set_cons_succ]
    refine Till.take 24 (some 141) (v := ?_) rfl rfl (by kernel_rfl) (by kernel_rfl) (by kernel_rfl) (by kernel_rfl) (fun _ _ _ h => h) (Or.inl ⟨by rfl, ?_⟩) (by assumption) ?_
    rotate_left
    · (intro w hSw; (try dsimp only at hSw); go_simp; try with_reducible rfl)
    try simp only [Act.put, List.setIfInBounds_toArray, List.set_cons_zero, List.set_cons_succ]
    refine Till.take 25 (some 142) (v := ?_) rfl rfl (by kernel_rfl) (by kernel_rfl) (by kernel_rfl) (by kernel_rfl) (fun _ _ _ h => h) (Or.inl ⟨by rfl, ?_⟩) (by assumption) ?_
    rotate_left
    · (intro w hSw; (try dsimp only at hSw); go_simp; try with_reducible rfl)
    try simp only [Act.put, List.setIfInBounds_toArray, List.set_cons_zero, List.set_cons_succ]
    refine Till.two 26 27 rfl rfl (by kernel_rfl) (fun K hK => ?_) (fun K hK => ?_)
    · skip
      go_simp
      have E1 := D0.alloc D0.size (.cells #[.int .i64 0, .int .i64 0, .int .i64 0, .int .i64 0] 41)
      have A1 := Blk.new wd #[.int .i64 0, .int .i64 0, .int .i64 0, .int .i64 0] 41
      have sz1 := D0.size
      have hh := HSV.out _ E1
      refine hK.out _ _ (fun _ => hh) (fun hHeld1 => ?_)
      clear hK K hh
      try simp only [Act.put, List.setIfInBounds_toArray, List.set_cons_zero, List.set_cons_succ]
      generalize hp1 : wd.heap.size = p1 at *
      generalize (wd.alloc (.cells #[.int .i64 0, .int .i64 0, .int .i64 0, .int .i64 0] 41)) = v1 at *
      refine Till.one 27 rfl (by kernel_rfl) (fun K hK => ?_)
      go_simp
      have E2 := E1.alloc E1.size (.cells #[.int .i64 0, .int .i64 0, .int .i64 0, .int .i64 0] 41)
      have A2 := Blk.new v1 #[.int .i64 0, .int .i64 0, .int .i64 0, .int .i64 0] 41
      have sz2 := E1.size
      have A1x2 := A1.alloc (.cells #[.int .i64 0, .int .i64 0, .int .i64 0, .int .i64 0] 41)
      have ltA12 := A1.lt
      have hh := HSV.out _ E2
      refine hK.out _ _ (fun _ => hh) (fun hHeld2 => ?_)
      clear hK K hh
      try simp only [Act.put, List.setIfInBounds_toArray, List.set_cons_zero, List.set_cons_succ]
      generalize hp2 : v1.heap.size = p2 at *
      generalize (v1.alloc (.cells #[.int .i64 0, .int .i64 0, .int .i64 0, .int .i64 0] 41)) = v2 at *
      refine Till.one 28 rfl (by kernel_rfl) (fun K hK => ?_)
      have g30 := A1x2.cell 0 _ rfl
      have k30 := A1x2.frozen 0
      have g31 := A1x2.cell 1 _ rfl
      have k31 := A1x2.frozen 1
      have g32 := A1x2.cell 2 _ rfl
      have k32 := A1x2.frozen 2
      have g33 := A1x2.cell 3 _ rfl
      have k33 := A1x2.frozen 3
      go_simp
      have B3 := putBlk A1x2 (.int .i64 P.a.n) (.int .i64 P.a.d) (.int .i64 P.b.n) (.int .i64 P.b.d)
      have E3 := put4B E2 (p := p1) (by omega) (.int .i64 P.a.n) (.int .i64 P.a.d) (.int .i64 P.b.n) (.int .i64 P.b.d)
      have A2y3 := othBlk A2 (p := p1) (by omega) (.int .i64 P.a.n) (.int .i64 P.a.d) (.int .i64 P.b.n) (.int .i64 P.b.d)
      have HB3 := Lib.hid B3
      have HE3 := Lib.hid E3
      have hh := HSV.out _ E3
      refine hK.out _ _ (fun _ => hh) (fun hHeld3 => ?_)
      clear hK K hh
      clear g30 k30 g31 k31 g32 k32 g33 k33
      try simp only [Act.put, List.setIfInBounds_toArray, List.set_cons_zero, List.set_cons_succ]
      generalize ((((v2.setCell ⟨p1, 0, none⟩ (.int .i64 P.a.n)).setCell ⟨p1, 1, none⟩ (.int .i64 P.a.d)).setCell ⟨p1, 2, none⟩ (.int .i64 P.b.n)).setCell ⟨p1, 3, none⟩ (.int .i64 P.b.d)) = v3 at *
      refine Till.one 29 rfl (by kernel_rfl) (fun K hK => ?_)
      have g40 := A2y3.cell 0 _ rfl
      have k40 := A2y3.frozen 0
      have g41 := A2y3.cell 1 _ rfl
      have k41 := A2y3.frozen 1
      have g42 := A2y3.cell 2 _ rfl
      have k42 := A2y3.frozen 2
      have g43 := A2y3.cell 3 _ rfl
      have k43 := A2y3.frozen 3
      go_simp
      have B4 := Lib.hid (putBlk A2y3 (.int .i64 Q.a.n) (.int .i64 Q.a.d) (.int .i64 Q.b.n) (.int .i64 Q.b.d))
      have E4 := Lib.hid (put4B E3 (p := p2) (by omega) (.int .i64 Q.a.n) (.int .i64 Q.a.d) (.int .i64 Q.b.n) (.int .i64 Q.b.d))
      have O4 := Lib.hid (othBlk B3 (p := p2) (by omega) (.int .i64 Q.a.n) (.int .i64 Q.a.d) (.int .i64 Q.b.n) (.int .i64 Q.b.d))
      refine hK.out _ _ (fun h => absurd rfl h) (fun _ => ?_)
      clear hK K g40 k40 g41 k41 g42 k42 g43 k43
      refine Till.done (by kernel_rfl) ?_ _
      go_wp2_with fail
      go_meet
      exact ⟨p1, p2, rfl, rfl, O4.out, B4.out, E4.out⟩
    · skip
      go_simp
      have E5 := D0.alloc D0.size (.cells #[.int .i64 0, .int .i64 0, .int .i64 0, .int .i64 0] 41)
      have A5 := Blk.new wd #[.int .i64 0, .int .i64 0, .int .i64 0, .int .i64 0] 41
      have sz5 := D0.size
      have hh := HSV.out _ E5
      refine hK.out _ _ (fun _ => hh) (fun hHeld5 => ?_)
      clear hK K hh
      try simp only [Act.put, List.setIfInBounds_toArray, List.set_cons_zero, List.set_cons_succ]
      generalize hp5 : wd.heap.size = p5 at *
      generalize (wd.alloc (.cells #[.int .i64 0, .int .i64 0, .int .i64 0, .int .i64 0] 41)) = v5 at *
      refine Till.one 26 rfl (by kernel_rfl) (fun K hK => ?_)
      go_simp
      have E6 := E5.alloc E5.size (.cells #[.int .i64 0, .int .i64 0, .int .i64 0, .int .i64 0] 41)
      have A6 := Blk.new v5 #[.int .i64 0, .int .i64 0, .int .i64 0, .int .i64 0] 41
      have sz6 := E5.size
      have A5x6 := A5.alloc (.cells #[.int .i64 0, .int .i64 0, .int .i64 0, .int .i64 0] 41)
      have ltA56 := A5.lt
      have hh := HSV.out _ E6
      refine hK.out _ _ (fun _ => hh) (fun hHeld6 => ?_)
      clear hK K hh
      try simp only [Act.put, List.setIfInBounds_toArray, List.set_cons_zero, List.set_cons_succ]
      generalize hp6 : v5.heap.size = p6 at *
      generalize (v5.alloc (.cells #[.int .i64 0, .int .i64 0, .int .i64 0, .int .i64 0] 41)) = v6 at *
      refine Till.one 28 rfl (by kernel_rfl) (fun K hK => ?_)
      have g70 := A6.cell 0 _ rfl
      have k70 := A6.frozen 0
      have g71 := A6.cell 1 _ rfl
      have k71 := A6.frozen 1
      have g72 := A6.cell 2 _ rfl
      have k72 := A6.frozen 2
      have g73 := A6.cell 3 _ rfl
      have k73 := A6.frozen 3
      go_simp
      have B7 := putBlk A6 (.int .i64 P.a.n) (.int .i64 P.a.d) (.int .i64 P.b.n) (.int .i64 P.b.d)
      have E7 := put4B E6 (p := p6) (by omega) (.int .i64 P.a.n) (.int .i64 P.a.d) (.int .i64 P.b.n) (.int .i64 P.b.d)
      have A5x6y7 := othBlk A5x6 (p := p6) (by omega) (.int .i64 P.a.n) (.int .i64 P.a.d) (.int .i64 P.b.n) (.int .i64 P.b.d)
      have HB7 := Lib.hid B7
      have HE7 := Lib.hid E7
      have hh := HSV.out _ E7
      refine hK.out _ _ (fun _ => hh) (fun hHeld7 => ?_)
      clear hK K hh
      clear g70 k70 g71 k71 g72 k72 g73 k73
      try simp only [Act.put, List.setIfInBounds_toArray, List.set_cons_zero, List.set_cons_succ]
      generalize ((((v6.setCell ⟨p6, 0, none⟩ (.int .i64 P.a.n)).setCell ⟨p6, 1, none⟩ (.int .i64 P.a.d)).setCell ⟨p6, 2, none⟩ (.int .i64 P.b.n)).setCell ⟨p6, 3, none⟩ (.int .i64 P.b.d)) = v7 at *
      refine Till.one 29 rfl (by kernel_rfl) (fun K hK => ?_)
      have g80 := A5x6y7.cell 0 _ rfl
      have k80 := A5x6y7.frozen 0
      have g81 := A5x6y7.cell 1 _ rfl
      have k81 := A5x6y7.frozen 1
      have g82 := A5x6y7.cell 2 _ rfl
      have k82 := A5x6y7.frozen 2
      have g83 := A5x6y7.cell 3 _ rfl
      have k83 := A5x6y7.frozen 3
      go_simp
      have B8 := Lib.hid (putBlk A5x6y7 (.int .i64 Q.a.n) (.int .i64 Q.a.d) (.int .i64 Q.b.n) (.int .i64 Q.b.d))
      have E8 := Lib.hid (put4B E7 (p := p5) (by omega) (.int .i64 Q.a.n) (.int .i64 Q.a.d) (.int .i64 Q.b.n) (.int .i64 Q.b.d))
      have O8 := Lib.hid (othBlk B7 (p := p5) (by omega) (.int .i64 Q.a.n) (.int .i64 Q.a.d) (.int .i64 Q.b.n) (.int .i64 Q.b.d))
      refine hK.out _ _ (fun h => absurd rfl h) (fun _ => ?_)
      clear hK K g80 k80 g81 k81 g82 k82 g83 k83
      refine Till.done (by kernel_rfl) ?_ _
      go_wp2_with fail
      go_meet
      exact ⟨p6, p5, rfl, rfl, O8.out, B8.out, E8.out⟩
  case rest =>
  obtain ⟨bp, bq, rfl, rfl, hP, hQ, hb⟩ := hcut
  rename World => w6
  have hra := hra.mono (ext_of_below hb)
  have hrb := hrb.mono (ext_of_below hb)
  have hX := hX.below hb hX.lt
  have hA := hA.trans (hb.mono hA.size)
  clear hb HSV D0 e1 e2 e3 f1 f2 f3 y1 y2 y4 y5 y6 y8 u1 u2 u3 u4
  have TT : ∃ T : Int, (turn.tmod 3 + 3).tmod 3 = T ∧ (0 ≤ T ∧ T ≤ 2) ∧ (-3 ≤ turn.tmod 3 ∧ turn.tmod 3 ≤ 3) := by
    have h1 := Int.tmod_lt_of_pos turn (show 0 < (3 : Int) by omega)
    have h2 := Int.lt_tmod_of_pos turn (show 0 < (3 : Int) by omega)
    have h3 := Int.emod_nonneg turn (show (3 : Int) ≠ 0 by omega)
    have h4 := Int.emod_lt_of_pos turn (show 0 < (3 : Int) by omega)
    exact ⟨turn % 3, emod_of turn 3 (by omega), by omega, by omega⟩
  obtain ⟨T, hT, hT1, hT2⟩ := TT
  have zt1 := wrap_id (turn.tmod 3) (by unfold I64; omega)
  have zt2 := wrap_id (turn.tmod 3 + 3) (by unfold I64; omega)
  have zt3 := wrap_id T (by unfold I64; omega)
  have zt4 := wrap_id (T - 1) (by unfold I64; omega)
  have mt := bd_mul (a := T - 1) (b := c) (A := 1) (B := 3600) (by omega) (by omega) (by omega)
  have zt5 := wrap_id ((T - 1) * c) (by unfold I64; omega)
  have zt6 := wrap_id (sh + (T - 1) * c) (by unfold I64; omega)
  have sp := sz_plus hQs.1 (t := sh + (T - 1) * c) (by omega)
  have k1 := hPs.1; have k2 := hPs.2; have k3 := hQs.1; have k4 := hQs.2
  have k21 := k2.1; have k22 := k2.2; have k31 := k3.1; have k32 := k3.2
  have sm := sz_minus (p := Q.a.n + (sh + (T - 1) * c) * Q.a.d) (q := Q.a.d) (a := P.b.n) (b := P.b.d) (by omega) (by omega) (by omega) (by omega)
  rw [Int.neg_mul] at sm
  have HAP := Lib.hid (fun (N D : Int) (hN : N = (Q.a.n + (sh + (T - 1) * c) * Q.a.d) * P.b.d - P.b.n * Q.a.d) (hD : D = Q.a.d * P.b.d) (h0 : 0 ≤ (mk N D).n) => gapX_apart hok hXX hPm hQm (t := T) (by omega) hN hD h0)
  obtain ⟨W, hW⟩ : ∃ W, sh + (T - 1) * c = W := ⟨_, rfl⟩
  rw [hW] at HAP sm sp zt6
  have zt7 := wrap_id (W * Q.a.d) (by unfold I64; omega)
  have zt8 := wrap_id (Q.a.n + W * Q.a.d) (by unfold I64; omega)
  have zt9 := wrap_id ((Q.a.n + W * Q.a.d) * P.b.d) (by unfold I64; omega)
  have zt10 := wrap_id (P.b.n * Q.a.d) (by unfold I64; omega)
  have zt11 := wrap_id ((Q.a.n + W * Q.a.d) * P.b.d - P.b.n * Q.a.d) (by unfold I64; omega)
  have zt12 := wrap_id (Q.a.d * P.b.d) (by unfold I64; omega)
  obtain ⟨NN, hNN⟩ : ∃ N, (Q.a.n + W * Q.a.d) * P.b.d - P.b.n * Q.a.d = N := ⟨_, rfl⟩
  obtain ⟨DD, hDD⟩ : ∃ D, Q.a.d * P.b.d = D := ⟨_, rfl⟩
  have hap := HAP.out NN DD hNN.symm hDD.symm
  have bN : -50000000000000000 ≤ NN ∧ NN ≤ 50000000000000000 := by omega
  have bD : 1 ≤ DD ∧ DD ≤ 1000000000000 := by omega
  have HM := fun V => made_any NN DD V (by omega) (by omega)
  have m1 := mk_nabs NN (d := DD) (by omega) 50000000000000000 bN
  have m2 := mk_dpos NN (d := DD) (by omega)
  have m3 := mk_dle NN (d := DD) (by omega)
  unfold rtV at HM
  have HLs := fun V => rl_any (mk NN DD).n (mk NN DD).d X.n X.d V (by unfold Num4; omega) (by unfold Den4; omega) hXX.n hXX.d
  obtain ⟨DN, hDN⟩ : ∃ N, (mk NN DD).n = N := ⟨_, rfl⟩
  obtain ⟨DE, hDE⟩ : ∃ N, (mk NN DD).d = N := ⟨_, rfl⟩
  rw [hDN, hDE] at HM HLs hap
  have HAPP := Lib.hid hap
  have p0 := hP.cell 0 _ rfl
  have p1 := hP.cell 1 _ rfl
  have p2 := hP.cell 2 _ rfl
  have p3 := hP.cell 3 _ rfl
  have q0 := hQ.cell 0 _ rfl
  have q1 := hQ.cell 1 _ rfl
  have q2 := hQ.cell 2 _ rfl
  have q3 := hQ.cell 3 _ rfl
  clear HAP hap hDN hDE m1 m2 m3 sp sm mt hPs hQs hPm hQm k1 k2 k3 k4 k21 k22 k31 k32
  go_wp2_with fail
  refine (HM _).mono ?_
  rintro e w7 ⟨rfl, hb⟩
  have hra := hra.mono (ext_of_below hb)
  have hrb := hrb.mono (ext_of_below hb)
  have hX := hX.below hb hX.lt
  have hA := hA.trans (hb.mono hA.size)
  clear hb p0 p1 p2 p3 q0 q1 q2 q3 hP hQ HM zt1 zt2 zt3 zt4 zt5 zt6 zt7 zt8 zt9 zt10 zt11 zt12 hNN hDD hW hT
  have hD := Blk.new w7 #[.int .i64 DN, .int .i64 DE] 24
  have hb := below_box w7 (.cells #[.int .i64 DN, .int .i64 DE] 24)
  have hra := hra.mono (ext_of_below hb)
  have hrb := hrb.mono (ext_of_below hb)
  have hX := hX.below hb hX.lt
  have hA := hA.trans (hb.mono hA.size)
  clear hb
  go_upto_region 16 with fail
  generalize (w7.alloc (.cells #[.int .i64 DN, .int .i64 DE] 24)) = w8 at *
  go_cut [188] (fun sv wx => sv = .bool false ∧ Below w8.heap.size w8 wx)
  case first =>
    have d0 := hD.cell 0 _ rfl
    have d1 := hD.cell 1 _ rfl
    have x0 := hX.cell 0 _ rfl
    have x1 := hX.cell 1 _ rfl
    by_cases hdn : 0 ≤ DN
    · have hlt := HAPP.out hdn
      rw [decide_eq_false (by omega)] at HLs
      clear hlt
      go_wp2_with fail
      refine (HLs _).mono ?_
      rintro e w9 ⟨rfl, hb⟩
      go_wp2_with fail
      go_meet
      exact ⟨rfl, hb⟩
    · go_wp2_with fail
      go_meet
      exact ⟨rfl, Below.refl _ _⟩
  case rest =>
  obtain ⟨rfl, hb⟩ := hcut
  rename World => w9
  have hra := hra.mono (ext_of_below hb)
  have hrb := hrb.mono (ext_of_below hb)
  have hX := hX.below hb hX.lt
  have hA := hA.trans (hb.mono hA.size)
  clear hb HLs HAPP hD
  have n0 := wrap_id ((la.length : Int) - 1) (by unfold I64; omega)
  have n3 : (la.length : Int) - 1 = ((la.length - 1 : Nat) : Int) := by omega
  have n4 : ¬ ((la.length - 1 : Nat) : Int) < 0 := by omega
  have n5 : la.length - 1 ≤ ca := by
    obtain ⟨a', c', he, h1, -⟩ := id hra
    simp only [Value.slice.injEq, true_and] at he
    obtain ⟨-, rfl⟩ := he
    omega
  have hrt := sts_take hra (la.length - 1) (by omega)
  have hokt := gapOk_take hok (la.length - 1)
  have htl : (la.take (la.length - 1)).length = la.length - 1 := by simp
  have HG := gap_any c sh (some ⟨b1, o1, none⟩) (some ⟨b2, o2, none⟩) ca cb (la.take (la.length - 1)) lb w9 (by rw [htl]; exact hrt) hrb hic
  rw [htl] at HG
  have HGG := Lib.hid HG
  clear HG hrt
  by_cases h1 : la.length = 1
  case pos =>
    have hnil : la.take (la.length - 1) = [] := List.length_eq_zero_iff.1 (by rw [htl]; omega)
    have H1 := Lib.hid h1
    clear h1
    go_wp2_with fail
    refine HGG.out.mono ?_
    rintro e w10 ⟨hG, hb⟩
    obtain rfl := gapA_none hokt (.inl hnil) hG
    have hA := hA.trans (hb.mono hA.size)
    have hb := below_box w10 (.cells #[.int .i64 0, .int .i64 1] 24)
    have hA := hA.trans (hb.mono hA.size)
    have HAA := Lib.hid hA
    clear hG hb HGG hX hra hrb hA n0 n3 n4 n5
    have h1 := H1.out
    have h1' : (la.length : Int) = 1 := by omega
    clear H1
    go_wp2_with fail
    generalize (w10.alloc (.cells #[.int .i64 0, .int .i64 1] 24)) = w11 at *
    refine (turns_any _).mono ?_
    rintro e wz ⟨rfl, hb⟩
    have hA := HAA.out.trans (hb.mono HAA.out.size)
    go_wp2
    go_ret
    exact ⟨rfl, hA⟩
  obtain ⟨Z, hZZ⟩ := gapA_some hokt (by rw [htl]; omega) kb
  have hZl := gapX_take hXX hZZ
  have HLz := fun V => rl_any Z.n Z.d X.n X.d V hZZ.n hZZ.d hXX.n hXX.d
  rw [decide_eq_false (by omega)] at HLz
  clear hZl
  go_wp2_with fail
  refine HGG.out.mono ?_
  rintro e w10 ⟨hG, hb⟩
  obtain rfl := hZZ.e _ hG
  have hX := hX.below hb hX.lt
  have hA := hA.trans (hb.mono hA.size)
  clear hb hG HGG hra hrb n0 n3 n4 n5
  have hZ := Blk.new w10 #[.int .i64 Z.n, .int .i64 Z.d] 24
  have hb := below_box w10 (.cells #[.int .i64 Z.n, .int .i64 Z.d] 24)
  have hX := hX.below hb hX.lt
  have hA := hA.trans (hb.mono hA.size)
  have HAA := Lib.hid hA
  clear hb hA
  have x0 := hX.cell 0 _ rfl
  have x1 := hX.cell 1 _ rfl
  have z0 := hZ.cell 0 _ rfl
  have z1 := hZ.cell 1 _ rfl
  have l1 : ¬ (la.length : Int) = 1 := by omega
  have l2 : ((la.length : Int) == (1 : Int)) = false := beq_eq_false_iff_ne.2 (by omega)
  clear hX hZ
  go_upto_region 19 with fail
  generalize (w10.alloc (.cells #[.int .i64 Z.n, .int .i64 Z.d] 24)) = w11 at *
  go_wp2_with fail
  refine (HLz _).mono ?_
  rintro e w12 ⟨rfl, hb⟩
  have HAB := Lib.hid (HAA.out.trans (hb.mono HAA.out.size))
  clear hb HAA HLz x0 x1 z0 z1
  go_wp2_with fail
  refine (turns_any _).mono ?_
  rintro e wz ⟨rfl, hb⟩
  have hA := HAB.out.trans (hb.mono HAB.out.size)
  go_wp2
  go_ret
  exact ⟨rfl, hA⟩
end Go.Proofs.Ytnldenjdbgfgmaa
