/- Shock of package strength, by its contract; no statement is proved here. -/
import Derived.Test.YtaldpalhckdcdaaGreatDoorLeSv
import Derived.Test.YtaldpalhckdcdaaGreatDoorToldSp
import Derived.Test.YtaldpalhckdcdaaGreatDoorTill
namespace Go.Proofs.YtaldpalhckdcdaaGreatDoor
open Go.RowKit Go.PlainAid
set_option linter.unusedVariables false
set_option linter.unusedSimpArgs false
attribute [local go_sem] Oper.semAt_some
theorem isFn_shock1 : IsFn 59 := fun xs w => by kernel_rfl
theorem max_ifS (a b : Int) : (if a < b then b else a) = max a b := by rw [Int.max_def]; split <;> split <;> omega

set_option maxHeartbeats 4000000 in
set_option maxRecDepth 100000 in
theorem shock1_any (ar : Option Addr) (kr : Nat) (a0 a1 a2 a3 : Option Addr) (k0 k1 k2 k3 : Nat) (b : Bat) (r : List Int) (n deg : Int) (p0 p1 p2 p3 : Nat) (w : World) (hb : RBat w (.agg #[.slice a0 b.oxides.length k0, .slice a1 b.mats.length k1, .slice a2 b.shares.length k2, .slice a3 b.props.length k3, .int .i64 b.redox.lo, .int .i64 b.redox.hi, .int .i64 b.wanted]) b) (hr : RInts w (.slice ar r.length kr) r)
    (hM : Blk w p0 #[.slice a0 b.oxides.length k0, .slice a1 b.mats.length k1, .slice a2 b.shares.length k2, .slice a3 b.props.length k3, .int .i64 b.redox.lo, .int .i64 b.redox.hi, .int .i64 b.wanted] 56) (hC : Blk w p1 #[.slice ar r.length kr] 36) (hN : Blk w p2 #[.int .i64 n] 3) (hD : Blk w p3 #[.int .i64 deg] 3) :
    Calls Tryz.prog 59 #[.pointer (some ⟨p0, 0, none⟩), .pointer (some ⟨p1, 0, none⟩), .pointer (some ⟨p2, 0, none⟩), .pointer (some ⟨p3, 0, none⟩)] w (Finds_sp (fun s => shockE (B1.valI b r n) deg = 0 ∧ s = shockV (B1.valI b r n) deg) (fun m => m ≠ 0 ∧ m = shockE (B1.valI b r n) deg) w) := by
  have hva := fun V (hV : Below w.heap.size w V) => B1.valI_any _ _ b r n V (hb.mono (ext_of_below hV)) (hr.mono (ext_of_below hV))
  have hvb := B1.valI_bd b r n
  generalize B1.valI b r n = vv at *
  obtain ⟨v, ve⟩ := vv
  have hvb : ve = 0 → v.lo ≤ v.hi ∧ -200000000000000 ≤ v.lo ∧ v.hi ≤ 200000000000000 := hvb
  have hA0 := below_boxS w (.cells #[.int .i64 0, .int .i64 0] 27)
  have hO0 := Blk.new w #[.int .i64 0, .int .i64 0] 27
  have hM0 := hM.alloc (.cells #[.int .i64 0, .int .i64 0] 27)
  have hC0 := hC.alloc (.cells #[.int .i64 0, .int .i64 0] 27)
  have hN0 := hN.alloc (.cells #[.int .i64 0, .int .i64 0] 27)
  have hD0 := hD.alloc (.cells #[.int .i64 0, .int .i64 0] 27)
  clear hM hC hN hD hb hr
  go_enter Tryz.func59, Tryz.ntmps59
  have m0 := hM0.cell 0 _ rfl
  have m1 := hM0.cell 1 _ rfl
  have m2 := hM0.cell 2 _ rfl
  have m3 := hM0.cell 3 _ rfl
  have m4 := hM0.cell 4 _ rfl
  have m5 := hM0.cell 5 _ rfl
  have m6 := hM0.cell 6 _ rfl
  have r0 := hC0.cell 0 _ rfl
  have n0 := hN0.cell 0 _ rfl
  go_wp2_with fail
  generalize w.alloc (.cells #[.int .i64 0, .int .i64 0] 27) = w0 at *
  refine (hva _ hA0).mono ?_
  rintro e w1 ⟨rfl, hb1⟩
  simp only
  have hA1 := (hA0.trans (hb1.mono hA0.size)).alloc (hA0.trans (hb1.mono hA0.size)).size (.cells #[.int .i64 v.lo, .int .i64 v.hi] 27)
  have hM1 := (hM0.below hb1 hM0.lt).alloc (.cells #[.int .i64 v.lo, .int .i64 v.hi] 27)
  have hC1 := (hC0.below hb1 hC0.lt).alloc (.cells #[.int .i64 v.lo, .int .i64 v.hi] 27)
  have hN1 := (hN0.below hb1 hN0.lt).alloc (.cells #[.int .i64 v.lo, .int .i64 v.hi] 27)
  have hD1 := (hD0.below hb1 hD0.lt).alloc (.cells #[.int .i64 v.lo, .int .i64 v.hi] 27)
  have hO1 := (hO0.below hb1 hO0.lt).alloc (.cells #[.int .i64 v.lo, .int .i64 v.hi] 27)
  have hV1 := Blk.new w1 #[.int .i64 v.lo, .int .i64 v.hi] 27
  clear hA0 hb1 hva hM0 hC0 hN0 hD0 hO0 m0 m1 m2 m3 m4 m5 m6 r0 n0
  go_wp2_with fail
  have lw1 := hV1.lt
  generalize w1.alloc (.cells #[.int .i64 v.lo, .int .i64 v.hi] 27) = w2 at *
  generalize w1.heap.size = pV at *
  refine (calls_p (needOK_in ve _ 9)).mono ?_
  rintro e w3 ⟨(⟨hc, rfl⟩ | ⟨hc, rfl⟩), hb3⟩
  case inr =>
    have HC := Lib.hid hc
    have HE := Lib.hid (show shockE (v, ve) deg = ve by rw [shockE, if_pos hc])
    have HB2 := Lib.hid (hA1.trans (hb3.mono hA1.size))
    clear hc hb3 hA1 hV1 lw1 hvb hM1 hC1 hN1 hD1 hO1
    go_wp2
    exact ⟨rfl, HB2.out, .inr ⟨_, rfl, HC.out, HE.out.symm⟩⟩
  have HV := Lib.hid (hvb hc)
  have HV0 := Lib.hid hc
  have hA3 := hA1.trans (hb3.mono hA1.size)
  have hD3 := hD1.below hb3 hD1.lt
  have hO3 := hO1.below hb3 hO1.lt
  have hV3 := hV1.below hb3 hV1.lt
  clear hvb hc hb3 hA1 hV1 lw1 hM1 hC1 hN1 hD1 hO1
  have q0 := hD3.cell 0 _ rfl
  go_wp2_with fail
  refine (calls_p (between_in deg 0 1000 _ 9)).mono ?_
  rintro e w3 ⟨rfl, rfl⟩
  cases hbe : btw deg 0 1000 with
  | false =>
    have HE := Lib.hid (show shockE (v, ve) deg = 1 by rw [shockE, if_neg (fun z => z HV0.out), if_pos hbe])
    have HB := Lib.hid hA3
    clear hD3 hO3 hV3 hA3
    go_wp2_with fail
    refine (calls_p (need_no 1 _ 9)).mono ?_
    rintro e w3 ⟨rfl, rfl⟩
    go_wp2
    exact ⟨rfl, HB.out, .inr ⟨_, rfl, by decide, HE.out.symm⟩⟩
  | true =>
  have HE := Lib.hid (show shockE (v, ve) deg = 0 by rw [shockE, if_neg (fun z => z HV0.out), if_neg (by rw [hbe]; decide)])
  have hd := btw_true.1 hbe
  clear hbe
  go_wp2_with fail
  refine (calls_p (need_ok 1 _ 9)).mono ?_
  rintro e w3 ⟨rfl, rfl⟩
  go_wp2_with fail
  obtain ⟨v1, v2, v3⟩ := HV.out
  obtain ⟨⟨u1, u2⟩, ⟨u3, u4⟩, u5, u6⟩ := shA_bd (x := v.lo) (deg := deg) (by omega) hd
  obtain ⟨⟨t1, t2⟩, ⟨t3, t4⟩, t5, t6⟩ := shA_bd (x := v.hi) (deg := deg) (by omega) hd
  have hdn := fun V => down_any (shA v.lo deg) 78 V (by omega) (by omega)
  have hup := fun V => up7_any (shA v.hi deg) 78 V (by omega) (by omega)
  have y1 : IntKind.i64.wrap (35 * max 0 v.lo) = 35 * max 0 v.lo := (IntWalk.i64_left _).trans (wrap_id _ (by unfold I64; omega))
  have y2 : IntKind.i64.wrap (35 * max 0 v.lo * deg) = shA v.lo deg := (IntWalk.i64_left _).trans (wrap_id _ (by change I64 (shA v.lo deg); unfold I64; omega))
  have y3 : IntKind.i64.wrap (35 * max 0 v.hi) = 35 * max 0 v.hi := (IntWalk.i64_left _).trans (wrap_id _ (by unfold I64; omega))
  have y4 : IntKind.i64.wrap (35 * max 0 v.hi * deg) = shA v.hi deg := (IntWalk.i64_left _).trans (wrap_id _ (by change I64 (shA v.hi deg); unfold I64; omega))
  have HM1 := Lib.hid (max_ifS 0 v.lo)
  have HM2 := Lib.hid (max_ifS 0 v.hi)
  have x0 := hV3.cell 0 _ rfl
  have x1 := hV3.cell 1 _ rfl
  have D0 : Below w3.heap.size w3 w3.drew := (Below.refl _ _).drew
  have HSV : Hid (∀ V, Below w3.heap.size w3 V → (fun w' : World => w'.cell? ⟨pV, 0, none⟩ = some (.int .i64 v.lo) ∧ w'.cell? ⟨pV, 1, none⟩ = some (.int .i64 v.hi) ∧ w'.cell? ⟨p3, 0, none⟩ = some (.int .i64 deg)) V) := Lib.hid (fun V hV => ⟨ext_of_below hV _ _ x0, ext_of_below hV _ _ x1, ext_of_below hV _ _ q0⟩)
  clear u1 u2 u3 u4 u5 u6 t1 t2 t3 t4 t5 t6 v1 v2 v3
  have lO := hO3.lt
  refine wp_region_till (fun w' : World => w'.cell? ⟨pV, 0, none⟩ = some (.int .i64 v.lo) ∧ w'.cell? ⟨pV, 1, none⟩ = some (.int .i64 v.hi) ∧ w'.cell? ⟨p3, 0, none⟩ = some (.int .i64 deg)) 17 (by kernel_rfl) (HSV.out _ D0) (fun hHeld => ?_)
  clear x0 x1 q0
  refine Till.take 0 (some 19) (v := ?_) rfl rfl (by kernel_rfl) (by kernel_rfl) (by kernel_rfl) (by kernel_rfl) (fun _ _ _ h => h) (Or.inl ⟨by rfl, ?_⟩) (by assumption) ?_
  rotate_left
  · (intro w hSw; (try dsimp only at hSw); go_simp; try with_reducible rfl)
  try simp only [Act.put, List.setIfInBounds_toArray, List.set_cons_zero, List.set_cons_succ]
  refine Till.take 1 (some 20) (v := ?_) rfl rfl (by kernel_rfl) (by kernel_rfl) (by kernel_rfl) (by kernel_rfl) (fun _ _ _ h => h) (Or.inl ⟨by rfl, ?_⟩) (by assumption) ?_
  rotate_left
  · (intro w hSw; (try dsimp only at hSw); go_simp; try with_reducible rfl)
  try simp only [Act.put, List.setIfInBounds_toArray, List.set_cons_zero, List.set_cons_succ]
  refine Till.take 2 (some 21) (v := ?_) rfl rfl (by kernel_rfl) (by kernel_rfl) (by kernel_rfl) (by kernel_rfl) (fun _ _ _ h => h) (Or.inl ⟨by rfl, ?_⟩) (by assumption) ?_
  rotate_left
  · (intro w hSw; (try dsimp only at hSw); go_simp; try with_reducible rfl)
  try simp only [Act.put, List.setIfInBounds_toArray, List.set_cons_zero, List.set_cons_succ]
  try simp only [HM1.out]
  refine Till.take 3 (some 22) (v := ?_) rfl rfl (by kernel_rfl) (by kernel_rfl) (by kernel_rfl) (by kernel_rfl) (fun _ _ _ h => h) (Or.inl ⟨by rfl, ?_⟩) (by assumption) ?_
  rotate_left
  · (intro w hSw; (try dsimp only at hSw); go_simp; try with_reducible rfl)
  try simp only [Act.put, List.setIfInBounds_toArray, List.set_cons_zero, List.set_cons_succ]
  refine Till.take 4 (some 23) (v := ?_) rfl rfl (by kernel_rfl) (by kernel_rfl) (by kernel_rfl) (by kernel_rfl) (fun _ _ _ h => h) (Or.inl ⟨by rfl, ?_⟩) (by assumption) ?_
  rotate_left
  · (intro w hSw; (try dsimp only at hSw); go_simp; try with_reducible rfl)
  try simp only [Act.put, List.setIfInBounds_toArray, List.set_cons_zero, List.set_cons_succ]
  refine Till.take 5 (some 24) (v := ?_) rfl rfl (by kernel_rfl) (by kernel_rfl) (by kernel_rfl) (by kernel_rfl) (fun _ _ _ h => h) (Or.inl ⟨by rfl, ?_⟩) (by assumption) ?_
  rotate_left
  · (intro w hSw; (try dsimp only at hSw); go_simp; try with_reducible rfl)
  try simp only [Act.put, List.setIfInBounds_toArray, List.set_cons_zero, List.set_cons_succ]
  refine Till.take 6 (some 25) (v := ?_) rfl rfl (by kernel_rfl) (by kernel_rfl) (by kernel_rfl) (by kernel_rfl) (fun _ _ _ h => h) (Or.inl ⟨by rfl, ?_⟩) (by assumption) ?_
  rotate_left
  · (intro w hSw; (try dsimp only at hSw); go_simp; try with_reducible rfl)
  try simp only [Act.put, List.setIfInBounds_toArray, List.set_cons_zero, List.set_cons_succ]
  try simp only [y1, y2]
  refine Till.take 8 (some 27) (v := ?_) rfl rfl (by kernel_rfl) (by kernel_rfl) (by kernel_rfl) (by kernel_rfl) (fun _ _ _ h => h) (Or.inl ⟨by rfl, ?_⟩) (by assumption) ?_
  rotate_left
  · (intro w hSw; (try dsimp only at hSw); go_simp; try with_reducible rfl)
  try simp only [Act.put, List.setIfInBounds_toArray, List.set_cons_zero, List.set_cons_succ]
  refine Till.take 9 (some 28) (v := ?_) rfl rfl (by kernel_rfl) (by kernel_rfl) (by kernel_rfl) (by kernel_rfl) (fun _ _ _ h => h) (Or.inl ⟨by rfl, ?_⟩) (by assumption) ?_
  rotate_left
  · (intro w hSw; (try dsimp only at hSw); go_simp; try with_reducible rfl)
  try simp only [Act.put, List.setIfInBounds_toArray, List.set_cons_zero, List.set_cons_succ]
  refine Till.take 10 (some 29) (v := ?_) rfl rfl (by kernel_rfl) (by kernel_rfl) (by kernel_rfl) (by kernel_rfl) (fun _ _ _ h => h) (Or.inl ⟨by rfl, ?_⟩) (by assumption) ?_
  rotate_left
  · (intro w hSw; (try dsimp only at hSw); go_simp; try with_reducible rfl)
  try simp only [Act.put, List.setIfInBounds_toArray, List.set_cons_zero, List.set_cons_succ]
  try simp only [HM2.out]
  refine Till.take 11 (some 30) (v := ?_) rfl rfl (by kernel_rfl) (by kernel_rfl) (by kernel_rfl) (by kernel_rfl) (fun _ _ _ h => h) (Or.inl ⟨by rfl, ?_⟩) (by assumption) ?_
  rotate_left
  · (intro w hSw; (try dsimp only at hSw); go_simp; try with_reducible rfl)
  try simp only [Act.put, List.setIfInBounds_toArray, List.set_cons_zero, List.set_cons_succ]
  refine Till.take 12 (some 31) (v := ?_) rfl rfl (by kernel_rfl) (by kernel_rfl) (by kernel_rfl) (by kernel_rfl) (fun _ _ _ h => h) (Or.inl ⟨by rfl, ?_⟩) (by assumption) ?_
  rotate_left
  · (intro w hSw; (try dsimp only at hSw); go_simp; try with_reducible rfl)
  try simp only [Act.put, List.setIfInBounds_toArray, List.set_cons_zero, List.set_cons_succ]
  refine Till.take 13 (some 32) (v := ?_) rfl rfl (by kernel_rfl) (by kernel_rfl) (by kernel_rfl) (by kernel_rfl) (fun _ _ _ h => h) (Or.inl ⟨by rfl, ?_⟩) (by assumption) ?_
  rotate_left
  · (intro w hSw; (try dsimp only at hSw); go_simp; try with_reducible rfl)
  try simp only [Act.put, List.setIfInBounds_toArray, List.set_cons_zero, List.set_cons_succ]
  refine Till.take 14 (some 33) (v := ?_) rfl rfl (by kernel_rfl) (by kernel_rfl) (by kernel_rfl) (by kernel_rfl) (fun _ _ _ h => h) (Or.inl ⟨by rfl, ?_⟩) (by assumption) ?_
  rotate_left
  · (intro w hSw; (try dsimp only at hSw); go_simp; try with_reducible rfl)
  try simp only [Act.put, List.setIfInBounds_toArray, List.set_cons_zero, List.set_cons_succ]
  try simp only [y3, y4]
  refine Till.one 7 rfl (by kernel_rfl) (fun K hK => ?_)
  go_simp
  go_at_call 61
  refine (hdn _).mono ?_
  rintro e w4 ⟨rfl, hb4⟩
  have D1 := D0.trans (hb4.mono D0.size)
  refine hK.out _ _ (fun _ => HSV.out _ D1) (fun hHeld2 => ?_)
  clear hK K hb4 hdn
  try simp only [Act.put, List.setIfInBounds_toArray, List.set_cons_zero, List.set_cons_succ]
  refine Till.one 15 rfl (by kernel_rfl) (fun K hK => ?_)
  go_simp
  go_at_call 62
  refine (hup _).mono ?_
  rintro e w5 ⟨rfl, hb5⟩
  have D2 := D1.trans (hb5.mono D1.size)
  refine hK.out _ _ (fun _ => HSV.out _ D2) (fun hHeld3 => ?_)
  clear hK K hb5 hup
  try simp only [Act.put, List.setIfInBounds_toArray, List.set_cons_zero, List.set_cons_succ]
  have hh := HSV.out _ D2
  dsimp only at hh
  refine Till.take 16 (some 35) (v := ?_) rfl rfl (by kernel_rfl) (by kernel_rfl) (by kernel_rfl) (by kernel_rfl) (fun _ _ _ h => h) (Or.inl ⟨by rfl, ?_⟩) (by assumption) ?_
  rotate_left
  · (intro w hSw; (try dsimp only at hSw); go_simp; try with_reducible rfl)
  try simp only [Act.put, List.setIfInBounds_toArray, List.set_cons_zero, List.set_cons_succ]
  have hO4 := hO3.below D2 lO
  have z0 := hO4.cell 0 _ rfl
  have z1 := hO4.cell 1 _ rfl
  have f0 := hO4.frozen 0
  have f1 := hO4.frozen 1
  have HF : Hid (Blk ((w5.setCell ⟨w.heap.size, 0, none⟩ (.int .i64 (shA v.lo deg / 78))).setCell ⟨w.heap.size, 1, none⟩ (.int .i64 ((shA v.hi deg + 78 - 1) / 78))) w.heap.size #[.int .i64 (shA v.lo deg / 78), .int .i64 ((shA v.hi deg + 78 - 1) / 78)] 27) := Lib.hid (by
    have := (hO4.set 0 (.int .i64 (shA v.lo deg / 78))).set 1 (.int .i64 ((shA v.hi deg + 78 - 1) / 78))
    simpa using this)
  have hAF := hA3.trans (D2.mono hA3.size)
  have HB := Lib.hid ((hAF.setCell (p := ⟨w.heap.size, 0, none⟩) (by simp only; omega) (.int .i64 (shA v.lo deg / 78))).setCell (p := ⟨w.heap.size, 1, none⟩) (by simp only; omega) (.int .i64 ((shA v.hi deg + 78 - 1) / 78)))
  clear hh hHeld hHeld2 hHeld3 D0 D1 D2 hO3 hO4 hA3 hAF HSV hD3 hV3 y1 y2 y3 y4
  refine Till.one 17 rfl (by kernel_rfl) (fun K hK => ?_)
  go_simp
  refine hK.out _ _ (fun h => absurd rfl h) (fun _ => ?_)
  clear hK K
  refine Till.done (by kernel_rfl) ?_ _
  go_wp2
  have r0 := HF.out.cell 0 _ rfl
  have r1 := HF.out.cell 1 _ rfl
  simp only [List.getElem_toArray, List.getElem_cons_zero, List.getElem_cons_succ] at r0 r1
  exact bodyPost_ret (v := .agg #[.int .i64 (shA v.lo deg / 78), .int .i64 ((shA v.hi deg + 78 - 1) / 78)]) (by simp [results, Tryz.results59, go_sem, r0, r1]) rfl ⟨HB.out, .inl ⟨shockV (v, ve) deg, rfl, HE.out, rfl⟩⟩

/-- what Shock answers. -/
def ShockA (w : World) (v : Sp × Int) (deg : Int) (e : Ending) (w' : World) : Prop := e = .returned (.tuple #[.agg #[.int .i64 (shockS v deg).1.lo, .int .i64 (shockS v deg).1.hi], .int .i64 (shockS v deg).2]) ∧ Below w.heap.size w w'

set_option maxHeartbeats 4000000 in
set_option maxRecDepth 100000 in
theorem shockP_any (vb vr : Value) (b : Bat) (r : List Int) (n deg : Int) (w : World) (hb : RBat w vb b) (hr : RInts w vr r) :
    Calls Tryz.prog 16 #[vb, vr, .int .i64 n, .int .i64 deg] w (ShockA w (B1.valI b r n) deg) := by
  have hmf : ∀ (fn : Fn) (first cap : Array Value) (w : World), (Instr.makeFunc fn first cap).run Tryz.prog w = .ok (.func fn first cap) w := fun _ _ _ _ => rfl
  have hb0 := hb
  have hr0 := hr
  obtain ⟨a0, k0, a1, k1, a2, k2, a3, k3, rfl⟩ := hb.agg
  obtain ⟨ar, kr, rfl, -, -, -⟩ := hr
  have hA4 : Below w.heap.size w (((((w.alloc (.cells #[.slice a0 b.oxides.length k0, .slice a1 b.mats.length k1, .slice a2 b.shares.length k2, .slice a3 b.props.length k3, .int .i64 b.redox.lo, .int .i64 b.redox.hi, .int .i64 b.wanted] 56)).alloc (.cells #[.slice ar r.length kr] 36)).alloc (.cells #[.int .i64 n] 3)).alloc (.cells #[.int .i64 deg] 3)).alloc (.cells #[.int .i64 0, .int .i64 0] 27)) := (((((below_boxS w _).alloc (by simp only [World.size_alloc]; omega) _).alloc (by simp only [World.size_alloc]; omega) _).alloc (by simp only [World.size_alloc]; omega) _).alloc (by simp only [World.size_alloc]; omega) _)
  have hP0 := (((((Blk.new w #[.slice a0 b.oxides.length k0, .slice a1 b.mats.length k1, .slice a2 b.shares.length k2, .slice a3 b.props.length k3, .int .i64 b.redox.lo, .int .i64 b.redox.hi, .int .i64 b.wanted] 56).alloc (.cells #[.slice ar r.length kr] 36)).alloc (.cells #[.int .i64 n] 3)).alloc (.cells #[.int .i64 deg] 3)).alloc (.cells #[.int .i64 0, .int .i64 0] 27))
  have hP1 := ((((Blk.new (w.alloc (.cells #[.slice a0 b.oxides.length k0, .slice a1 b.mats.length k1, .slice a2 b.shares.length k2, .slice a3 b.props.length k3, .int .i64 b.redox.lo, .int .i64 b.redox.hi, .int .i64 b.wanted] 56)) #[.slice ar r.length kr] 36).alloc (.cells #[.int .i64 n] 3)).alloc (.cells #[.int .i64 deg] 3)).alloc (.cells #[.int .i64 0, .int .i64 0] 27))
  have hP2 := (((Blk.new ((w.alloc (.cells #[.slice a0 b.oxides.length k0, .slice a1 b.mats.length k1, .slice a2 b.shares.length k2, .slice a3 b.props.length k3, .int .i64 b.redox.lo, .int .i64 b.redox.hi, .int .i64 b.wanted] 56)).alloc (.cells #[.slice ar r.length kr] 36)) #[.int .i64 n] 3).alloc (.cells #[.int .i64 deg] 3)).alloc (.cells #[.int .i64 0, .int .i64 0] 27))
  have hP3 := ((Blk.new (((w.alloc (.cells #[.slice a0 b.oxides.length k0, .slice a1 b.mats.length k1, .slice a2 b.shares.length k2, .slice a3 b.props.length k3, .int .i64 b.redox.lo, .int .i64 b.redox.hi, .int .i64 b.wanted] 56)).alloc (.cells #[.slice ar r.length kr] 36)).alloc (.cells #[.int .i64 n] 3)) #[.int .i64 deg] 3).alloc (.cells #[.int .i64 0, .int .i64 0] 27))
  have hP4 := (Blk.new ((((w.alloc (.cells #[.slice a0 b.oxides.length k0, .slice a1 b.mats.length k1, .slice a2 b.shares.length k2, .slice a3 b.props.length k3, .int .i64 b.redox.lo, .int .i64 b.redox.hi, .int .i64 b.wanted] 56)).alloc (.cells #[.slice ar r.length kr] 36)).alloc (.cells #[.int .i64 n] 3)).alloc (.cells #[.int .i64 deg] 3)) #[.int .i64 0, .int .i64 0] 27)
  simp only [World.size_alloc] at hP1 hP2 hP3 hP4
  go_enter Tryz.func16, Tryz.ntmps16
  go_wp2_with fail
  generalize (((((w.alloc (.cells #[.slice a0 b.oxides.length k0, .slice a1 b.mats.length k1, .slice a2 b.shares.length k2, .slice a3 b.props.length k3, .int .i64 b.redox.lo, .int .i64 b.redox.hi, .int .i64 b.wanted] 56)).alloc (.cells #[.slice ar r.length kr] 36)).alloc (.cells #[.int .i64 n] 3)).alloc (.cells #[.int .i64 deg] 3)).alloc (.cells #[.int .i64 0, .int .i64 0] 27)) = W2 at *
  have hE := ext_of_below hA4
  refine (told_sp_any 59 #[.pointer (some ⟨w.heap.size, 0, none⟩), .pointer (some ⟨w.heap.size + 1, 0, none⟩), .pointer (some ⟨w.heap.size + 1 + 1, 0, none⟩), .pointer (some ⟨w.heap.size + 1 + 1 + 1, 0, none⟩)] W2 (fun s => shockE (B1.valI b r n) deg = 0 ∧ s = shockV (B1.valI b r n) deg) (fun m => m ≠ 0 ∧ m = shockE (B1.valI b r n) deg) isFn_shock1
    (fun W hW => shock1_any ar kr a0 a1 a2 a3 k0 k1 k2 k3 b r n deg _ _ _ _ W ((hb0.mono hE).mono (ext_of_below hW)) ((hr0.mono hE).mono (ext_of_below hW)) (hP0.below hW hP0.lt) (hP1.below hW hP1.lt) (hP2.below hW hP2.lt) (hP3.below hW hP3.lt))).mono ?_
  have lP := hP4.lt
  clear hP0 hP1 hP2 hP3 hE hb0 hr0
  generalize B1.valI b r n = vv at *
  rintro e w' ⟨hb, (⟨u, rfl, hw0, rfl⟩ | ⟨m, rfl, hn, rfl⟩)⟩
  · have HX := Lib.hid (show shockS vv deg = (shockV vv deg, 0) by rw [shockS, if_pos hw0])
    generalize shockV vv deg = u at *
    have hP := hP4.below hb lP
    have z0 := hP.cell 0 _ rfl
    have z1 := hP.cell 1 _ rfl
    have f0 := hP.frozen 0
    have f1 := hP.frozen 1
    have hAF := hA4.trans (hb.mono hA4.size)
    have HF := Lib.hid ((hAF.setCell (p := ⟨w.heap.size + 1 + 1 + 1 + 1, 0, none⟩) (by simp only; omega) (.int .i64 u.lo)).setCell (p := ⟨w.heap.size + 1 + 1 + 1 + 1, 1, none⟩) (by simp only; omega) (.int .i64 u.hi))
    have HP : Hid (Blk ((w'.setCell ⟨w.heap.size + 1 + 1 + 1 + 1, 0, none⟩ (.int .i64 u.lo)).setCell ⟨w.heap.size + 1 + 1 + 1 + 1, 1, none⟩ (.int .i64 u.hi)) (w.heap.size + 1 + 1 + 1 + 1) #[.int .i64 u.lo, .int .i64 u.hi] 27) := Lib.hid (by
      have := (hP.set 0 (.int .i64 u.lo)).set 1 (.int .i64 u.hi)
      simpa using this)
    clear hb hA4 hAF hP hP4 hw0
    go_wp2
    have r0 := HP.out.cell 0 _ rfl
    have r1 := HP.out.cell 1 _ rfl
    simp only [List.getElem_toArray, List.getElem_cons_zero, List.getElem_cons_succ] at r0 r1
    exact bodyPost_ret (v := .tuple #[.agg #[.int .i64 u.lo, .int .i64 u.hi], .int .i64 0]) (by simp only [results, Tryz.results16]; simp [go_sem, r0, r1]) rfl ⟨by rw [HX.out], HF.out⟩
  · have HX := Lib.hid (show shockS vv deg = (⟨0, 0⟩, shockE vv deg) by rw [shockS, if_neg hn])
    generalize shockE vv deg = er at *
    have hP := hP4.below hb lP
    have z0 := hP.cell 0 _ rfl
    have z1 := hP.cell 1 _ rfl
    have f0 := hP.frozen 0
    have f1 := hP.frozen 1
    have hAF := hA4.trans (hb.mono hA4.size)
    have HF := Lib.hid ((hAF.setCell (p := ⟨w.heap.size + 1 + 1 + 1 + 1, 0, none⟩) (by simp only; omega) (.int .i64 0)).setCell (p := ⟨w.heap.size + 1 + 1 + 1 + 1, 1, none⟩) (by simp only; omega) (.int .i64 0))
    have HP : Hid (Blk ((w'.setCell ⟨w.heap.size + 1 + 1 + 1 + 1, 0, none⟩ (.int .i64 0)).setCell ⟨w.heap.size + 1 + 1 + 1 + 1, 1, none⟩ (.int .i64 0)) (w.heap.size + 1 + 1 + 1 + 1) #[.int .i64 0, .int .i64 0] 27) := Lib.hid (by
      have := (hP.set 0 (.int .i64 0)).set 1 (.int .i64 0)
      simpa using this)
    clear hb hA4 hAF hP hP4 hn
    go_wp2
    have r0 := HP.out.cell 0 _ rfl
    have r1 := HP.out.cell 1 _ rfl
    simp only [List.getElem_toArray, List.getElem_cons_zero, List.getElem_cons_succ] at r0 r1
    exact bodyPost_ret (v := .tuple #[.agg #[.int .i64 0, .int .i64 0], .int .i64 er]) (by simp only [results, Tryz.results16]; simp [go_sem, r0, r1]) rfl ⟨by rw [HX.out], HF.out⟩

end Go.Proofs.YtaldpalhckdcdaaGreatDoor
