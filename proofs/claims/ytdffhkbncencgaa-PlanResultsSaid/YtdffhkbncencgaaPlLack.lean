/- What lacks of each order, and what is paid for it: works.lacks, works.fines; no statement is proved here. -/
import Derived.Test.YtdffhkbncencgaaPlPlus
namespace Go.Proofs.Ytdffhkbncencgaa
open Go.RowKit Go.PlainAid
set_option linter.unusedVariables false
set_option linter.unusedSimpArgs false

def lackI (s : Sn) (got : List Int) (i : Nat) : Int := max 0 ((odAt s i).qty - g got i)
def lackK (s : Sn) (got : List Int) (k : Nat) : List Int := (List.range k).map (lackI s got)
def lackL (s : Sn) (got : List Int) : List Int := lackK s got s.ods.length
theorem lackK_step (s : Sn) (got : List Int) (k : Nat) : lackK s got (k + 1) = lackK s got k ++ [lackI s got k] := by unfold lackK; rw [List.range_succ, List.map_append]; rfl
theorem lackK_len (s : Sn) (got : List Int) (k : Nat) : (lackK s got k).length = k := by unfold lackK; simp
theorem odAt_bd {s : Sn} (ok : OkS s) (i : Nat) : (0 ≤ (odAt s i).qty ∧ (odAt s i).qty ≤ 1000000) ∧ 0 ≤ (odAt s i).pen ∧ (odAt s i).pen ≤ 1000000 := by
  unfold odAt
  cases h : s.ods[i]? with
  | none => simp
  | some x => have := ok.od x (List.mem_of_getElem? h); simp only [Option.getD_some]; omega
theorem lackI_bd {s : Sn} (ok : OkS s) {got : List Int} {i : Nat} (h : 0 ≤ g got i) : 0 ≤ lackI s got i ∧ lackI s got i ≤ 1000000 := by
  have := odAt_bd ok i
  unfold lackI; omega
theorem vis_outL {S : Nat → Prop} {w : World} : Ext (vis S w) w := fun p x hp => (vis_cell.1 hp).2
theorem max_ifP (a b : Int) : (if a < b then b else a) = max a b := by rw [Int.max_def]; split <;> split <;> omega
theorem max_ifQ (a b : Int) : (if b < a then a else b) = max a b := by rw [Int.max_def]; split <;> split <;> omega

set_option maxHeartbeats 8000000 in
set_option maxRecDepth 100000 in
theorem lacks_any (s : Sn) (d : SA) (v7 : Value) (got : List Int) (w : World) (h : SnD w s d) (ok : OkS s) (hg : got.length = 8) (hgb : ∀ i, i < 8 → 0 ≤ g got i ∧ g got i ≤ 1000000000000) :
    Calls Try.prog 51 #[.agg #[.int .i64 s.days, .slice d.a1 s.arts.length d.c1, .slice d.a2 s.ovens.length d.c2, .slice d.a3 s.mks.length d.c3, .slice d.a4 s.jobs.length d.c4, .slice d.a5 s.cols.length d.c5, .slice d.a6 s.ods.length d.c6, v7], .agg (cnC got)] w fun e w' => (∃ v, e = .returned v ∧ RInts (vis (w.heap.size ≤ ·) w') v (lackL s got)) ∧ Below w.heap.size w w' := by
  have hno : s.ods.length ≤ 8 := by have := ok.nd; have := ok.na; omega
  obtain ⟨ii, hi, hzz⟩ := Option.map_eq_some_iff.1 info_int
  obtain ⟨hz0, hz1⟩ := Prod.mk.inj hzz
  obtain ⟨hz1, hz2⟩ := Prod.mk.inj hz1
  clear hzz
  have A0 := below_box w (.cells #[.int .i64 s.days, .slice d.a1 s.arts.length d.c1, .slice d.a2 s.ovens.length d.c2, .slice d.a3 s.mks.length d.c3, .slice d.a4 s.jobs.length d.c4, .slice d.a5 s.cols.length d.c5, .slice d.a6 s.ods.length d.c6, v7] 63)
  have A1 := A0.alloc (by simp) (.cells #[.int .i64 (g got 0), .int .i64 (g got 1), .int .i64 (g got 2), .int .i64 (g got 3), .int .i64 (g got 4), .int .i64 (g got 5), .int .i64 (g got 6), .int .i64 (g got 7)] 92)
  have b0 := (Blk.new w #[.int .i64 s.days, .slice d.a1 s.arts.length d.c1, .slice d.a2 s.ovens.length d.c2, .slice d.a3 s.mks.length d.c3, .slice d.a4 s.jobs.length d.c4, .slice d.a5 s.cols.length d.c5, .slice d.a6 s.ods.length d.c6, v7] 63).alloc (.cells #[.int .i64 (g got 0), .int .i64 (g got 1), .int .i64 (g got 2), .int .i64 (g got 3), .int .i64 (g got 4), .int .i64 (g got 5), .int .i64 (g got 6), .int .i64 (g got 7)] 92)
  have b1 : Blk _ _ (cnC got) 92 := Blk.new (w.alloc (.cells #[.int .i64 s.days, .slice d.a1 s.arts.length d.c1, .slice d.a2 s.ovens.length d.c2, .slice d.a3 s.mks.length d.c3, .slice d.a4 s.jobs.length d.c4, .slice d.a5 s.cols.length d.c5, .slice d.a6 s.ods.length d.c6, v7] 63)) #[.int .i64 (g got 0), .int .i64 (g got 1), .int .i64 (g got 2), .int .i64 (g got 3), .int .i64 (g got 4), .int .i64 (g got 5), .int .i64 (g got 6), .int .i64 (g got 7)] 92
  simp only [World.size_alloc] at b1
  have y6 := b0.cell 6 _ rfl
  go_enter Try.func51, Try.ntmps51
  rw [show (cnC got) = #[.int .i64 (g got 0), .int .i64 (g got 1), .int .i64 (g got 2), .int .i64 (g got 3), .int .i64 (g got 4), .int .i64 (g got 5), .int .i64 (g got 6), .int .i64 (g got 7)] from rfl]
  go_upto_region 3 with (fail)
  generalize (w.alloc (.cells #[.int .i64 s.days, .slice d.a1 s.arts.length d.c1, .slice d.a2 s.ovens.length d.c2, .slice d.a3 s.mks.length d.c3, .slice d.a4 s.jobs.length d.c4, .slice d.a5 s.cols.length d.c5, .slice d.a6 s.ods.length d.c6, v7] 63)).alloc (.cells #[.int .i64 (g got 0), .int .i64 (g got 1), .int .i64 (g got 2), .int .i64 (g got 3), .int .i64 (g got 4), .int .i64 (g got 5), .int .i64 (g got 6), .int .i64 (g got 7)] 92) = W at *
  clear A0 y6
  obtain ⟨p6, hp6⟩ : ∃ p, p = d.a6 := ⟨_, rfl⟩
  rw [← hp6]
  have HP6 := Lib.hid hp6
  clear hp6
  have hWs := b1.lt
  go_loopw [5, 12] (fun v i wr => ∃ (k : Nat) (l : List Int), k ≤ s.ods.length ∧ i = .int .i64 k ∧ Hid (l = lackK s got k) ∧ wr.ownsRow W.heap.size 3 1 v l.length (l.map (Value.int .i64)) ∧ Below W.heap.size W wr) (fun _ i _ => s.ods.length - (intOf i).toNat)
  case atStart => exact ⟨0, [], Nat.zero_le _, rfl, Lib.hid rfl, World.ownsRow_nil _ _ _ _, Below.refl _ _⟩
  case round =>
    obtain ⟨k, l, hk, rfl, hx, hown, hb⟩ := hrel
    have hE := A1.trans (hb.mono (by omega))
    have hll : l.length = k := by rw [hx.out]; exact lackK_len s got k
    by_cases hlt : k < s.ods.length
    · have hst := lackK_step s got k
      obtain ⟨a', c', he, -, -, hl⟩ := id h.ods
      simp only [Value.slice.injEq, true_and] at he
      obtain ⟨ha, hc'⟩ := he
      obtain ⟨b1', o1, he1, ⟨q0, q1, q2, q3⟩, -⟩ := hl k hlt
      have hEx := ext_of_below hE
      have k0 := hEx _ _ q0
      have k1 := hEx _ _ q1
      have k2 := hEx _ _ q2
      have k3 := hEx _ _ q3
      simp only at k0 k1 k2 k3
      have hod : odAt s k = s.ods[k] := by unfold odAt; simp [List.getElem?_eq_getElem hlt]
      have hqb := odAt_bd ok k
      have hgk := hgb k (by omega)
      have hli : lackI s got k = max 0 ((s.ods[k]).qty - g got k) := by unfold lackI; rw [hod]
      rw [hod] at hqb
      have j1 : (0 : Int) ≤ (k : Int) := Int.natCast_nonneg _
      have j2 : (k : Int) < (s.ods.length : Int) := by omega
      have j3 : (k : Int) < 8 := by omega
      have hp : p6 = some ⟨b1', o1, none⟩ := by rw [HP6.out, ha, he1]
      rw [hp]
      clear hl q0 q1 q2 q3 he1 ha hc' hEx hod hp
      generalize s.ods[k] = o at *
      obtain ⟨gv, hgv⟩ : ∃ v, g got k = v := ⟨_, rfl⟩
      obtain ⟨lv, hlv⟩ : ∃ v, lackI s got k = v := ⟨_, rfl⟩
      rw [hlv, hgv] at hli
      rw [hlv] at hst
      have c9 := (cn_cell (b1.below hb b1.lt) (n := k) (by omega)).1
      rw [hgv] at c9 hgk
      have HX : Hid (l ++ [lv] = lackK s got (k + 1)) := Lib.hid (by rw [hst, hx.out])
      have HLI := Lib.hid hli
      have HQB := Lib.hid hqb
      clear hst hx hgv hlv hli
      have hwb : ∀ q, u5.ownBlock = some q → W.heap.size ≤ q := fun q hq => (hown.lt q hq).1
      have dO := Blk.new wr #[.int .i64 o.art, .int .i64 o.qty, .int .i64 o.due, .int .i64 o.pen] 55
      have hown1 := hown.alloc (.cells #[.int .i64 o.art, .int .i64 o.qty, .int .i64 o.due, .int .i64 o.pen] 55)
      have hb1 := hb.alloc hb.size (.cells #[.int .i64 o.art, .int .i64 o.qty, .int .i64 o.due, .int .i64 o.pen] 55)
      have c9a := ext_of_below (below_box wr (.cells #[.int .i64 o.art, .int .i64 o.qty, .int .i64 o.due, .int .i64 o.pen] 55)) _ _ c9
      have hol := own_lt hown
      go_upto_region 5 with (fail)
      clear k0 k1 k2 k3 hown hE
      have hKOW : W.heap.size ≤ wr.heap.size := hb.size
      have hnO : u5.ownBlock ≠ some wr.heap.size := fun e => by have := hol _ e; omega
      clear hol hb c9
      generalize hKO : wr.heap.size = KO at *
      clear hKO
      generalize wr.alloc (.cells #[.int .i64 o.art, .int .i64 o.qty, .int .i64 o.due, .int .i64 o.pen] 55) = W1 at *
      have D0 : Below W1.heap.size W1 W1.drew := (Below.refl _ _).drew
      have eO := dO.below D0 dO.lt
      have e9 := ext_of_below D0 _ _ c9a
      have hown2 := own_below hown1 D0 (own_lt hown1)
      have hb2 := hb1.trans (D0.mono hb1.size)
      refine wp_region_till (fun w' : World => w'.cell? ⟨KO, 1, none⟩ = some (.int .i64 o.qty) ∧ w'.cell? ⟨w.heap.size + 1, k, none⟩ = some (.int .i64 gv)) 11 (by kernel_rfl) ⟨eO.cell 1 _ rfl, e9⟩ (fun hHeld => ?_)
      clear D0 dO c9a hown1 hb1
      generalize W1.drew = W2 at *
      refine Till.take 0 (some 17) (v := ?_) rfl rfl (by kernel_rfl) (by kernel_rfl) (by kernel_rfl) (by kernel_rfl) (fun _ _ _ h => h) (Or.inl ⟨by rfl, ?_⟩) (by assumption) ?_
      rotate_left
      · (intro w hSw; (try dsimp only at hSw); go_simp; try with_reducible rfl)
      try simp only [Act.put, List.setIfInBounds_toArray, List.set_cons_zero, List.set_cons_succ]
      refine Till.take 1 (some 18) (v := ?_) rfl rfl (by kernel_rfl) (by kernel_rfl) (by kernel_rfl) (by kernel_rfl) (fun _ _ _ h => h) (Or.inl ⟨by rfl, ?_⟩) (by assumption) ?_
      rotate_left
      · (intro w hSw; (try dsimp only at hSw); go_simp; try with_reducible rfl)
      try simp only [Act.put, List.setIfInBounds_toArray, List.set_cons_zero, List.set_cons_succ]
      refine Till.take 2 (some 19) (v := ?_) rfl rfl (by kernel_rfl) (by kernel_rfl) (by kernel_rfl) (by kernel_rfl) (fun _ _ _ h => h) (Or.inl ⟨by rfl, ?_⟩) (by assumption) ?_
      rotate_left
      · (intro w hSw; (try dsimp only at hSw); go_simp; try with_reducible rfl)
      try simp only [Act.put, List.setIfInBounds_toArray, List.set_cons_zero, List.set_cons_succ]
      refine Till.take 3 (some 20) (v := ?_) rfl rfl (by kernel_rfl) (by kernel_rfl) (by kernel_rfl) (by kernel_rfl) (fun _ _ _ h => h) (Or.inl ⟨by rfl, ?_⟩) (by assumption) ?_
      rotate_left
      · (intro w hSw; (try dsimp only at hSw); go_simp; try with_reducible rfl)
      try simp only [Act.put, List.setIfInBounds_toArray, List.set_cons_zero, List.set_cons_succ]
      refine Till.take 4 (some 21) (v := ?_) rfl rfl (by kernel_rfl) (by kernel_rfl) (by kernel_rfl) (by kernel_rfl) (fun _ _ _ h => h) (Or.inl ⟨by rfl, ?_⟩) (by assumption) ?_
      rotate_left
      · (intro w hSw; (try dsimp only at hSw); go_simp; try with_reducible rfl)
      try simp only [Act.put, List.setIfInBounds_toArray, List.set_cons_zero, List.set_cons_succ]
      refine Till.take 5 (some 22) (v := ?_) rfl rfl (by kernel_rfl) (by kernel_rfl) (by kernel_rfl) (by kernel_rfl) (fun _ _ _ h => h) (Or.inl ⟨by rfl, ?_⟩) (by assumption) ?_
      rotate_left
      · (intro w hSw; (try dsimp only at hSw); go_simp; try with_reducible rfl)
      try simp only [Act.put, List.setIfInBounds_toArray, List.set_cons_zero, List.set_cons_succ]
      refine Till.take 6 (some 23) (v := ?_) rfl rfl (by kernel_rfl) (by kernel_rfl) (by kernel_rfl) (by kernel_rfl) (fun _ _ _ h => h) (Or.inl ⟨by rfl, ?_⟩) (by assumption) ?_
      rotate_left
      · (intro w hSw; (try dsimp only at hSw); go_simp; try with_reducible rfl)
      try simp only [Act.put, List.setIfInBounds_toArray, List.set_cons_zero, List.set_cons_succ]
      have hw : IntKind.i64.wrap (o.qty - gv) = o.qty - gv := by have := HQB.out; exact IntWalk.i64_in _ (by omega)
      rw [hw]
      refine Till.take 7 (some 24) (v := ?_) rfl rfl (by kernel_rfl) (by kernel_rfl) (by kernel_rfl) (by kernel_rfl) (fun _ _ _ h => h) (Or.inl ⟨by rfl, ?_⟩) (by assumption) ?_
      rotate_left
      · (intro w hSw; (try dsimp only at hSw); go_simp; try with_reducible rfl)
      try simp only [Act.put, List.setIfInBounds_toArray, List.set_cons_zero, List.set_cons_succ]
      rw [show (if gv < o.qty then o.qty - gv else 0) = lv from by rw [HLI.out]; split <;> omega]
      have hds : W2.heap.size = W2.heap.size := rfl
      refine Till.one 8 rfl (by kernel_rfl) (fun K hK => ?_)
      go_simp
      have fO := eO.alloc (.cells #[.int .i64 lv] 3)
      have f9 := ext_of_below (below_box W2 (.cells #[.int .i64 lv] 3)) _ _ e9
      have hown3 := hown2.alloc (.cells #[.int .i64 lv] 3)
      have hb3 := hb2.alloc hb2.size (.cells #[.int .i64 lv] 3)
      have hS3 : (fun w' : World => w'.cell? ⟨KO, 1, none⟩ = some (.int .i64 o.qty) ∧ w'.cell? ⟨w.heap.size + 1, k, none⟩ = some (.int .i64 gv)) (W2.alloc (.cells #[.int .i64 lv] 3)) := ⟨fO.cell 1 _ rfl, f9⟩
      refine hK.out _ _ (fun _ => hS3) (fun _ => ?_)
      clear hK K hds
      try simp only [Act.put, List.setIfInBounds_toArray, List.set_cons_zero, List.set_cons_succ]
      refine Till.one 9 rfl (by kernel_rfl) (fun K hK => ?_)
      refine step_append_lies _ (by rfl) _ _ _ (by rfl) W.heap.size 3 ii _ 1 8 Try.underlying30 hi hz0 hz1 hz2 rfl (by omega) _ l.length _ (by rfl) hown3 ⟨W2.heap.size, 0, none⟩ 1 1 [.int .i64 lv] (by rfl) (by rfl) (by have := cell_one_new W2 (.int .i64 lv) 3; simpa using this) (by simp [Value.oneCell']) (by omega) (by unfold maxLen; omega) (by omega) (by have := hb3.size; omega) _ rfl ?_
      intro g6 k6 w6 hown6 hgrow6 hat6 hlt6
      have hb7 := hb3.grown hgrow6 (by have := hb3.size; omega) (fun q hq => hwb q hq)
      have hS6 : (fun w' : World => w'.cell? ⟨KO, 1, none⟩ = some (.int .i64 o.qty) ∧ w'.cell? ⟨w.heap.size + 1, k, none⟩ = some (.int .i64 gv)) w6 := ⟨hgrow6.cell hS3.1 (fun e => hnO e.symm), hgrow6.cell hS3.2 (fun e => by have := hwb _ e.symm; simp only at this; omega)⟩
      refine hK.out _ _ (fun _ => hS6) (fun hHeld6 => ?_)
      clear hK K
      try simp only [Act.put]
      have hownF : w6.ownsRow W.heap.size 3 1 (.slice (some ⟨g6, 0, none⟩) (l.length + 1) k6) (l ++ [lv]).length ((l ++ [lv]).map (Value.int .i64)) := by simpa using hown6
      refine Till.take 10 (some 5) (v := ?_) rfl rfl (by kernel_rfl) (by kernel_rfl) (by kernel_rfl) (by kernel_rfl) (fun _ _ _ h => h) (Or.inl ⟨by rfl, ?_⟩) (by assumption) ?_
      rotate_left
      · (intro w hSw; (try dsimp only at hSw); go_simp; try with_reducible rfl)
      try simp only [Act.put, List.setIfInBounds_toArray, List.set_cons_zero, List.set_cons_succ]
      refine Till.done (by kernel_rfl) ?_ _
      clear hown6 hown3 hown2 hgrow6 hat6 hb3 hb2 eO fO e9 f9 hS3 hS6 hHeld hnO hwb hw
      go_wp2
      go_roundw
      case rel => exact ⟨k + 1, _, by omega, by go_num, HX, by simpa [hll] using hownF, hb7⟩
      case measure => simp [intOf]; omega
    · obtain rfl : k = s.ods.length := by omega
      have HR : Hid (RInts (vis (w.heap.size ≤ ·) wr) u5 (lackL s got)) := Lib.hid (by
        have hxx := hx.out
        unfold lackL
        rw [← hxx]
        refine own_RInts (own_vis hown (fun q hq => by have := (hown.lt q hq).1; omega)) (by omega) (fun y hy => ?_)
        rw [hxx] at hy
        unfold lackK at hy
        simp only [List.mem_map, List.mem_range] at hy
        obtain ⟨i, hi, rfl⟩ := hy
        have := lackI_bd ok (got := got) (i := i) (hgb i (by omega)).1
        unfold I64; omega)
      clear hx hown hll hlt hk
      go_wp2
      go_ret
      exact ⟨⟨_, rfl, HR.out⟩, hE⟩
def fineK (s : Sn) (got : List Int) (k : Nat) : Int := ((List.range k).map fun i => lackI s got i * (odAt s i).pen).sum
def fineS (s : Sn) (got : List Int) : Int := fineK s got s.ods.length
theorem fineK_step (s : Sn) (got : List Int) (k : Nat) : fineK s got (k + 1) = fineK s got k + lackI s got k * (odAt s k).pen := by
  unfold fineK; rw [List.range_succ, List.map_append, List.sum_append]; simp
theorem mulb {a b : Int} (ha : 0 ≤ a ∧ a ≤ 1000000) (hb : 0 ≤ b ∧ b ≤ 1000000) : 0 ≤ a * b ∧ a * b ≤ 1000000000000 := ⟨Int.mul_nonneg ha.1 hb.1, Int.le_trans (Int.mul_le_mul ha.2 hb.2 hb.1 (by omega)) (by omega)⟩
theorem fineK_bd {s : Sn} (ok : OkS s) {got : List Int} (hgb : ∀ i, i < 8 → 0 ≤ g got i) : ∀ k, k ≤ 8 → 0 ≤ fineK s got k ∧ fineK s got k ≤ 1000000000000 * k
  | 0, _ => by simp [fineK]
  | k + 1, hk => by
    have h1 := fineK_bd ok hgb k (by omega)
    have h2 := mulb (lackI_bd ok (hgb k (by omega))) (odAt_bd ok k).2
    rw [fineK_step]
    omega

set_option maxHeartbeats 8000000 in
set_option maxRecDepth 100000 in
theorem fines_any (s : Sn) (d : SA) (v7 : Value) (got : List Int) (w : World) (h : SnD w s d) (ok : OkS s) (hg : got.length = 8) (hgb : ∀ i, i < 8 → 0 ≤ g got i ∧ g got i ≤ 1000000000000) :
    Calls Try.prog 53 #[.agg #[.int .i64 s.days, .slice d.a1 s.arts.length d.c1, .slice d.a2 s.ovens.length d.c2, .slice d.a3 s.mks.length d.c3, .slice d.a4 s.jobs.length d.c4, .slice d.a5 s.cols.length d.c5, .slice d.a6 s.ods.length d.c6, v7], .agg (cnC got)] w fun e w' => e = .returned (.int .i64 (fineS s got)) ∧ Below w.heap.size w w' := by
  have hno : s.ods.length ≤ 8 := by have := ok.nd; have := ok.na; omega
  have A0 := below_box w (.cells #[.int .i64 s.days, .slice d.a1 s.arts.length d.c1, .slice d.a2 s.ovens.length d.c2, .slice d.a3 s.mks.length d.c3, .slice d.a4 s.jobs.length d.c4, .slice d.a5 s.cols.length d.c5, .slice d.a6 s.ods.length d.c6, v7] 63)
  have A1 := A0.alloc (by simp) (.cells #[.int .i64 (g got 0), .int .i64 (g got 1), .int .i64 (g got 2), .int .i64 (g got 3), .int .i64 (g got 4), .int .i64 (g got 5), .int .i64 (g got 6), .int .i64 (g got 7)] 92)
  have b0 := (Blk.new w #[.int .i64 s.days, .slice d.a1 s.arts.length d.c1, .slice d.a2 s.ovens.length d.c2, .slice d.a3 s.mks.length d.c3, .slice d.a4 s.jobs.length d.c4, .slice d.a5 s.cols.length d.c5, .slice d.a6 s.ods.length d.c6, v7] 63).alloc (.cells #[.int .i64 (g got 0), .int .i64 (g got 1), .int .i64 (g got 2), .int .i64 (g got 3), .int .i64 (g got 4), .int .i64 (g got 5), .int .i64 (g got 6), .int .i64 (g got 7)] 92)
  have b1 := Blk.new (w.alloc (.cells #[.int .i64 s.days, .slice d.a1 s.arts.length d.c1, .slice d.a2 s.ovens.length d.c2, .slice d.a3 s.mks.length d.c3, .slice d.a4 s.jobs.length d.c4, .slice d.a5 s.cols.length d.c5, .slice d.a6 s.ods.length d.c6, v7] 63)) #[.int .i64 (g got 0), .int .i64 (g got 1), .int .i64 (g got 2), .int .i64 (g got 3), .int .i64 (g got 4), .int .i64 (g got 5), .int .i64 (g got 6), .int .i64 (g got 7)] 92
  simp only [World.size_alloc] at b1
  go_enter Try.func53, Try.ntmps53
  rw [show (cnC got) = #[.int .i64 (g got 0), .int .i64 (g got 1), .int .i64 (g got 2), .int .i64 (g got 3), .int .i64 (g got 4), .int .i64 (g got 5), .int .i64 (g got 6), .int .i64 (g got 7)] from rfl]
  go_upto_region 2 with (fail)
  generalize (w.alloc (.cells #[.int .i64 s.days, .slice d.a1 s.arts.length d.c1, .slice d.a2 s.ovens.length d.c2, .slice d.a3 s.mks.length d.c3, .slice d.a4 s.jobs.length d.c4, .slice d.a5 s.cols.length d.c5, .slice d.a6 s.ods.length d.c6, v7] 63)).alloc (.cells #[.int .i64 (g got 0), .int .i64 (g got 1), .int .i64 (g got 2), .int .i64 (g got 3), .int .i64 (g got 4), .int .i64 (g got 5), .int .i64 (g got 6), .int .i64 (g got 7)] 92) = W at *
  have x0 := b0.cell 0 _ rfl
  have xf0 := b0.frozen 0
  have x1 := b0.cell 1 _ rfl
  have xf1 := b0.frozen 1
  have x2 := b0.cell 2 _ rfl
  have xf2 := b0.frozen 2
  have x3 := b0.cell 3 _ rfl
  have xf3 := b0.frozen 3
  have x4 := b0.cell 4 _ rfl
  have xf4 := b0.frozen 4
  have x5 := b0.cell 5 _ rfl
  have xf5 := b0.frozen 5
  have x6 := b0.cell 6 _ rfl
  have xf6 := b0.frozen 6
  have x7 := b0.cell 7 _ rfl
  have xf7 := b0.frozen 7
  have y0 := b1.cell 0 _ rfl
  have yf0 := b1.frozen 0
  have y1 := b1.cell 1 _ rfl
  have yf1 := b1.frozen 1
  have y2 := b1.cell 2 _ rfl
  have yf2 := b1.frozen 2
  have y3 := b1.cell 3 _ rfl
  have yf3 := b1.frozen 3
  have y4 := b1.cell 4 _ rfl
  have yf4 := b1.frozen 4
  have y5 := b1.cell 5 _ rfl
  have yf5 := b1.frozen 5
  have y6 := b1.cell 6 _ rfl
  have yf6 := b1.frozen 6
  have y7 := b1.cell 7 _ rfl
  have yf7 := b1.frozen 7
  have hEx := ext_of_below A1
  go_wp2_with fail
  clear x0 xf0 x1 xf1 x2 xf2 x3 xf3 x4 xf4 x5 xf5 x6 xf6 x7 xf7 y0 yf0 y1 yf1 y2 yf2 y3 yf3 y4 yf4 y5 yf5 y6 yf6 y7 yf7
  refine (lacks_any s d v7 got W (h.mono hEx) ok hg hgb).mono ?_
  rintro e W1 ⟨⟨v, rfl, hr⟩, hb1⟩
  have hlen : (lackL s got).length = s.ods.length := lackK_len s got _
  have hA1 := A1.trans (hb1.mono A1.size)
  replace b0 := b0.below hb1 b0.lt
  have hr2 := hr.mono vis_outL
  obtain ⟨al, cl, rfl, -, ⟨-, hlm⟩, hll⟩ := hr2
  rw [hlen]
  have HLL := Lib.hid hll
  have HLN := Lib.hid hlen
  clear hll hr A0 A1 b1 hb1 hEx hlen hlm
  go_upto_region 3 with (fail)
  go_loopw [5, 12] (fun v i wr => ∃ (k : Nat) (n : Int), k ≤ s.ods.length ∧ i = .int .i64 k ∧ v = .int .i64 n ∧ Hid (n = fineK s got k) ∧ wr = W1) (fun _ i _ => s.ods.length - (intOf i).toNat)
  case atStart => exact ⟨0, 0, Nat.zero_le _, rfl, rfl, Lib.hid rfl, rfl⟩
  case round =>
    obtain ⟨k, n, hk, rfl, rfl, hx, rfl⟩ := hrel
    by_cases hlt : k < s.ods.length
    · have hst := fineK_step s got k
      rw [← hx.out] at hst
      have hnb := fineK_bd ok (fun i hi => (hgb i hi).1) k (by omega)
      rw [← hx.out] at hnb
      have hlk := lackI_bd ok (hgb k (by omega)).1
      obtain ⟨b1', o1', he1', p0, -⟩ := HLL.out k (by rw [HLN.out]; exact hlt)
      have hlv : (lackL s got)[k]'(by rw [HLN.out]; exact hlt) = lackI s got k := by simp [lackL, lackK]
      rw [hlv] at p0
      simp only [Nat.mul_one] at p0
      obtain ⟨a', c', he, -, -, hl⟩ := id h.ods
      simp only [Value.slice.injEq, true_and] at he
      obtain ⟨ha, hc'⟩ := he
      obtain ⟨b2', o2, he2, ⟨q0, q1, q2, q3⟩, -⟩ := hl k hlt
      have k3 := ext_of_below hA1 _ _ q3
      simp only at k3
      have hod : odAt s k = s.ods[k] := by unfold odAt; simp [List.getElem?_eq_getElem hlt]
      have hpb := (odAt_bd ok k).2
      rw [hod] at hpb hst
      have z6 : wr.cell? ⟨w.heap.size, 6, none⟩ = some (.slice (some ⟨b2', o2, none⟩) s.ods.length d.c6) := by have := b0.cell 6 _ rfl; rw [ha, he2] at this; exact this
      have j1 : (0 : Int) ≤ (k : Int) := Int.natCast_nonneg _
      have j2 : (k : Int) < (s.ods.length : Int) := by omega
      rw [he1']
      clear hl q0 q1 q2 q3 he1' he2 ha hc' hod hlv
      generalize s.ods[k] = o at *
      obtain ⟨lv, hlv⟩ : ∃ v, lackI s got k = v := ⟨_, rfl⟩
      obtain ⟨pv, hpv⟩ : ∃ v, o.pen = v := ⟨_, rfl⟩
      rw [hlv] at p0 hlk
      rw [hlv, hpv] at hst
      rw [hpv] at k3 hpb
      have hmb := mulb hlk hpb
      have HX : Hid (n + lv * pv = fineK s got (k + 1)) := Lib.hid hst.symm
      have z1 : wrap64 (lv * pv) = lv * pv := wrap_id _ (by unfold I64; omega)
      have z2 : wrap64 (n + lv * pv) = n + lv * pv := wrap_id _ (by unfold I64; omega)
      clear hst hlv hpv hmb hx hlk hpb
      go_wp2
      go_roundw
      case rel => exact ⟨k + 1, n + lv * pv, by omega, by go_num, by go_num, HX, trivial⟩
      case measure => simp [intOf]; omega
    · obtain rfl : k = s.ods.length := by omega
      have HR : Hid (n = fineS s got) := Lib.hid (by rw [hx.out]; rfl)
      clear hx
      go_wp2
      go_ret
      exact ⟨ret_int HR.out, hA1⟩
end Go.Proofs.Ytdffhkbncencgaa
