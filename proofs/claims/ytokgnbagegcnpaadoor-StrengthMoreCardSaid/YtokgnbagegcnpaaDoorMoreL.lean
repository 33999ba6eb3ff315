/- The law StrengthMore: every input; no statement is proved here. -/
import Derived.Test.YtokgnbagegcnpaaDoorMoreM
import Derived.Test.YtokgnbagegcnpaaDoorSCells
import Derived.Test.YtokgnbagegcnpaaDoorSCLaw
import Derived.Test.YtokgnbagegcnpaaDoorSOwn
namespace Go.Proofs.YtokgnbagegcnpaaDoor
open Go.RowKit Go.PlainAid
set_option linter.unusedVariables false
attribute [local go_sem ↓] exec_ask

def GoodT (ts us : List Sp) : Prop := ∀ j (h : j < ts.length) (h' : j < us.length), OkT us[j] ∧ ts[j].lo ≤ us[j].lo
theorem goodT_nil (ts : List Sp) : GoodT ts [] := fun j h h' => absurd h' (by simp)
theorem goodT_snoc {ts us : List Sp} {s : Sp} (h : GoodT ts us) (hl : us.length < ts.length) (hs : OkT s) (hle : ts[us.length].lo ≤ s.lo) : GoodT ts (us ++ [s]) := fun j h1 h2 => by
  by_cases e : j < us.length
  · have := h j h1 e
    rw [List.getElem_append_left e]
    exact this
  · have : j = us.length := by rw [List.length_append, List.length_singleton] at h2; omega
    subst this
    simpa using ⟨hs, hle⟩

theorem less_num {l m : Int} (hl : 0 ≤ l ∧ l ≤ 10000000) (hm : 0 ≤ m ∧ m ≤ 255) : ∃ d, IntKind.i64.wrap (l * m) = l * m ∧ IntKind.i64.wrap ((l * m).tdiv 255) = d ∧ IntKind.i64.wrap (l - d) = l - d ∧ 0 ≤ l - d ∧ l - d ≤ l := by
  have h1 : 0 ≤ l * m := Int.mul_nonneg hl.1 hm.1
  have h2 : l * m ≤ l * 255 := Int.mul_le_mul_of_nonneg_left hm.2 hl.1
  generalize l * m = p at *
  have h3 : p.tdiv 255 = p / 255 := Int.tdiv_eq_ediv_of_nonneg h1
  refine ⟨p / 255, (IntWalk.i64_left _).trans (wrap_id _ (by unfold I64; omega)), ?_, (IntWalk.i64_left _).trans (wrap_id _ (by unfold I64; omega)), by omega, by omega⟩
  rw [h3]
  exact (IntWalk.i64_left _).trans (wrap_id _ (by unfold I64; omega))
theorem min_if (a b : Int) : (if b < a then b else a) = min a b := by rw [Int.min_def]; split <;> split <;> omega
theorem max_if (a b : Int) : (if a < b then b else a) = max a b := by rw [Int.max_def]; split <;> split <;> omega

set_option maxHeartbeats 4000000 in
set_option maxRecDepth 100000 in
theorem sMoreLaw_any (vb vx vp : Value) (b : Bot) (x : Ask5) (pl : List Int) (w : World) (h : RBot w vb b) (hx : RAskC w vx x) (hp : RU8s w vp pl) (hC : Circ w) :
    Calls Tryd.prog 9 #[vb, vx, vp] w (TrueB w) := by
  have h0 := h
  have hx0 := hx
  have hp0 := hp
  obtain ⟨v0, rfl, hr, hI⟩ := h
  obtain ⟨a, cap, rfl, -, -, -⟩ := hr
  obtain ⟨vt, vm, vr, pa, pk, cl, rfl, hx', -⟩ := hx
  obtain ⟨vt', vm', vr', pa', pk', he, hx1, hx2, hx3, -, -⟩ := hx'
  simp only [askCells, Value.agg.injEq, Array.mk.injEq, List.cons.injEq, and_true, true_and] at he
  obtain ⟨rfl, rfl, rfl, -⟩ := he
  have ht0 := hx1
  obtain ⟨at', kt, rfl, -, ⟨-, htm⟩, htl⟩ := hx1
  obtain ⟨am, km, rfl, -, -, -⟩ := hx2
  obtain ⟨ar, kr, rfl, -, -, -⟩ := hx3
  obtain ⟨ap, kp, rfl, -, -, -⟩ := hp
  have hA : Below w.heap.size w ((w.alloc (.cells #[.slice a b.rings.length cap, .int .i64 b.flaw, .int .i64 b.tough] 24)).alloc (.cells (askCells x (.slice at' x.thick.length kt) (.slice am x.measured.length km) (.slice ar x.recipe.length kr) pa pk) 33)) := (below_boxS w _).alloc (by simp) _
  have hB := (Blk.new w #[.slice a b.rings.length cap, .int .i64 b.flaw, .int .i64 b.tough] 24).alloc (.cells (askCells x (.slice at' x.thick.length kt) (.slice am x.measured.length km) (.slice ar x.recipe.length kr) pa pk) 33)
  have hX := Blk.new (w.alloc (.cells #[.slice a b.rings.length cap, .int .i64 b.flaw, .int .i64 b.tough] 24)) (askCells x (.slice at' x.thick.length kt) (.slice am x.measured.length km) (.slice ar x.recipe.length kr) pa pk) 33
  rw [World.size_alloc] at hX
  have hz : ((w.alloc (.cells #[.slice a b.rings.length cap, .int .i64 b.flaw, .int .i64 b.tough] 24)).alloc (.cells (askCells x (.slice at' x.thick.length kt) (.slice am x.measured.length km) (.slice ar x.recipe.length kr) pa pk) 33)).heap.size = w.heap.size + 2 := by simp
  replace hz := And.intro (Nat.le_of_eq hz) (Nat.le_of_eq hz.symm)
  simp only [askCells] at hA hB hX hz ⊢
  go_enter Tryd.func9, Tryd.ntmps9
  go_wp2_with fail
  generalize (w.alloc (.cells #[.slice a b.rings.length cap, .int .i64 b.flaw, .int .i64 b.tough] 24)).alloc _ = W2 at *
  have HR := Lib.hid (fun V (hV : Below w.heap.size w V) => h0.mono (ext_of_below hV))
  have HX := Lib.hid (fun V (hV : Below w.heap.size w V) => hx0.mono (ext_of_below hV))
  have HP := Lib.hid (fun V (hV : Below w.heap.size w V) => hp0.mono (ext_of_below hV))
  have HT := Lib.hid (fun V (hV : Below w.heap.size w V) => ht0.mono (ext_of_below hV))
  have HTL := Lib.hid (fun V (hV : Below w.heap.size w V) i (h : i < x.thick.length) => (htl i h).elim fun b' h1 => h1.elim fun o' h2 => (⟨b', o', h2.1, h2.2.mono (ext_of_below hV)⟩ : ∃ b' o', at' = some ⟨b', o', none⟩ ∧ RSp V ⟨b', o' + i * 2, none⟩ x.thick[i]))
  have HC := Lib.hid (fun V (hV : Below w.heap.size w V) => hC.mono (ext_of_below hV))
  clear h0 hx0 hp0 ht0 htl hC
  simp only [askCells] at HX
  refine (great5_any _ b _ (HR.out _ hA)).mono ?_
  rintro e w1 ⟨rfl, hb1⟩
  have hA1 := hA.trans (hb1.mono hA.size)
  have hB1 := hB.below hb1 hB.lt
  have hX1 := hX.below hb1 hX.lt
  have hz1 : w.heap.size + 2 ≤ w1.heap.size := by have := hb1.size; omega
  clear hA hB hX hb1 hz
  cases hg : decide (40 < b.rings.length) with
  | true =>
    clear hB1 hX1
    go_wp2_with fail
    refine (lives5_any _ (HC.out _ hA1)).mono ?_
    rintro e wl ⟨rfl, hbl⟩
    have hAl := hA1.trans (hbl.mono hA1.size)
    clear hbl hA1
    go_wp2
    go_ret
    exact ⟨rfl, hAl⟩

  | false =>
  have c0 := hB1.cell 0 _ rfl
  have c1 := hB1.cell 1 _ rfl
  have c2 := hB1.cell 2 _ rfl
  have hld := ld_ask hX1 rfl
  go_wp2_with fail
  refine (wide5_any _ x _ (HX.out _ hA1)).mono ?_
  rintro e w2 ⟨rw, rfl, hwd, hb2⟩
  have hA2 := hA1.trans (hb2.mono hA1.size)
  have hB2 := hB1.below hb2 hB1.lt
  have hX2 := hX1.below hb2 hX1.lt
  have hz2 : w.heap.size + 2 ≤ w2.heap.size := by have := hb2.size; omega
  clear hA1 hB1 hX1 hb2 hz1 c0 c1 c2 hld
  cases rw with
  | true =>
    clear hB2 hX2
    go_wp2_with fail
    refine (lives5_any _ (HC.out _ hA2)).mono ?_
    rintro e wl ⟨rfl, hbl⟩
    have hAl := hA2.trans (hbl.mono hA2.size)
    clear hbl hA2
    go_wp2
    go_ret
    exact ⟨rfl, hAl⟩

  | false =>
  have h40 := hwd rfl
  clear hwd
  by_cases hpl : (300 : Int) < (pl.length : Int)
  · clear hB2 hX2
    go_wp2_with fail
    refine (lives5_any _ (HC.out _ hA2)).mono ?_
    rintro e wl ⟨rfl, hbl⟩
    have hAl := hA2.trans (hbl.mono hA2.size)
    clear hbl hA2
    go_wp2
    go_ret
    exact ⟨rfl, hAl⟩

  have c0 := hB2.cell 0 _ rfl
  have c1 := hB2.cell 1 _ rfl
  have c2 := hB2.cell 2 _ rfl
  have x0 := hX2.cell 0 _ rfl
  have x1 := hX2.cell 1 _ rfl
  have x2 := hX2.cell 2 _ rfl
  have x3 := hX2.cell 3 _ rfl
  have x4 := hX2.cell 4 _ rfl
  go_wp2_with fail
  refine (holdsP_any _ _ b x.thick x.load _ (HR.out _ hA2) (HT.out _ hA2) (HC.out _ hA2)).mono ?_
  rintro e w3 ⟨hh, br, rfl, hq1, hq2, hb3⟩
  have hA3 := hA2.trans (hb3.mono hA2.size)
  have hB3 := hB2.below hb3 hB2.lt
  have hX3 := hX2.below hb3 hX2.lt
  have hz3 : w.heap.size + 2 ≤ w3.heap.size := by have := hb3.size; omega
  clear hA2 hB2 hX2 hb3 hz2 c0 c1 c2 x0 x1 x2 x3 x4
  by_cases hw0 : wallS b x.thick x.load = 0
  case neg =>
    obtain ⟨rfl, rfl⟩ := hq2 hw0
    have hne : (wallS b x.thick x.load == 0) = false := by simpa using hw0
    clear hB3 hX3 hq1 hq2
    go_wp2_with fail
    refine (lives5_any _ (HC.out _ hA3)).mono ?_
    rintro e wl ⟨rfl, hbl⟩
    have hAl := hA3.trans (hbl.mono hA3.size)
    clear hbl hA3
    go_wp2
    go_ret
    exact ⟨rfl, hAl⟩

  obtain ⟨hq3, -⟩ := hq1 hw0
  have HW0 := Lib.hid hw0
  rw [hw0]
  clear hq1 hq2 hw0
  cases hh with
  | false =>
    clear hB3 hX3 hq3
    go_wp2_with fail
    refine (lives5_any _ (HC.out _ hA3)).mono ?_
    rintro e wl ⟨rfl, hbl⟩
    have hAl := hA3.trans (hbl.mono hA3.size)
    clear hbl hA3
    go_wp2
    go_ret
    exact ⟨rfl, hAl⟩

  | true =>
  have HH := Lib.hid (hq3.1 rfl)
  clear hq3
  have how := okWall_of HW0.out
  have HOW := Lib.hid how
  clear how
  go_wp2_with fail
  go_loopw [10, 11] (fun v i wr => ∃ (k : Nat) (us : List Sp), k ≤ x.thick.length ∧ i = .int .i64 k ∧ Hid (us.length = k ∧ GoodT x.thick us) ∧ wr.ownsRow w3.heap.size 29 2 v us.length (us.flatMap spCells) ∧ Below w3.heap.size w3 wr) (fun _ i _ => x.thick.length - (intOf i).toNat)
  case atStart => exact ⟨0, [], Nat.zero_le _, rfl, ⟨rfl, goodT_nil _⟩, World.ownsRow_nil _ _ _ _, Below.refl _ _⟩
  case round =>
    obtain ⟨k, us, hk, rfl, hgd, hown, hb⟩ := hrel
    have hXr := hX3.below hb hX3.lt
    have hAr := hA3.trans (hb.mono hA3.size)
    have x0 := hXr.cell 0 _ rfl
    by_cases hkl : k < x.thick.length
    · have i3 : (0 : Int) ≤ (k : Int) := Int.natCast_nonneg _
      have i4 : (k : Int) < (x.thick.length : Int) := by omega
      have hul := hgd.out.1
      obtain ⟨tb, o1, rfl, p1, p2, -, -⟩ := HTL.out w (Below.refl _ _) k hkl
      have htb := cell_lt p1
      have q1 := ext_of_below hAr _ _ p1
      have q2 := ext_of_below hAr _ _ p2
      clear p1 p2
      have hok := HOW.out.thick k hkl
      have HGD : Hid (∀ s : Sp, OkT s → x.thick[k].lo ≤ s.lo → GoodT x.thick (us ++ [s])) := Lib.hid (fun s h1 h2 => goodT_snoc hgd.out.2 (by omega) h1 (by simpa only [hul] using h2))
      generalize x.thick[k] = t at *
      have t1 := hok.lo
      have t2 := hok.le
      have t3 := hok.hi
      have HU := Lib.hid hul
      clear hul hgd hok
      go_wp2_with fail
      refine (atP_any _ pl k _ (HP.out _ hAr) (by omega) (by unfold I64; omega)).mono ?_
      rintro e w4 ⟨m, rfl, hm, hb4⟩
      have hwm : wrap64 m = m := wrap_id _ (by unfold I64; omega)
      have hb5 := hb.trans (hb4.mono hb.size)
      have hA5 := hAr.trans (hb4.mono hAr.size)
      have hX5 := hXr.below hb4 hXr.lt
      have hown5 := own_below hown hb4 (own_lt hown)
      obtain ⟨T, hT⟩ : ∃ T : Sp, T = ⟨min (t.lo + m) 2000, min (t.hi + m) 2000⟩ := ⟨_, rfl⟩
      have m1 : (if 2000 < t.lo + m then 2000 else t.lo + m) = T.lo := by rw [min_if, hT]
      have m2 : (if 2000 < t.hi + m then 2000 else t.hi + m) = T.hi := by rw [min_if, hT]
      have HG2 := HGD.out T ⟨by rw [hT]; simp only; omega, by rw [hT]; simp only; omega, by rw [hT]; simp only; omega⟩ (by rw [hT]; simp only; omega)
      have z1 : IntKind.i64.wrap (t.lo + m) = t.lo + m := (IntWalk.i64_left _).trans (wrap_id _ (by unfold I64; omega))
      have z2 : IntKind.i64.wrap (t.hi + m) = t.hi + m := (IntWalk.i64_left _).trans (wrap_id _ (by unfold I64; omega))
      replace HG2 := Lib.hid HG2
      clear hT
      have g0 := hX5.cell 0 _ rfl
      have g1 := ext_of_below hb4 _ _ q1
      have g2 := ext_of_below hb4 _ _ q2
      simp only [List.getElem_toArray, List.getElem_cons_zero] at g0 g1 g2
      have lX := hX3.lt
      have hwb : ∀ g, u10.ownBlock = some g → w3.heap.size ≤ g := fun g hg => (hown.lt g hg).1
      have hn1 : u10.ownBlock ≠ some (w.heap.size + 1) := fun e => by have := hwb _ e; omega
      have hn2 : u10.ownBlock ≠ some tb := fun e => by have := hwb _ e; omega
      have HB := Lib.hid hb5
      have HO := Lib.hid hown5
      clear q1 q2 hown hb hb4 hAr hXr hb5 hown5 x0
      go_wp2_with fail
      have HSV : Hid (∀ V, Below w4.heap.size w4 V → (fun w' : World => w'.cell? ⟨w.heap.size + 1, 0, none⟩ = some (.slice (some ⟨tb, o1, none⟩) x.thick.length kt) ∧ w'.cell? ⟨tb, o1 + k * 2, none⟩ = some (.int .i64 t.lo) ∧ w'.cell? ⟨tb, o1 + k * 2 + 1, none⟩ = some (.int .i64 t.hi)) V) := Lib.hid (fun V hV => ⟨ext_of_below hV _ _ g0, ext_of_below hV _ _ g1, ext_of_below hV _ _ g2⟩)
      have HD : Hid (Below w4.heap.size w4 (w4.alloc (.cells #[.int .i64 T.lo, .int .i64 T.hi] 29)).drew) := Lib.hid ((below_boxS w4 _).drew)
      refine wp_region_till (fun w' : World => w'.cell? ⟨w.heap.size + 1, 0, none⟩ = some (.slice (some ⟨tb, o1, none⟩) x.thick.length kt) ∧ w'.cell? ⟨tb, o1 + k * 2, none⟩ = some (.int .i64 t.lo) ∧ w'.cell? ⟨tb, o1 + k * 2 + 1, none⟩ = some (.int .i64 t.hi)) 99 (by kernel_rfl) ⟨g0, g1, g2⟩ (fun hHeld => ?_)
      refine Till.take 0 (some 57) (v := ?_) rfl rfl (by kernel_rfl) (by kernel_rfl) (by kernel_rfl) (by kernel_rfl) (fun _ _ _ h => h) (Or.inl ⟨by rfl, ?_⟩) (by assumption) ?_
      rotate_left
      · (intro w hSw; (try dsimp only at hSw); go_simp; try with_reducible rfl)
      try simp only [Act.put, List.setIfInBounds_toArray, List.set_cons_zero, List.set_cons_succ]
      refine Till.take 1 (some 58) (v := ?_) rfl rfl (by kernel_rfl) (by kernel_rfl) (by kernel_rfl) (by kernel_rfl) (fun _ _ _ h => h) (Or.inl ⟨by rfl, ?_⟩) (by assumption) ?_
      rotate_left
      · (intro w hSw; (try dsimp only at hSw); go_simp; try with_reducible rfl)
      try simp only [Act.put, List.setIfInBounds_toArray, List.set_cons_zero, List.set_cons_succ]
      refine Till.take 2 (some 59) (v := ?_) rfl rfl (by kernel_rfl) (by kernel_rfl) (by kernel_rfl) (by kernel_rfl) (fun _ _ _ h => h) (Or.inl ⟨by rfl, ?_⟩) (by assumption) ?_
      rotate_left
      · (intro w hSw; (try dsimp only at hSw); go_simp; try with_reducible rfl)
      try simp only [Act.put, List.setIfInBounds_toArray, List.set_cons_zero, List.set_cons_succ]
      refine Till.take 3 (some 60) (v := ?_) rfl rfl (by kernel_rfl) (by kernel_rfl) (by kernel_rfl) (by kernel_rfl) (fun _ _ _ h => h) (Or.inl ⟨by rfl, ?_⟩) (by assumption) ?_
      rotate_left
      · (intro w hSw; (try dsimp only at hSw); go_simp; try with_reducible rfl)
      try simp only [Act.put, List.setIfInBounds_toArray, List.set_cons_zero, List.set_cons_succ]
      refine Till.take 4 (some 61) (v := ?_) rfl rfl (by kernel_rfl) (by kernel_rfl) (by kernel_rfl) (by kernel_rfl) (fun _ _ _ h => h) (Or.inl ⟨by rfl, ?_⟩) (by assumption) ?_
      rotate_left
      · (intro w hSw; (try dsimp only at hSw); go_simp; try with_reducible rfl)
      try simp only [Act.put, List.setIfInBounds_toArray, List.set_cons_zero, List.set_cons_succ]
      refine Till.take 5 (some 62) (v := ?_) rfl rfl (by kernel_rfl) (by kernel_rfl) (by kernel_rfl) (by kernel_rfl) (fun _ _ _ h => h) (Or.inl ⟨by rfl, ?_⟩) (by assumption) ?_
      rotate_left
      · (intro w hSw; (try dsimp only at hSw); go_simp; try with_reducible rfl)
      try simp only [Act.put, List.setIfInBounds_toArray, List.set_cons_zero, List.set_cons_succ]
      refine Till.take 6 (some 63) (v := ?_) rfl rfl (by kernel_rfl) (by kernel_rfl) (by kernel_rfl) (by kernel_rfl) (fun _ _ _ h => h) (Or.inl ⟨by rfl, ?_⟩) (by assumption) ?_
      rotate_left
      · (intro w hSw; (try dsimp only at hSw); go_simp; try with_reducible rfl)
      try simp only [Act.put, List.setIfInBounds_toArray, List.set_cons_zero, List.set_cons_succ]
      refine Till.take 7 (some 64) (v := ?_) rfl rfl (by kernel_rfl) (by kernel_rfl) (by kernel_rfl) (by kernel_rfl) (fun _ _ _ h => h) (Or.inl ⟨by rfl, ?_⟩) (by assumption) ?_
      rotate_left
      · (intro w hSw; (try dsimp only at hSw); go_simp; try with_reducible rfl)
      try simp only [Act.put, List.setIfInBounds_toArray, List.set_cons_zero, List.set_cons_succ]
      refine Till.take 8 (some 65) (v := ?_) rfl rfl (by kernel_rfl) (by kernel_rfl) (by kernel_rfl) (by kernel_rfl) (fun _ _ _ h => h) (Or.inl ⟨by rfl, ?_⟩) (by assumption) ?_
      rotate_left
      · (intro w hSw; (try dsimp only at hSw); go_simp; try with_reducible rfl)
      try simp only [Act.put, List.setIfInBounds_toArray, List.set_cons_zero, List.set_cons_succ]
      refine Till.take 9 (some 66) (v := ?_) rfl rfl (by kernel_rfl) (by kernel_rfl) (by kernel_rfl) (by kernel_rfl) (fun _ _ _ h => h) (Or.inl ⟨by rfl, ?_⟩) (by assumption) ?_
      rotate_left
      · (intro w hSw; (try dsimp only at hSw); go_simp; try with_reducible rfl)
      try simp only [Act.put, List.setIfInBounds_toArray, List.set_cons_zero, List.set_cons_succ]
      refine Till.take 10 (some 67) (v := ?_) rfl rfl (by kernel_rfl) (by kernel_rfl) (by kernel_rfl) (by kernel_rfl) (fun _ _ _ h => h) (Or.inl ⟨by rfl, ?_⟩) (by assumption) ?_
      rotate_left
      · (intro w hSw; (try dsimp only at hSw); go_simp; try with_reducible rfl)
      try simp only [Act.put, List.setIfInBounds_toArray, List.set_cons_zero, List.set_cons_succ]
      refine Till.take 11 (some 68) (v := ?_) rfl rfl (by kernel_rfl) (by kernel_rfl) (by kernel_rfl) (by kernel_rfl) (fun _ _ _ h => h) (Or.inl ⟨by rfl, ?_⟩) (by assumption) ?_
      rotate_left
      · (intro w hSw; (try dsimp only at hSw); go_simp; try with_reducible rfl)
      try simp only [Act.put, List.setIfInBounds_toArray, List.set_cons_zero, List.set_cons_succ]
      refine Till.take 12 (some 69) (v := ?_) rfl rfl (by kernel_rfl) (by kernel_rfl) (by kernel_rfl) (by kernel_rfl) (fun _ _ _ h => h) (Or.inl ⟨by rfl, ?_⟩) (by assumption) ?_
      rotate_left
      · (intro w hSw; (try dsimp only at hSw); go_simp; try with_reducible rfl)
      try simp only [Act.put, List.setIfInBounds_toArray, List.set_cons_zero, List.set_cons_succ]
      refine Till.take 13 (some 70) (v := ?_) rfl rfl (by kernel_rfl) (by kernel_rfl) (by kernel_rfl) (by kernel_rfl) (fun _ _ _ h => h) (Or.inl ⟨by rfl, ?_⟩) (by assumption) ?_
      rotate_left
      · (intro w hSw; (try dsimp only at hSw); go_simp; try with_reducible rfl)
      try simp only [Act.put, List.setIfInBounds_toArray, List.set_cons_zero, List.set_cons_succ]
      refine Till.take 14 (some 71) (v := ?_) rfl rfl (by kernel_rfl) (by kernel_rfl) (by kernel_rfl) (by kernel_rfl) (fun _ _ _ h => h) (Or.inl ⟨by rfl, ?_⟩) (by assumption) ?_
      rotate_left
      · (intro w hSw; (try dsimp only at hSw); go_simp; try with_reducible rfl)
      try simp only [Act.put, List.setIfInBounds_toArray, List.set_cons_zero, List.set_cons_succ]
      refine Till.take 15 (some 72) (v := ?_) rfl rfl (by kernel_rfl) (by kernel_rfl) (by kernel_rfl) (by kernel_rfl) (fun _ _ _ h => h) (Or.inl ⟨by rfl, ?_⟩) (by assumption) ?_
      rotate_left
      · (intro w hSw; (try dsimp only at hSw); go_simp; try with_reducible rfl)
      try simp only [Act.put, List.setIfInBounds_toArray, List.set_cons_zero, List.set_cons_succ]
      refine Till.take 16 (some 73) (v := ?_) rfl rfl (by kernel_rfl) (by kernel_rfl) (by kernel_rfl) (by kernel_rfl) (fun _ _ _ h => h) (Or.inl ⟨by rfl, ?_⟩) (by assumption) ?_
      rotate_left
      · (intro w hSw; (try dsimp only at hSw); go_simp; try with_reducible rfl)
      try simp only [Act.put, List.setIfInBounds_toArray, List.set_cons_zero, List.set_cons_succ]
      refine Till.take 17 (some 74) (v := ?_) rfl rfl (by kernel_rfl) (by kernel_rfl) (by kernel_rfl) (by kernel_rfl) (fun _ _ _ h => h) (Or.inl ⟨by rfl, ?_⟩) (by assumption) ?_
      rotate_left
      · (intro w hSw; (try dsimp only at hSw); go_simp; try with_reducible rfl)
      try simp only [Act.put, List.setIfInBounds_toArray, List.set_cons_zero, List.set_cons_succ]
      refine Till.take 18 (some 75) (v := ?_) rfl rfl (by kernel_rfl) (by kernel_rfl) (by kernel_rfl) (by kernel_rfl) (fun _ _ _ h => h) (Or.inl ⟨by rfl, ?_⟩) (by assumption) ?_
      rotate_left
      · (intro w hSw; (try dsimp only at hSw); go_simp; try with_reducible rfl)
      try simp only [Act.put, List.setIfInBounds_toArray, List.set_cons_zero, List.set_cons_succ]
      refine Till.take 19 (some 76) (v := ?_) rfl rfl (by kernel_rfl) (by kernel_rfl) (by kernel_rfl) (by kernel_rfl) (fun _ _ _ h => h) (Or.inl ⟨by rfl, ?_⟩) (by assumption) ?_
      rotate_left
      · (intro w hSw; (try dsimp only at hSw); go_simp; try with_reducible rfl)
      try simp only [Act.put, List.setIfInBounds_toArray, List.set_cons_zero, List.set_cons_succ]
      refine Till.one 20 rfl (by kernel_rfl) (fun K hK => ?_)
      go_simp
      refine hK.out _ _ (fun _ => HSV.out _ HD.out) (fun hHeld3 => ?_)
      clear hK K
      try simp only [Act.put, List.setIfInBounds_toArray]
      have hownA := own_drew (HO.out.alloc (.cells #[.int .i64 T.lo, .int .i64 T.hi] 29))
      have hnews : ∀ j u, [Value.int .i64 T.lo, .int .i64 T.hi][j]? = some u → (w4.alloc (.cells #[.int .i64 T.lo, .int .i64 T.hi] 29)).drew.cell? ((⟨w4.heap.size, 0, none⟩ : Addr).add j) = some u := World.news_of_block (w := (w4.alloc (.cells #[.int .i64 T.lo, .int .i64 T.hi] 29)).drew) (Blk.new w4 #[.int .i64 T.lo, .int .i64 T.hi] 29)
      have hHS := HSV.out _ HD.out
      dsimp only at hHS
      obtain ⟨j0, j1, j2⟩ := hHS
      have hll := HU.out
      have hl40 := h40
      obtain ⟨i0, hi, hzz⟩ := Option.map_eq_some_iff.1 info_span
      simp only [Prod.mk.injEq] at hzz
      obtain ⟨hz0, hz1, hz2⟩ := hzz
      refine Till.one 21 rfl (by kernel_rfl) (fun K hK => ?_)
      refine step_append_lies _ (by rfl) _ _ _ (by rfl) w3.heap.size 29 i0 _ 2 16 Tryd.underlying25 hi hz0 hz1 hz2 rfl (by omega) _ us.length _ (by rfl) hownA ⟨w4.heap.size, 0, none⟩ 1 1 [.int .i64 T.lo, .int .i64 T.hi] (by rfl) (by rfl) hnews (by simp [Value.oneCell']) (by omega) (by unfold maxLen; omega) (by omega) (Nat.le_trans HB.out.size HD.out.size) _ rfl ?_
      intro g6' k6 w6 hown6 hgrow6 hat6 hlt6
      refine hK.out _ _ (fun _ => ⟨hgrow6.cell j0 (fun e => hn1 e.symm), hgrow6.cell j1 (fun e => hn2 e.symm), hgrow6.cell j2 (fun e => hn2 e.symm)⟩) (fun hHeld4 => ?_)
      clear hK K
      try simp only [Act.put]
      have hb6 : Below w3.heap.size w3 w6 := (HB.out.trans (HD.out.mono HB.out.size)).grown hgrow6 (Nat.le_trans HB.out.size HD.out.size) (fun k e => hwb k e)
      have hownF : w6.ownsRow w3.heap.size 29 2 (.slice (some ⟨g6', 0, none⟩) (us.length + 1) k6) (us ++ [T]).length ((us ++ [T]).flatMap spCells) := by simpa [spCells] using hown6
      have HF := Lib.hid hownF
      have HF2 := Lib.hid hb6
      have HUL : Hid ((us ++ [T]).length = k + 1) := Lib.hid (by simp [hll])
      have hh4 := hHeld4 (by decide)
      clear hown6 hgrow6 hownF hb6 hownA hnews j0 j1 j2 hHeld hHeld3 hi hz0 hz1 hz2 hll
      refine Till.take 22 (some 10) (v := ?_) rfl rfl (by kernel_rfl) (by kernel_rfl) (by kernel_rfl) (by kernel_rfl) (fun _ _ _ h => h) (Or.inl ⟨by rfl, ?_⟩) (by assumption) ?_
      rotate_left
      · (intro w hSw; (try dsimp only at hSw); go_simp; try with_reducible rfl)
      try simp only [Act.put, List.setIfInBounds_toArray]
      refine Till.done (by kernel_rfl) ?_ _
      clear hh4 hHeld4 g0 g1 g2
      go_wp2
      go_roundw
      case rel => exact ⟨k + 1, us ++ [T], by omega, by go_num, ⟨HUL.out, HG2.out⟩, HF.out, HF2.out⟩
      case measure => simp [intOf]; omega
    · have hke : k = x.thick.length := by omega
      obtain ⟨g1, g2⟩ := hgd.out
      have hrd : RSps wr u10 us := own_RSps hown (by omega) (fun y hy => by
        obtain ⟨j, hj, rfl⟩ := List.getElem_of_mem hy
        obtain ⟨⟨q1, q2, q3⟩, -⟩ := g2 j (by omega) hj
        unfold I64
        omega)
      have hBr := hB3.below hb hB3.lt
      have HRD := Lib.hid hrd
      have HGT := Lib.hid g2
      have HUL : Hid (us.length = x.thick.length) := Lib.hid (by omega)
      have HLD := Lib.hid HOW.out.load
      clear hrd g1 g2 hown hb hgd hA3 hB3 hX3 hkl
      subst hke
      have y1 := hXr.cell 1 _ rfl
      have y2 := hXr.cell 2 _ rfl
      have y3 := hXr.cell 3 _ rfl
      have y4 := hXr.cell 4 _ rfl
      go_wp2_with fail
      have lX := hXr.lt
      have lB := hBr.lt
      have hz : w.heap.size + 2 ≤ wr.heap.size := by omega
      have hL0 := Blk.new wr #[.int .i64 x.load.press, .int .i64 x.load.force, .int .i64 x.load.speed, .int .i64 x.load.other] 27
      have hA0 : Below w.heap.size w (wr.alloc (.cells #[.int .i64 x.load.press, .int .i64 x.load.force, .int .i64 x.load.speed, .int .i64 x.load.other] 27)) := hAr.alloc hAr.size _
      have hD0 : Below wr.heap.size wr (wr.alloc (.cells #[.int .i64 x.load.press, .int .i64 x.load.force, .int .i64 x.load.speed, .int .i64 x.load.other] 27)) := below_boxS wr _
      obtain ⟨⟨lp1, lp2⟩, ⟨lf1, lf2⟩, ⟨ls1, ls2⟩, ⟨lo1, lo2⟩⟩ := HLD.out
      clear y1 y2 y3 y4
      generalize wr.alloc (.cells #[.int .i64 x.load.press, .int .i64 x.load.force, .int .i64 x.load.speed, .int .i64 x.load.other] 27) = W0 at *
      have d0 := hL0.cell 0 _ rfl
      simp only [List.getElem_toArray, List.getElem_cons_zero] at d0
      have HSV : Hid (∀ V, Below W0.heap.size W0 V → (fun w' : World => w'.cell? ⟨wr.heap.size, 0, none⟩ = some (.int .i64 x.load.press)) V) := Lib.hid (fun V hV => ext_of_below hV _ _ d0)
      have D0 : Below W0.heap.size W0 W0.drew := (Below.refl _ _).drew
      refine wp_region_till (fun w' : World => w'.cell? ⟨wr.heap.size, 0, none⟩ = some (.int .i64 x.load.press)) 11 (by kernel_rfl) (HSV.out _ D0) (fun hHeld => ?_)
      refine Till.take 0 (some 81) (v := ?_) rfl rfl (by kernel_rfl) (by kernel_rfl) (by kernel_rfl) (by kernel_rfl) (fun _ _ _ h => h) (Or.inl ⟨by rfl, ?_⟩) (by assumption) ?_
      rotate_left
      · (intro w hSw; (try dsimp only at hSw); go_simp; try with_reducible rfl)
      try simp only [Act.put, List.setIfInBounds_toArray, List.set_cons_zero, List.set_cons_succ]
      refine Till.take 1 (some 82) (v := ?_) rfl rfl (by kernel_rfl) (by kernel_rfl) (by kernel_rfl) (by kernel_rfl) (fun _ _ _ h => h) (Or.inl ⟨by rfl, ?_⟩) (by assumption) ?_
      rotate_left
      · (intro w hSw; (try dsimp only at hSw); go_simp; try with_reducible rfl)
      try simp only [Act.put, List.setIfInBounds_toArray, List.set_cons_zero, List.set_cons_succ]
      refine Till.take 2 (some 83) (v := ?_) rfl rfl (by kernel_rfl) (by kernel_rfl) (by kernel_rfl) (by kernel_rfl) (fun _ _ _ h => h) (Or.inl ⟨by rfl, ?_⟩) (by assumption) ?_
      rotate_left
      · (intro w hSw; (try dsimp only at hSw); go_simp; try with_reducible rfl)
      try simp only [Act.put, List.setIfInBounds_toArray, List.set_cons_zero, List.set_cons_succ]
      refine Till.take 3 (some 84) (v := ?_) rfl rfl (by kernel_rfl) (by kernel_rfl) (by kernel_rfl) (by kernel_rfl) (fun _ _ _ h => h) (Or.inl ⟨by rfl, ?_⟩) (by assumption) ?_
      rotate_left
      · (intro w hSw; (try dsimp only at hSw); go_simp; try with_reducible rfl)
      try simp only [Act.put, List.setIfInBounds_toArray, List.set_cons_zero, List.set_cons_succ]
      refine Till.take 4 (some 85) (v := ?_) rfl rfl (by kernel_rfl) (by kernel_rfl) (by kernel_rfl) (by kernel_rfl) (fun _ _ _ h => h) (Or.inl ⟨by rfl, ?_⟩) (by assumption) ?_
      rotate_left
      · (intro w hSw; (try dsimp only at hSw); go_simp; try with_reducible rfl)
      try simp only [Act.put, List.setIfInBounds_toArray, List.set_cons_zero, List.set_cons_succ]
      refine Till.one 5 rfl (by kernel_rfl) (fun K hK => ?_)
      go_simp
      go_at_call 48
      refine (atP_any _ pl 1 _ (HP.out _ (hA0.trans (D0.mono hA0.size))) (by omega) (by unfold I64; omega)).mono ?_
      rintro e V ⟨m, rfl, hm, hb⟩
      have D1 := D0.trans (hb.mono D0.size)
      have hh := HSV.out _ D1
      refine hK.out _ _ (fun _ => hh) (fun hHeld2 => ?_)
      clear hK K hb
      try simp only [Act.put, List.setIfInBounds_toArray, List.set_cons_zero, List.set_cons_succ]
      have hwm : IntKind.i64.wrap m = m := (IntWalk.i64_left _).trans (wrap_id _ (by unfold I64; omega))
      obtain ⟨d, q1, q2, q3, hd1, hd2⟩ := less_num (l := x.load.press) (m := m) (by omega) hm
      refine Till.take 6 (some 87) (v := ?_) rfl rfl (by kernel_rfl) (by kernel_rfl) (by kernel_rfl) (by kernel_rfl) (fun _ _ _ h => h) (Or.inl ⟨by rfl, ?_⟩) (by assumption) ?_
      rotate_left
      · (intro w hSw; (try dsimp only at hSw); go_simp; try with_reducible rfl)
      try simp only [Act.put, List.setIfInBounds_toArray, List.set_cons_zero, List.set_cons_succ]
      refine Till.take 7 (some 88) (v := ?_) rfl rfl (by kernel_rfl) (by kernel_rfl) (by kernel_rfl) (by kernel_rfl) (fun _ _ _ h => h) (Or.inl ⟨by rfl, ?_⟩) (by assumption) ?_
      rotate_left
      · (intro w hSw; (try dsimp only at hSw); go_simp; try with_reducible rfl)
      try simp only [Act.put, List.setIfInBounds_toArray, List.set_cons_zero, List.set_cons_succ]
      refine Till.take 8 (some 89) (v := ?_) rfl rfl (by kernel_rfl) (by kernel_rfl) (by kernel_rfl) (by kernel_rfl) (fun _ _ _ h => h) (Or.inl ⟨by rfl, ?_⟩) (by assumption) ?_
      rotate_left
      · (intro w hSw; (try dsimp only at hSw); go_simp; try with_reducible rfl)
      try simp only [Act.put, List.setIfInBounds_toArray, List.set_cons_zero, List.set_cons_succ]
      refine Till.take 9 (some 90) (v := ?_) rfl rfl (by kernel_rfl) (by kernel_rfl) (by kernel_rfl) (by kernel_rfl) (fun _ _ _ h => h) (Or.inl ⟨by rfl, ?_⟩) (by assumption) ?_
      rotate_left
      · (intro w hSw; (try dsimp only at hSw); go_simp; try with_reducible rfl)
      try simp only [Act.put, List.setIfInBounds_toArray, List.set_cons_zero, List.set_cons_succ]
      refine Till.take 10 (some 91) (v := ?_) rfl rfl (by kernel_rfl) (by kernel_rfl) (by kernel_rfl) (by kernel_rfl) (fun _ _ _ h => h) (Or.inl ⟨by rfl, ?_⟩) (by assumption) ?_
      rotate_left
      · (intro w hSw; (try dsimp only at hSw); go_simp; try with_reducible rfl)
      try simp only [Act.put, List.setIfInBounds_toArray, List.set_cons_zero, List.set_cons_succ]
      refine Till.one 11 rfl (by kernel_rfl) (fun K hK => ?_)
      have hLV := hL0.below D1 hL0.lt
      have e0 := hLV.cell 0 _ rfl
      have g0 := hLV.frozen 0
      go_simp
      refine hK.out _ _ (fun h => absurd rfl h) (fun _ => ?_)
      clear hK K
      refine Till.done (by kernel_rfl) ?_ _
      have hA1 := (hA0.trans (D1.mono hA0.size)).setCell (p := ⟨wr.heap.size, 0, none⟩) (by simp only; omega) (.int .i64 (x.load.press - d))
      have hD1 := (hD0.trans (D1.mono hD0.size)).setCell (p := ⟨wr.heap.size, 0, none⟩) (by simp only; omega) (.int .i64 (x.load.press - d))
      have hL1 : Blk (V.setCell ⟨wr.heap.size, 0, none⟩ (.int .i64 (x.load.press - d))) wr.heap.size #[.int .i64 (x.load.press - d), .int .i64 x.load.force, .int .i64 x.load.speed, .int .i64 x.load.other] 27 := by simpa using hLV.set 0 (.int .i64 (x.load.press - d))
      clear hA0 hD0 hL0 hLV d0 e0 g0 HSV D0 D1 hh hHeld hHeld2 q1 q2 q3
      generalize V.setCell ⟨wr.heap.size, 0, none⟩ (.int .i64 (x.load.press - d)) = W1 at *
      obtain ⟨l0, hl0⟩ : ∃ v, x.load.press - d = v := ⟨_, rfl⟩
      rw [hl0] at hL1 hd1 hd2
      have hl0b : Hid (0 ≤ l0 ∧ l0 ≤ x.load.press) := Lib.hid ⟨hd1, hd2⟩
      clear hl0 hd1 hd2 hm hwm
      go_wp2_with fail
      have d0 := hL1.cell 1 _ rfl
      simp only [List.getElem_toArray, List.getElem_cons_zero, List.getElem_cons_succ] at d0
      have HSV : Hid (∀ V, Below W1.heap.size W1 V → (fun w' : World => w'.cell? ⟨wr.heap.size, 1, none⟩ = some (.int .i64 x.load.force)) V) := Lib.hid (fun V hV => ext_of_below hV _ _ d0)
      have D0 : Below W1.heap.size W1 W1.drew := (Below.refl _ _).drew
      refine wp_region_till (fun w' : World => w'.cell? ⟨wr.heap.size, 1, none⟩ = some (.int .i64 x.load.force)) 11 (by kernel_rfl) (HSV.out _ D0) (fun hHeld => ?_)
      refine Till.take 0 (some 92) (v := ?_) rfl rfl (by kernel_rfl) (by kernel_rfl) (by kernel_rfl) (by kernel_rfl) (fun _ _ _ h => h) (Or.inl ⟨by rfl, ?_⟩) (by assumption) ?_
      rotate_left
      · (intro w hSw; (try dsimp only at hSw); go_simp; try with_reducible rfl)
      try simp only [Act.put, List.setIfInBounds_toArray, List.set_cons_zero, List.set_cons_succ]
      refine Till.take 1 (some 93) (v := ?_) rfl rfl (by kernel_rfl) (by kernel_rfl) (by kernel_rfl) (by kernel_rfl) (fun _ _ _ h => h) (Or.inl ⟨by rfl, ?_⟩) (by assumption) ?_
      rotate_left
      · (intro w hSw; (try dsimp only at hSw); go_simp; try with_reducible rfl)
      try simp only [Act.put, List.setIfInBounds_toArray, List.set_cons_zero, List.set_cons_succ]
      refine Till.take 2 (some 94) (v := ?_) rfl rfl (by kernel_rfl) (by kernel_rfl) (by kernel_rfl) (by kernel_rfl) (fun _ _ _ h => h) (Or.inl ⟨by rfl, ?_⟩) (by assumption) ?_
      rotate_left
      · (intro w hSw; (try dsimp only at hSw); go_simp; try with_reducible rfl)
      try simp only [Act.put, List.setIfInBounds_toArray, List.set_cons_zero, List.set_cons_succ]
      refine Till.take 3 (some 95) (v := ?_) rfl rfl (by kernel_rfl) (by kernel_rfl) (by kernel_rfl) (by kernel_rfl) (fun _ _ _ h => h) (Or.inl ⟨by rfl, ?_⟩) (by assumption) ?_
      rotate_left
      · (intro w hSw; (try dsimp only at hSw); go_simp; try with_reducible rfl)
      try simp only [Act.put, List.setIfInBounds_toArray, List.set_cons_zero, List.set_cons_succ]
      refine Till.take 4 (some 96) (v := ?_) rfl rfl (by kernel_rfl) (by kernel_rfl) (by kernel_rfl) (by kernel_rfl) (fun _ _ _ h => h) (Or.inl ⟨by rfl, ?_⟩) (by assumption) ?_
      rotate_left
      · (intro w hSw; (try dsimp only at hSw); go_simp; try with_reducible rfl)
      try simp only [Act.put, List.setIfInBounds_toArray, List.set_cons_zero, List.set_cons_succ]
      refine Till.one 5 rfl (by kernel_rfl) (fun K hK => ?_)
      go_simp
      go_at_call 48
      refine (atP_any _ pl 2 _ (HP.out _ (hA1.trans (D0.mono hA1.size))) (by omega) (by unfold I64; omega)).mono ?_
      rintro e V ⟨m, rfl, hm, hb⟩
      have D1 := D0.trans (hb.mono D0.size)
      have hh := HSV.out _ D1
      refine hK.out _ _ (fun _ => hh) (fun hHeld2 => ?_)
      clear hK K hb
      try simp only [Act.put, List.setIfInBounds_toArray, List.set_cons_zero, List.set_cons_succ]
      have hwm : IntKind.i64.wrap m = m := (IntWalk.i64_left _).trans (wrap_id _ (by unfold I64; omega))
      obtain ⟨d, q1, q2, q3, hd1, hd2⟩ := less_num (l := x.load.force) (m := m) (by omega) hm
      refine Till.take 6 (some 98) (v := ?_) rfl rfl (by kernel_rfl) (by kernel_rfl) (by kernel_rfl) (by kernel_rfl) (fun _ _ _ h => h) (Or.inl ⟨by rfl, ?_⟩) (by assumption) ?_
      rotate_left
      · (intro w hSw; (try dsimp only at hSw); go_simp; try with_reducible rfl)
      try simp only [Act.put, List.setIfInBounds_toArray, List.set_cons_zero, List.set_cons_succ]
      refine Till.take 7 (some 99) (v := ?_) rfl rfl (by kernel_rfl) (by kernel_rfl) (by kernel_rfl) (by kernel_rfl) (fun _ _ _ h => h) (Or.inl ⟨by rfl, ?_⟩) (by assumption) ?_
      rotate_left
      · (intro w hSw; (try dsimp only at hSw); go_simp; try with_reducible rfl)
      try simp only [Act.put, List.setIfInBounds_toArray, List.set_cons_zero, List.set_cons_succ]
      refine Till.take 8 (some 100) (v := ?_) rfl rfl (by kernel_rfl) (by kernel_rfl) (by kernel_rfl) (by kernel_rfl) (fun _ _ _ h => h) (Or.inl ⟨by rfl, ?_⟩) (by assumption) ?_
      rotate_left
      · (intro w hSw; (try dsimp only at hSw); go_simp; try with_reducible rfl)
      try simp only [Act.put, List.setIfInBounds_toArray, List.set_cons_zero, List.set_cons_succ]
      refine Till.take 9 (some 101) (v := ?_) rfl rfl (by kernel_rfl) (by kernel_rfl) (by kernel_rfl) (by kernel_rfl) (fun _ _ _ h => h) (Or.inl ⟨by rfl, ?_⟩) (by assumption) ?_
      rotate_left
      · (intro w hSw; (try dsimp only at hSw); go_simp; try with_reducible rfl)
      try simp only [Act.put, List.setIfInBounds_toArray, List.set_cons_zero, List.set_cons_succ]
      refine Till.take 10 (some 102) (v := ?_) rfl rfl (by kernel_rfl) (by kernel_rfl) (by kernel_rfl) (by kernel_rfl) (fun _ _ _ h => h) (Or.inl ⟨by rfl, ?_⟩) (by assumption) ?_
      rotate_left
      · (intro w hSw; (try dsimp only at hSw); go_simp; try with_reducible rfl)
      try simp only [Act.put, List.setIfInBounds_toArray, List.set_cons_zero, List.set_cons_succ]
      refine Till.one 11 rfl (by kernel_rfl) (fun K hK => ?_)
      have hLV := hL1.below D1 hL1.lt
      have e0 := hLV.cell 1 _ rfl
      have g0 := hLV.frozen 1
      go_simp
      refine hK.out _ _ (fun h => absurd rfl h) (fun _ => ?_)
      clear hK K
      refine Till.done (by kernel_rfl) ?_ _
      have hA2 := (hA1.trans (D1.mono hA1.size)).setCell (p := ⟨wr.heap.size, 1, none⟩) (by simp only; omega) (.int .i64 (x.load.force - d))
      have hD2 := (hD1.trans (D1.mono hD1.size)).setCell (p := ⟨wr.heap.size, 1, none⟩) (by simp only; omega) (.int .i64 (x.load.force - d))
      have hL2 : Blk (V.setCell ⟨wr.heap.size, 1, none⟩ (.int .i64 (x.load.force - d))) wr.heap.size #[.int .i64 l0, .int .i64 (x.load.force - d), .int .i64 x.load.speed, .int .i64 x.load.other] 27 := by simpa using hLV.set 1 (.int .i64 (x.load.force - d))
      clear hA1 hD1 hL1 hLV d0 e0 g0 HSV D0 D1 hh hHeld hHeld2 q1 q2 q3
      generalize V.setCell ⟨wr.heap.size, 1, none⟩ (.int .i64 (x.load.force - d)) = W2 at *
      obtain ⟨l1, hl1⟩ : ∃ v, x.load.force - d = v := ⟨_, rfl⟩
      rw [hl1] at hL2 hd1 hd2
      have hl1b : Hid (0 ≤ l1 ∧ l1 ≤ x.load.force) := Lib.hid ⟨hd1, hd2⟩
      clear hl1 hd1 hd2 hm hwm
      go_wp2_with fail
      have d0 := hL2.cell 2 _ rfl
      simp only [List.getElem_toArray, List.getElem_cons_zero, List.getElem_cons_succ] at d0
      have HSV : Hid (∀ V, Below W2.heap.size W2 V → (fun w' : World => w'.cell? ⟨wr.heap.size, 2, none⟩ = some (.int .i64 x.load.speed)) V) := Lib.hid (fun V hV => ext_of_below hV _ _ d0)
      have D0 : Below W2.heap.size W2 W2.drew := (Below.refl _ _).drew
      refine wp_region_till (fun w' : World => w'.cell? ⟨wr.heap.size, 2, none⟩ = some (.int .i64 x.load.speed)) 11 (by kernel_rfl) (HSV.out _ D0) (fun hHeld => ?_)
      refine Till.take 0 (some 103) (v := ?_) rfl rfl (by kernel_rfl) (by kernel_rfl) (by kernel_rfl) (by kernel_rfl) (fun _ _ _ h => h) (Or.inl ⟨by rfl, ?_⟩) (by assumption) ?_
      rotate_left
      · (intro w hSw; (try dsimp only at hSw); go_simp; try with_reducible rfl)
      try simp only [Act.put, List.setIfInBounds_toArray, List.set_cons_zero, List.set_cons_succ]
      refine Till.take 1 (some 104) (v := ?_) rfl rfl (by kernel_rfl) (by kernel_rfl) (by kernel_rfl) (by kernel_rfl) (fun _ _ _ h => h) (Or.inl ⟨by rfl, ?_⟩) (by assumption) ?_
      rotate_left
      · (intro w hSw; (try dsimp only at hSw); go_simp; try with_reducible rfl)
      try simp only [Act.put, List.setIfInBounds_toArray, List.set_cons_zero, List.set_cons_succ]
      refine Till.take 2 (some 105) (v := ?_) rfl rfl (by kernel_rfl) (by kernel_rfl) (by kernel_rfl) (by kernel_rfl) (fun _ _ _ h => h) (Or.inl ⟨by rfl, ?_⟩) (by assumption) ?_
      rotate_left
      · (intro w hSw; (try dsimp only at hSw); go_simp; try with_reducible rfl)
      try simp only [Act.put, List.setIfInBounds_toArray, List.set_cons_zero, List.set_cons_succ]
      refine Till.take 3 (some 106) (v := ?_) rfl rfl (by kernel_rfl) (by kernel_rfl) (by kernel_rfl) (by kernel_rfl) (fun _ _ _ h => h) (Or.inl ⟨by rfl, ?_⟩) (by assumption) ?_
      rotate_left
      · (intro w hSw; (try dsimp only at hSw); go_simp; try with_reducible rfl)
      try simp only [Act.put, List.setIfInBounds_toArray, List.set_cons_zero, List.set_cons_succ]
      refine Till.take 4 (some 107) (v := ?_) rfl rfl (by kernel_rfl) (by kernel_rfl) (by kernel_rfl) (by kernel_rfl) (fun _ _ _ h => h) (Or.inl ⟨by rfl, ?_⟩) (by assumption) ?_
      rotate_left
      · (intro w hSw; (try dsimp only at hSw); go_simp; try with_reducible rfl)
      try simp only [Act.put, List.setIfInBounds_toArray, List.set_cons_zero, List.set_cons_succ]
      refine Till.one 5 rfl (by kernel_rfl) (fun K hK => ?_)
      go_simp
      go_at_call 48
      refine (atP_any _ pl 3 _ (HP.out _ (hA2.trans (D0.mono hA2.size))) (by omega) (by unfold I64; omega)).mono ?_
      rintro e V ⟨m, rfl, hm, hb⟩
      have D1 := D0.trans (hb.mono D0.size)
      have hh := HSV.out _ D1
      refine hK.out _ _ (fun _ => hh) (fun hHeld2 => ?_)
      clear hK K hb
      try simp only [Act.put, List.setIfInBounds_toArray, List.set_cons_zero, List.set_cons_succ]
      have hwm : IntKind.i64.wrap m = m := (IntWalk.i64_left _).trans (wrap_id _ (by unfold I64; omega))
      obtain ⟨d, q1, q2, q3, hd1, hd2⟩ := less_num (l := x.load.speed) (m := m) (by omega) hm
      refine Till.take 6 (some 109) (v := ?_) rfl rfl (by kernel_rfl) (by kernel_rfl) (by kernel_rfl) (by kernel_rfl) (fun _ _ _ h => h) (Or.inl ⟨by rfl, ?_⟩) (by assumption) ?_
      rotate_left
      · (intro w hSw; (try dsimp only at hSw); go_simp; try with_reducible rfl)
      try simp only [Act.put, List.setIfInBounds_toArray, List.set_cons_zero, List.set_cons_succ]
      refine Till.take 7 (some 110) (v := ?_) rfl rfl (by kernel_rfl) (by kernel_rfl) (by kernel_rfl) (by kernel_rfl) (fun _ _ _ h => h) (Or.inl ⟨by rfl, ?_⟩) (by assumption) ?_
      rotate_left
      · (intro w hSw; (try dsimp only at hSw); go_simp; try with_reducible rfl)
      try simp only [Act.put, List.setIfInBounds_toArray, List.set_cons_zero, List.set_cons_succ]
      refine Till.take 8 (some 111) (v := ?_) rfl rfl (by kernel_rfl) (by kernel_rfl) (by kernel_rfl) (by kernel_rfl) (fun _ _ _ h => h) (Or.inl ⟨by rfl, ?_⟩) (by assumption) ?_
      rotate_left
      · (intro w hSw; (try dsimp only at hSw); go_simp; try with_reducible rfl)
      try simp only [Act.put, List.setIfInBounds_toArray, List.set_cons_zero, List.set_cons_succ]
      refine Till.take 9 (some 112) (v := ?_) rfl rfl (by kernel_rfl) (by kernel_rfl) (by kernel_rfl) (by kernel_rfl) (fun _ _ _ h => h) (Or.inl ⟨by rfl, ?_⟩) (by assumption) ?_
      rotate_left
      · (intro w hSw; (try dsimp only at hSw); go_simp; try with_reducible rfl)
      try simp only [Act.put, List.setIfInBounds_toArray, List.set_cons_zero, List.set_cons_succ]
      refine Till.take 10 (some 113) (v := ?_) rfl rfl (by kernel_rfl) (by kernel_rfl) (by kernel_rfl) (by kernel_rfl) (fun _ _ _ h => h) (Or.inl ⟨by rfl, ?_⟩) (by assumption) ?_
      rotate_left
      · (intro w hSw; (try dsimp only at hSw); go_simp; try with_reducible rfl)
      try simp only [Act.put, List.setIfInBounds_toArray, List.set_cons_zero, List.set_cons_succ]
      refine Till.one 11 rfl (by kernel_rfl) (fun K hK => ?_)
      have hLV := hL2.below D1 hL2.lt
      have e0 := hLV.cell 2 _ rfl
      have g0 := hLV.frozen 2
      go_simp
      refine hK.out _ _ (fun h => absurd rfl h) (fun _ => ?_)
      clear hK K
      refine Till.done (by kernel_rfl) ?_ _
      have hA3 := (hA2.trans (D1.mono hA2.size)).setCell (p := ⟨wr.heap.size, 2, none⟩) (by simp only; omega) (.int .i64 (x.load.speed - d))
      have hD3 := (hD2.trans (D1.mono hD2.size)).setCell (p := ⟨wr.heap.size, 2, none⟩) (by simp only; omega) (.int .i64 (x.load.speed - d))
      have hL3 : Blk (V.setCell ⟨wr.heap.size, 2, none⟩ (.int .i64 (x.load.speed - d))) wr.heap.size #[.int .i64 l0, .int .i64 l1, .int .i64 (x.load.speed - d), .int .i64 x.load.other] 27 := by simpa using hLV.set 2 (.int .i64 (x.load.speed - d))
      clear hA2 hD2 hL2 hLV d0 e0 g0 HSV D0 D1 hh hHeld hHeld2 q1 q2 q3
      generalize V.setCell ⟨wr.heap.size, 2, none⟩ (.int .i64 (x.load.speed - d)) = W3 at *
      obtain ⟨l2, hl2⟩ : ∃ v, x.load.speed - d = v := ⟨_, rfl⟩
      rw [hl2] at hL3 hd1 hd2
      have hl2b : Hid (0 ≤ l2 ∧ l2 ≤ x.load.speed) := Lib.hid ⟨hd1, hd2⟩
      clear hl2 hd1 hd2 hm hwm
      go_wp2_with fail
      have d0 := hL3.cell 3 _ rfl
      simp only [List.getElem_toArray, List.getElem_cons_zero, List.getElem_cons_succ] at d0
      have HSV : Hid (∀ V, Below W3.heap.size W3 V → (fun w' : World => w'.cell? ⟨wr.heap.size, 3, none⟩ = some (.int .i64 x.load.other)) V) := Lib.hid (fun V hV => ext_of_below hV _ _ d0)
      have D0 : Below W3.heap.size W3 W3.drew := (Below.refl _ _).drew
      refine wp_region_till (fun w' : World => w'.cell? ⟨wr.heap.size, 3, none⟩ = some (.int .i64 x.load.other)) 11 (by kernel_rfl) (HSV.out _ D0) (fun hHeld => ?_)
      refine Till.take 0 (some 114) (v := ?_) rfl rfl (by kernel_rfl) (by kernel_rfl) (by kernel_rfl) (by kernel_rfl) (fun _ _ _ h => h) (Or.inl ⟨by rfl, ?_⟩) (by assumption) ?_
      rotate_left
      · (intro w hSw; (try dsimp only at hSw); go_simp; try with_reducible rfl)
      try simp only [Act.put, List.setIfInBounds_toArray, List.set_cons_zero, List.set_cons_succ]
      refine Till.take 1 (some 115) (v := ?_) rfl rfl (by kernel_rfl) (by kernel_rfl) (by kernel_rfl) (by kernel_rfl) (fun _ _ _ h => h) (Or.inl ⟨by rfl, ?_⟩) (by assumption) ?_
      rotate_left
      · (intro w hSw; (try dsimp only at hSw); go_simp; try with_reducible rfl)
      try simp only [Act.put, List.setIfInBounds_toArray, List.set_cons_zero, List.set_cons_succ]
      refine Till.take 2 (some 116) (v := ?_) rfl rfl (by kernel_rfl) (by kernel_rfl) (by kernel_rfl) (by kernel_rfl) (fun _ _ _ h => h) (Or.inl ⟨by rfl, ?_⟩) (by assumption) ?_
      rotate_left
      · (intro w hSw; (try dsimp only at hSw); go_simp; try with_reducible rfl)
      try simp only [Act.put, List.setIfInBounds_toArray, List.set_cons_zero, List.set_cons_succ]
      refine Till.take 3 (some 117) (v := ?_) rfl rfl (by kernel_rfl) (by kernel_rfl) (by kernel_rfl) (by kernel_rfl) (fun _ _ _ h => h) (Or.inl ⟨by rfl, ?_⟩) (by assumption) ?_
      rotate_left
      · (intro w hSw; (try dsimp only at hSw); go_simp; try with_reducible rfl)
      try simp only [Act.put, List.setIfInBounds_toArray, List.set_cons_zero, List.set_cons_succ]
      refine Till.take 4 (some 118) (v := ?_) rfl rfl (by kernel_rfl) (by kernel_rfl) (by kernel_rfl) (by kernel_rfl) (fun _ _ _ h => h) (Or.inl ⟨by rfl, ?_⟩) (by assumption) ?_
      rotate_left
      · (intro w hSw; (try dsimp only at hSw); go_simp; try with_reducible rfl)
      try simp only [Act.put, List.setIfInBounds_toArray, List.set_cons_zero, List.set_cons_succ]
      refine Till.one 5 rfl (by kernel_rfl) (fun K hK => ?_)
      go_simp
      go_at_call 48
      refine (atP_any _ pl 4 _ (HP.out _ (hA3.trans (D0.mono hA3.size))) (by omega) (by unfold I64; omega)).mono ?_
      rintro e V ⟨m, rfl, hm, hb⟩
      have D1 := D0.trans (hb.mono D0.size)
      have hh := HSV.out _ D1
      refine hK.out _ _ (fun _ => hh) (fun hHeld2 => ?_)
      clear hK K hb
      try simp only [Act.put, List.setIfInBounds_toArray, List.set_cons_zero, List.set_cons_succ]
      have hwm : IntKind.i64.wrap m = m := (IntWalk.i64_left _).trans (wrap_id _ (by unfold I64; omega))
      obtain ⟨d, q1, q2, q3, hd1, hd2⟩ := less_num (l := x.load.other) (m := m) (by omega) hm
      refine Till.take 6 (some 120) (v := ?_) rfl rfl (by kernel_rfl) (by kernel_rfl) (by kernel_rfl) (by kernel_rfl) (fun _ _ _ h => h) (Or.inl ⟨by rfl, ?_⟩) (by assumption) ?_
      rotate_left
      · (intro w hSw; (try dsimp only at hSw); go_simp; try with_reducible rfl)
      try simp only [Act.put, List.setIfInBounds_toArray, List.set_cons_zero, List.set_cons_succ]
      refine Till.take 7 (some 121) (v := ?_) rfl rfl (by kernel_rfl) (by kernel_rfl) (by kernel_rfl) (by kernel_rfl) (fun _ _ _ h => h) (Or.inl ⟨by rfl, ?_⟩) (by assumption) ?_
      rotate_left
      · (intro w hSw; (try dsimp only at hSw); go_simp; try with_reducible rfl)
      try simp only [Act.put, List.setIfInBounds_toArray, List.set_cons_zero, List.set_cons_succ]
      refine Till.take 8 (some 122) (v := ?_) rfl rfl (by kernel_rfl) (by kernel_rfl) (by kernel_rfl) (by kernel_rfl) (fun _ _ _ h => h) (Or.inl ⟨by rfl, ?_⟩) (by assumption) ?_
      rotate_left
      · (intro w hSw; (try dsimp only at hSw); go_simp; try with_reducible rfl)
      try simp only [Act.put, List.setIfInBounds_toArray, List.set_cons_zero, List.set_cons_succ]
      refine Till.take 9 (some 123) (v := ?_) rfl rfl (by kernel_rfl) (by kernel_rfl) (by kernel_rfl) (by kernel_rfl) (fun _ _ _ h => h) (Or.inl ⟨by rfl, ?_⟩) (by assumption) ?_
      rotate_left
      · (intro w hSw; (try dsimp only at hSw); go_simp; try with_reducible rfl)
      try simp only [Act.put, List.setIfInBounds_toArray, List.set_cons_zero, List.set_cons_succ]
      refine Till.take 10 (some 124) (v := ?_) rfl rfl (by kernel_rfl) (by kernel_rfl) (by kernel_rfl) (by kernel_rfl) (fun _ _ _ h => h) (Or.inl ⟨by rfl, ?_⟩) (by assumption) ?_
      rotate_left
      · (intro w hSw; (try dsimp only at hSw); go_simp; try with_reducible rfl)
      try simp only [Act.put, List.setIfInBounds_toArray, List.set_cons_zero, List.set_cons_succ]
      refine Till.one 11 rfl (by kernel_rfl) (fun K hK => ?_)
      have hLV := hL3.below D1 hL3.lt
      have e0 := hLV.cell 3 _ rfl
      have g0 := hLV.frozen 3
      go_simp
      refine hK.out _ _ (fun h => absurd rfl h) (fun _ => ?_)
      clear hK K
      refine Till.done (by kernel_rfl) ?_ _
      have hA4 := (hA3.trans (D1.mono hA3.size)).setCell (p := ⟨wr.heap.size, 3, none⟩) (by simp only; omega) (.int .i64 (x.load.other - d))
      have hD4 := (hD3.trans (D1.mono hD3.size)).setCell (p := ⟨wr.heap.size, 3, none⟩) (by simp only; omega) (.int .i64 (x.load.other - d))
      have hL4 : Blk (V.setCell ⟨wr.heap.size, 3, none⟩ (.int .i64 (x.load.other - d))) wr.heap.size #[.int .i64 l0, .int .i64 l1, .int .i64 l2, .int .i64 (x.load.other - d)] 27 := by simpa using hLV.set 3 (.int .i64 (x.load.other - d))
      clear hA3 hD3 hL3 hLV d0 e0 g0 HSV D0 D1 hh hHeld hHeld2 q1 q2 q3
      generalize V.setCell ⟨wr.heap.size, 3, none⟩ (.int .i64 (x.load.other - d)) = W4 at *
      obtain ⟨l3, hl3⟩ : ∃ v, x.load.other - d = v := ⟨_, rfl⟩
      rw [hl3] at hL4 hd1 hd2
      have hl3b : Hid (0 ≤ l3 ∧ l3 ≤ x.load.other) := Lib.hid ⟨hd1, hd2⟩
      clear hl3 hd1 hd2 hm hwm
      have hB4 := hBr.below hD4 hBr.lt
      have c0 := hB4.cell 0 _ rfl
      have c1 := hB4.cell 1 _ rfl
      have c2 := hB4.cell 2 _ rfl
      have lW4 := hL4.lt
      go_wp2_with fail
      have hE0 := Blk.new W4 #[.slice a b.rings.length cap, .int .i64 b.flaw, .int .i64 b.tough] 24
      have hA5 : Below w.heap.size w (W4.alloc (.cells #[.slice a b.rings.length cap, .int .i64 b.flaw, .int .i64 b.tough] 24)) := hA4.alloc hA4.size _
      have hD5 : Below wr.heap.size wr (W4.alloc (.cells #[.slice a b.rings.length cap, .int .i64 b.flaw, .int .i64 b.tough] 24)) := hD4.alloc hD4.size _
      have hF5 : Below W4.heap.size W4 (W4.alloc (.cells #[.slice a b.rings.length cap, .int .i64 b.flaw, .int .i64 b.tough] 24)) := below_boxS W4 _
      clear hB4 c0 c1 c2
      generalize W4.alloc (.cells #[.slice a b.rings.length cap, .int .i64 b.flaw, .int .i64 b.tough] 24) = W5 at *
      have hBk := hBr.below hD5 hBr.lt
      have d0 := hBk.cell 1 _ rfl
      simp only [List.getElem_toArray, List.getElem_cons_zero, List.getElem_cons_succ] at d0
      have HSV : Hid (∀ V, Below W5.heap.size W5 V → (fun w' : World => w'.cell? ⟨w.heap.size, 1, none⟩ = some (.int .i64 b.flaw)) V) := Lib.hid (fun V hV => ext_of_below hV _ _ d0)
      have D0 : Below W5.heap.size W5 W5.drew := (Below.refl _ _).drew
      refine wp_region_till (fun w' : World => w'.cell? ⟨w.heap.size, 1, none⟩ = some (.int .i64 b.flaw)) 8 (by kernel_rfl) (HSV.out _ D0) (fun hHeld => ?_)
      refine Till.take 0 (some 126) (v := ?_) rfl rfl (by kernel_rfl) (by kernel_rfl) (by kernel_rfl) (by kernel_rfl) (fun _ _ _ h => h) (Or.inl ⟨by rfl, ?_⟩) (by assumption) ?_
      rotate_left
      · (intro w hSw; (try dsimp only at hSw); go_simp; try with_reducible rfl)
      try simp only [Act.put, List.setIfInBounds_toArray, List.set_cons_zero, List.set_cons_succ]
      refine Till.take 1 (some 127) (v := ?_) rfl rfl (by kernel_rfl) (by kernel_rfl) (by kernel_rfl) (by kernel_rfl) (fun _ _ _ h => h) (Or.inl ⟨by rfl, ?_⟩) (by assumption) ?_
      rotate_left
      · (intro w hSw; (try dsimp only at hSw); go_simp; try with_reducible rfl)
      try simp only [Act.put, List.setIfInBounds_toArray, List.set_cons_zero, List.set_cons_succ]
      refine Till.take 2 (some 128) (v := ?_) rfl rfl (by kernel_rfl) (by kernel_rfl) (by kernel_rfl) (by kernel_rfl) (fun _ _ _ h => h) (Or.inl ⟨by rfl, ?_⟩) (by assumption) ?_
      rotate_left
      · (intro w hSw; (try dsimp only at hSw); go_simp; try with_reducible rfl)
      try simp only [Act.put, List.setIfInBounds_toArray, List.set_cons_zero, List.set_cons_succ]
      refine Till.one 3 rfl (by kernel_rfl) (fun K hK => ?_)
      go_simp
      go_at_call 48
      refine (atP_any _ pl 5 _ (HP.out _ (hA5.trans (D0.mono hA5.size))) (by omega) (by unfold I64; omega)).mono ?_
      rintro e V ⟨m, rfl, hm, hb⟩
      have D1 := D0.trans (hb.mono D0.size)
      have hh := HSV.out _ D1
      refine hK.out _ _ (fun _ => hh) (fun hHeld2 => ?_)
      clear hK K hb
      try simp only [Act.put, List.setIfInBounds_toArray, List.set_cons_zero, List.set_cons_succ]
      have hwm : IntKind.i64.wrap m = m := (IntWalk.i64_left _).trans (wrap_id _ (by unfold I64; omega))
      have hfl := HOW.out.bot.flaw
      have q1 : IntKind.i64.wrap (b.flaw - m) = b.flaw - m := (IntWalk.i64_left _).trans (wrap_id _ (by unfold I64; omega))
      obtain ⟨f, hf⟩ : ∃ f, f = max 1 (b.flaw - m) := ⟨_, rfl⟩
      have q2 : (if 1 < b.flaw - m then b.flaw - m else 1) = f := by rw [max_if, hf]
      have hfb : Hid (1 ≤ f ∧ f ≤ b.flaw) := Lib.hid (by omega)
      clear hf hfl
      refine Till.take 4 (some 130) (v := ?_) rfl rfl (by kernel_rfl) (by kernel_rfl) (by kernel_rfl) (by kernel_rfl) (fun _ _ _ h => h) (Or.inl ⟨by rfl, ?_⟩) (by assumption) ?_
      rotate_left
      · (intro w hSw; (try dsimp only at hSw); go_simp; try with_reducible rfl)
      try simp only [Act.put, List.setIfInBounds_toArray, List.set_cons_zero, List.set_cons_succ]
      refine Till.take 5 (some 131) (v := ?_) rfl rfl (by kernel_rfl) (by kernel_rfl) (by kernel_rfl) (by kernel_rfl) (fun _ _ _ h => h) (Or.inl ⟨by rfl, ?_⟩) (by assumption) ?_
      rotate_left
      · (intro w hSw; (try dsimp only at hSw); go_simp; try with_reducible rfl)
      try simp only [Act.put, List.setIfInBounds_toArray, List.set_cons_zero, List.set_cons_succ]
      refine Till.take 6 (some 132) (v := ?_) rfl rfl (by kernel_rfl) (by kernel_rfl) (by kernel_rfl) (by kernel_rfl) (fun _ _ _ h => h) (Or.inl ⟨by rfl, ?_⟩) (by assumption) ?_
      rotate_left
      · (intro w hSw; (try dsimp only at hSw); go_simp; try with_reducible rfl)
      try simp only [Act.put, List.setIfInBounds_toArray, List.set_cons_zero, List.set_cons_succ]
      refine Till.take 7 (some 133) (v := ?_) rfl rfl (by kernel_rfl) (by kernel_rfl) (by kernel_rfl) (by kernel_rfl) (fun _ _ _ h => h) (Or.inl ⟨by rfl, ?_⟩) (by assumption) ?_
      rotate_left
      · (intro w hSw; (try dsimp only at hSw); go_simp; try with_reducible rfl)
      try simp only [Act.put, List.setIfInBounds_toArray, List.set_cons_zero, List.set_cons_succ]
      refine Till.one 8 rfl (by kernel_rfl) (fun K hK => ?_)
      have hEV := hE0.below D1 hE0.lt
      have e0 := hEV.cell 1 _ rfl
      have g0 := hEV.frozen 1
      go_simp
      refine hK.out _ _ (fun h => absurd rfl h) (fun _ => ?_)
      clear hK K
      refine Till.done (by kernel_rfl) ?_ _
      have hA6 := (hA5.trans (D1.mono hA5.size)).setCell (p := ⟨W4.heap.size, 1, none⟩) (by simp only; omega) (.int .i64 f)
      have hD6 := (hD5.trans (D1.mono hD5.size)).setCell (p := ⟨W4.heap.size, 1, none⟩) (by simp only; omega) (.int .i64 f)
      have hF6 := (hF5.trans (D1.mono hF5.size)).setCell (p := ⟨W4.heap.size, 1, none⟩) (by simp only; omega) (.int .i64 f)
      have hE1 : Blk (V.setCell ⟨W4.heap.size, 1, none⟩ (.int .i64 f)) W4.heap.size #[.slice a b.rings.length cap, .int .i64 f, .int .i64 b.tough] 24 := by simpa using hEV.set 1 (.int .i64 f)
      clear hA5 hD5 hF5 hE0 hEV d0 e0 g0 HSV D0 D1 hh hHeld hHeld2 q1 q2 hBk hm hwm
      generalize V.setCell ⟨W4.heap.size, 1, none⟩ (.int .i64 f) = W6 at *
      go_wp2_with fail
      have hBk := hBr.below hD6 hBr.lt
      have d0 := hBk.cell 2 _ rfl
      simp only [List.getElem_toArray, List.getElem_cons_zero, List.getElem_cons_succ] at d0
      have HSV : Hid (∀ V, Below W6.heap.size W6 V → (fun w' : World => w'.cell? ⟨w.heap.size, 2, none⟩ = some (.int .i64 b.tough)) V) := Lib.hid (fun V hV => ext_of_below hV _ _ d0)
      have D0 : Below W6.heap.size W6 W6.drew := (Below.refl _ _).drew
      refine wp_region_till (fun w' : World => w'.cell? ⟨w.heap.size, 2, none⟩ = some (.int .i64 b.tough)) 8 (by kernel_rfl) (HSV.out _ D0) (fun hHeld => ?_)
      refine Till.take 0 (some 134) (v := ?_) rfl rfl (by kernel_rfl) (by kernel_rfl) (by kernel_rfl) (by kernel_rfl) (fun _ _ _ h => h) (Or.inl ⟨by rfl, ?_⟩) (by assumption) ?_
      rotate_left
      · (intro w hSw; (try dsimp only at hSw); go_simp; try with_reducible rfl)
      try simp only [Act.put, List.setIfInBounds_toArray, List.set_cons_zero, List.set_cons_succ]
      refine Till.take 1 (some 135) (v := ?_) rfl rfl (by kernel_rfl) (by kernel_rfl) (by kernel_rfl) (by kernel_rfl) (fun _ _ _ h => h) (Or.inl ⟨by rfl, ?_⟩) (by assumption) ?_
      rotate_left
      · (intro w hSw; (try dsimp only at hSw); go_simp; try with_reducible rfl)
      try simp only [Act.put, List.setIfInBounds_toArray, List.set_cons_zero, List.set_cons_succ]
      refine Till.take 2 (some 136) (v := ?_) rfl rfl (by kernel_rfl) (by kernel_rfl) (by kernel_rfl) (by kernel_rfl) (fun _ _ _ h => h) (Or.inl ⟨by rfl, ?_⟩) (by assumption) ?_
      rotate_left
      · (intro w hSw; (try dsimp only at hSw); go_simp; try with_reducible rfl)
      try simp only [Act.put, List.setIfInBounds_toArray, List.set_cons_zero, List.set_cons_succ]
      refine Till.one 3 rfl (by kernel_rfl) (fun K hK => ?_)
      go_simp
      go_at_call 48
      refine (atP_any _ pl 6 _ (HP.out _ (hA6.trans (D0.mono hA6.size))) (by omega) (by unfold I64; omega)).mono ?_
      rintro e V ⟨m, rfl, hm, hb⟩
      have D1 := D0.trans (hb.mono D0.size)
      have hh := HSV.out _ D1
      refine hK.out _ _ (fun _ => hh) (fun hHeld2 => ?_)
      clear hK K hb
      try simp only [Act.put, List.setIfInBounds_toArray, List.set_cons_zero, List.set_cons_succ]
      have hwm : IntKind.i64.wrap m = m := (IntWalk.i64_left _).trans (wrap_id _ (by unfold I64; omega))
      have hto := HOW.out.bot.tough
      have q1 : IntKind.i64.wrap (b.tough + m) = b.tough + m := (IntWalk.i64_left _).trans (wrap_id _ (by unfold I64; omega))
      obtain ⟨tg, hf⟩ : ∃ t, t = min 1000000000000000 (b.tough + m) := ⟨_, rfl⟩
      have q2 : (if b.tough + m < 1000000000000000 then b.tough + m else 1000000000000000) = tg := by rw [min_if, hf]
      have htb : Hid (b.tough ≤ tg ∧ tg ≤ 1000000000000000) := Lib.hid (by omega)
      clear hf hto
      refine Till.take 4 (some 138) (v := ?_) rfl rfl (by kernel_rfl) (by kernel_rfl) (by kernel_rfl) (by kernel_rfl) (fun _ _ _ h => h) (Or.inl ⟨by rfl, ?_⟩) (by assumption) ?_
      rotate_left
      · (intro w hSw; (try dsimp only at hSw); go_simp; try with_reducible rfl)
      try simp only [Act.put, List.setIfInBounds_toArray, List.set_cons_zero, List.set_cons_succ]
      refine Till.take 5 (some 139) (v := ?_) rfl rfl (by kernel_rfl) (by kernel_rfl) (by kernel_rfl) (by kernel_rfl) (fun _ _ _ h => h) (Or.inl ⟨by rfl, ?_⟩) (by assumption) ?_
      rotate_left
      · (intro w hSw; (try dsimp only at hSw); go_simp; try with_reducible rfl)
      try simp only [Act.put, List.setIfInBounds_toArray, List.set_cons_zero, List.set_cons_succ]
      refine Till.take 6 (some 140) (v := ?_) rfl rfl (by kernel_rfl) (by kernel_rfl) (by kernel_rfl) (by kernel_rfl) (fun _ _ _ h => h) (Or.inl ⟨by rfl, ?_⟩) (by assumption) ?_
      rotate_left
      · (intro w hSw; (try dsimp only at hSw); go_simp; try with_reducible rfl)
      try simp only [Act.put, List.setIfInBounds_toArray, List.set_cons_zero, List.set_cons_succ]
      refine Till.take 7 (some 141) (v := ?_) rfl rfl (by kernel_rfl) (by kernel_rfl) (by kernel_rfl) (by kernel_rfl) (fun _ _ _ h => h) (Or.inl ⟨by rfl, ?_⟩) (by assumption) ?_
      rotate_left
      · (intro w hSw; (try dsimp only at hSw); go_simp; try with_reducible rfl)
      try simp only [Act.put, List.setIfInBounds_toArray, List.set_cons_zero, List.set_cons_succ]
      refine Till.one 8 rfl (by kernel_rfl) (fun K hK => ?_)
      have hEV := hE1.below D1 hE1.lt
      have e0 := hEV.cell 2 _ rfl
      have g0 := hEV.frozen 2
      go_simp
      refine hK.out _ _ (fun h => absurd rfl h) (fun _ => ?_)
      clear hK K
      refine Till.done (by kernel_rfl) ?_ _
      have hA7 := (hA6.trans (D1.mono hA6.size)).setCell (p := ⟨W4.heap.size, 2, none⟩) (by simp only; omega) (.int .i64 tg)
      have hD7 := (hD6.trans (D1.mono hD6.size)).setCell (p := ⟨W4.heap.size, 2, none⟩) (by simp only; omega) (.int .i64 tg)
      have hF7 := (hF6.trans (D1.mono hF6.size)).setCell (p := ⟨W4.heap.size, 2, none⟩) (by simp only; omega) (.int .i64 tg)
      have hE2 : Blk (V.setCell ⟨W4.heap.size, 2, none⟩ (.int .i64 tg)) W4.heap.size #[.slice a b.rings.length cap, .int .i64 f, .int .i64 tg] 24 := by simpa using hEV.set 2 (.int .i64 tg)
      clear hA6 hD6 hF6 hE1 hEV d0 e0 g0 HSV D0 D1 hh hHeld hHeld2 q1 q2 hBk hm hwm
      generalize V.setCell ⟨W4.heap.size, 2, none⟩ (.int .i64 tg) = W7 at *
      have hL7 := hL4.below hF7 hL4.lt
      have y0 := hL7.cell 0 _ rfl
      have y1 := hL7.cell 1 _ rfl
      have y2 := hL7.cell 2 _ rfl
      have y3 := hL7.cell 3 _ rfl
      have c0 := hE2.cell 0 _ rfl
      have c1 := hE2.cell 1 _ rfl
      have c2 := hE2.cell 2 _ rfl
      simp only [List.getElem_toArray, List.getElem_cons_zero, List.getElem_cons_succ] at y0 y1 y2 y3 c0 c1 c2
      obtain ⟨hw7, hH7, hB7⟩ := more_ok (f := f) (t := tg) HW0.out HH.out hfb.out htb.out (l' := ⟨l0, l1, l2, l3⟩) HUL.out (fun i h h' => HGT.out i h h') ⟨hl0b.out, hl1b.out, hl2b.out, hl3b.out⟩
      have hRB : RBot W7 (.agg #[.slice a b.rings.length cap, .int .i64 f, .int .i64 tg]) ⟨b.rings, f, tg⟩ := by
        obtain ⟨v0, he, hr, -⟩ := HR.out _ hA7
        cases he
        have h1 := hfb.out
        have h2 := htb.out
        have h3 := HOW.out.bot.flaw
        have h4 := HOW.out.bot.tough
        exact ⟨_, rfl, hr, by unfold I64; simp only; omega, by unfold I64; simp only; omega⟩
      have hho := holdsP_any _ _ ⟨b.rings, f, tg⟩ us ⟨l0, l1, l2, l3⟩ _ hRB (HRD.out.mono (ext_of_below hD7)) (HC.out _ hA7)
      have H7 := Lib.hid (And.intro hw7 (And.intro hH7 hB7))
      clear hRB hw7 hH7 hB7 hL7 hE2 hL4 hF7 hD7
      go_wp2_with fail
      refine hho.mono ?_
      rintro e W8 ⟨j, kk, rfl, hq1, -, hb8⟩
      obtain ⟨h7a, h7b, h7c⟩ := H7.out
      obtain ⟨hj, hk⟩ := hq1 h7a
      obtain rfl : j = true := hj.2 h7b
      obtain rfl : kk = false := by cases kk with | false => rfl | true => exact absurd (hk.1 rfl) h7c
      rw [h7a]
      have hA8 := hA7.trans (hb8.mono hA7.size)
      clear hho y0 y1 y2 y3 c0 c1 c2 hb8 hA7 hj hk hq1 h7b h7c h7a
      go_wp2_with fail
      refine (lives5_any _ (HC.out _ hA8)).mono ?_
      rintro e wl ⟨rfl, hbl⟩
      have hAl := hA8.trans (hbl.mono hA8.size)
      clear hbl hA8
      go_wp2
      go_ret
      exact ⟨rfl, hAl⟩

end Go.Proofs.YtokgnbagegcnpaaDoor
