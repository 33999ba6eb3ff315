/- The law StrengthInside: every input; no statement is proved here. -/
import Derived.Test.YtokgnbagegcnpaaDoorBurst2
import Derived.Test.YtokgnbagegcnpaaDoorStP
import Derived.Test.YtokgnbagegcnpaaDoorRealB
import Derived.Test.YtokgnbagegcnpaaDoorSCLaw
namespace Go.Proofs.YtokgnbagegcnpaaDoor
open Go.RowKit Go.PlainAid
set_option linter.unusedVariables false
set_option linter.unusedSimpArgs false
attribute [local go_sem ↓] exec_ask
attribute [local go_sem] Oper.semAt_some

def GoodE (ts us : List Sp) : Prop := ∀ j (h : j < us.length) (h' : j < ts.length), OkT us[j] ∧ InS us[j] ts[j]
theorem goodE_nil (ts : List Sp) : GoodE ts [] := fun j h => absurd h (by simp)
theorem goodE_snoc {ts us : List Sp} {s : Sp} (h : GoodE ts us) (hl : us.length < ts.length) (hs : OkT s) (hi : InS s ts[us.length]) : GoodE ts (us ++ [s]) := fun j h1 h2 => by
  by_cases e : j < us.length
  · have := h j e h2
    rw [List.getElem_append_left e]
    exact this
  · have : j = us.length := by rw [List.length_append, List.length_singleton] at h1; omega
    subst this
    simpa using ⟨hs, hi⟩
theorem strL_in {c b : Bot} {us ts : List Sp} {l : Ld} (h : wallS b ts l = 0) (hi : InB c b us ts) : InL (strL c us l) (strL b ts l) :=
  ⟨by rw [strL_len, strL_len, hi.len], fun j h1 h2 => by
    rw [strL_at, strL_at]
    have hj : j < b.rings.length := by rw [strL_len] at h2; exact h2
    obtain ⟨a1, a2⟩ := str_in h hi j hj
    exact ⟨a1, a2⟩⟩

set_option maxHeartbeats 8000000 in
set_option maxRecDepth 100000 in
theorem sInsideLaw_any (vb vx vp : Value) (b : Bot) (x : Ask5) (pl : List Int) (w : World) (h : RBot w vb b) (hx : RAskC w vx x) (hp : RU8s w vp pl) (hC : Circ w) :
    Calls Tryd.prog 7 #[vb, vx, vp] w (TrueB w) := by
  have h0 := h
  have hx0 := hx
  have hp0 := hp
  obtain ⟨v0, rfl, hr, hI⟩ := h
  obtain ⟨a, cap, rfl, -, -, -⟩ := hr
  obtain ⟨vt, vm, vr, pa, pk, cl, rfl, hx', -⟩ := hx
  obtain ⟨vt', vm', vr', pa', pk', he, hx1, hx2, hx3, -, hxi⟩ := hx'
  simp only [askCells, Value.agg.injEq, Array.mk.injEq, List.cons.injEq, and_true, true_and] at he
  obtain ⟨rfl, rfl, rfl, -⟩ := he
  have ht0 := hx1
  have hm0 := hx2
  have hc0 := hx3
  obtain ⟨at', kt, rfl, -, ⟨-, htm⟩, htl⟩ := hx1
  obtain ⟨am, km, rfl, -, ⟨-, hmm⟩, hml⟩ := hx2
  obtain ⟨ar, kr, rfl, -, -, -⟩ := hx3
  obtain ⟨ap, kp, rfl, -, -, -⟩ := hp
  have hA : Below w.heap.size w ((w.alloc (.cells #[.slice a b.rings.length cap, .int .i64 b.flaw, .int .i64 b.tough] 24)).alloc (.cells (askCells x (.slice at' x.thick.length kt) (.slice am x.measured.length km) (.slice ar x.recipe.length kr) pa pk) 33)) := (below_boxS w _).alloc (by simp) _
  have hB := (Blk.new w #[.slice a b.rings.length cap, .int .i64 b.flaw, .int .i64 b.tough] 24).alloc (.cells (askCells x (.slice at' x.thick.length kt) (.slice am x.measured.length km) (.slice ar x.recipe.length kr) pa pk) 33)
  have hX := Blk.new (w.alloc (.cells #[.slice a b.rings.length cap, .int .i64 b.flaw, .int .i64 b.tough] 24)) (askCells x (.slice at' x.thick.length kt) (.slice am x.measured.length km) (.slice ar x.recipe.length kr) pa pk) 33
  rw [World.size_alloc] at hX
  have hz : ((w.alloc (.cells #[.slice a b.rings.length cap, .int .i64 b.flaw, .int .i64 b.tough] 24)).alloc (.cells (askCells x (.slice at' x.thick.length kt) (.slice am x.measured.length km) (.slice ar x.recipe.length kr) pa pk) 33)).heap.size = w.heap.size + 2 := by simp
  replace hz := And.intro (Nat.le_of_eq hz) (Nat.le_of_eq hz.symm)
  simp only [askCells] at hA hB hX hz ⊢
  go_enter Tryd.func7, Tryd.ntmps7
  go_wp2_with fail
  generalize (w.alloc (.cells #[.slice a b.rings.length cap, .int .i64 b.flaw, .int .i64 b.tough] 24)).alloc _ = W2 at *
  have HI := Lib.hid hxi
  have HR := Lib.hid (fun V (hV : Below w.heap.size w V) => h0.mono (ext_of_below hV))
  have HX := Lib.hid (fun V (hV : Below w.heap.size w V) => hx0.mono (ext_of_below hV))
  have HP := Lib.hid (fun V (hV : Below w.heap.size w V) => hp0.mono (ext_of_below hV))
  have HT := Lib.hid (fun V (hV : Below w.heap.size w V) => ht0.mono (ext_of_below hV))
  have HM := Lib.hid (fun V (hV : Below w.heap.size w V) => hm0.mono (ext_of_below hV))
  have HRC := Lib.hid (fun V (hV : Below w.heap.size w V) => hc0.mono (ext_of_below hV))
  have HTL := Lib.hid (fun V (hV : Below w.heap.size w V) i (h : i < x.thick.length) => (htl i h).elim fun b' h1 => h1.elim fun o' h2 => (⟨b', o', h2.1, h2.2.mono (ext_of_below hV)⟩ : ∃ b' o', at' = some ⟨b', o', none⟩ ∧ RSp V ⟨b', o' + i * 2, none⟩ x.thick[i]))
  have HML := Lib.hid hml
  have HC := Lib.hid (fun V (hV : Below w.heap.size w V) => hC.mono (ext_of_below hV))
  clear h0 hx0 hp0 ht0 htl hC hm0 hc0 hml hxi
  simp only [askCells] at HX
  refine (great5_any _ b _ (HR.out _ hA)).mono ?_
  rintro e w1 ⟨rfl, hb1⟩
  have hA1 := hA.trans (hb1.mono hA.size)
  have hB1 := hB.below hb1 hB.lt
  have hX1 := hX.below hb1 hX.lt
  have hz1 : w.heap.size + 2 ≤ w1.heap.size := by have := hb1.size; omega
  clear hA hB hX hb1 hz
  cases hg : decide (40 < b.rings.length) with
  | true =>
    clear hB1 hX1
    go_wp2_with fail
    refine (lives5_any _ (HC.out _ hA1)).mono ?_
    rintro e wl ⟨rfl, hbl⟩
    have hAl := hA1.trans (hbl.mono hA1.size)
    clear hbl hA1
    go_wp2
    go_ret
    exact ⟨rfl, hAl⟩

  | false =>
  have c0 := hB1.cell 0 _ rfl
  have c1 := hB1.cell 1 _ rfl
  have c2 := hB1.cell 2 _ rfl
  have hld := ld_ask hX1 rfl
  go_wp2_with fail
  refine (wide5_any _ x _ (HX.out _ hA1)).mono ?_
  rintro e w2 ⟨rw, rfl, hwd, hb2⟩
  have hA2 := hA1.trans (hb2.mono hA1.size)
  have hB2 := hB1.below hb2 hB1.lt
  have hX2 := hX1.below hb2 hX1.lt
  have hz2 : w.heap.size + 2 ≤ w2.heap.size := by have := hb2.size; omega
  clear hA1 hB1 hX1 hb2 hz1 c0 c1 c2 hld
  cases rw with
  | true =>
    clear hB2 hX2
    go_wp2_with fail
    refine (lives5_any _ (HC.out _ hA2)).mono ?_
    rintro e wl ⟨rfl, hbl⟩
    have hAl := hA2.trans (hbl.mono hA2.size)
    clear hbl hA2
    go_wp2
    go_ret
    exact ⟨rfl, hAl⟩

  | false =>
  have h40 := hwd rfl
  clear hwd
  by_cases hpl : (300 : Int) < (pl.length : Int)
  · clear hB2 hX2
    go_wp2_with fail
    refine (lives5_any _ (HC.out _ hA2)).mono ?_
    rintro e wl ⟨rfl, hbl⟩
    have hAl := hA2.trans (hbl.mono hA2.size)
    clear hbl hA2
    go_wp2
    go_ret
    exact ⟨rfl, hAl⟩

  have c0 := hB2.cell 0 _ rfl
  have c1 := hB2.cell 1 _ rfl
  have c2 := hB2.cell 2 _ rfl
  have x0 := hX2.cell 0 _ rfl
  have x1 := hX2.cell 1 _ rfl
  have x2 := hX2.cell 2 _ rfl
  have x3 := hX2.cell 3 _ rfl
  have x4 := hX2.cell 4 _ rfl
  go_wp2_with fail
  refine (stressP_any _ _ b x.thick x.load _ (HR.out _ hA2) (HT.out _ hA2) (HC.out _ hA2)).mono ?_
  rintro e w3 ⟨vs, rfl, hvs, hb3⟩
  have hA3 := hA2.trans (hb3.mono hA2.size)
  have hB3 := hB2.below hb3 hB2.lt
  have hX3 := hX2.below hb3 hX2.lt
  have hz3 : w.heap.size + 2 ≤ w3.heap.size := by have := hb3.size; omega
  clear hA2 hB2 hX2 hb3 hz2
  clear c0 c1 c2 x0 x1 x2 x3 x4
  have HVS : Hid (∀ V, Below w3.heap.size w3 V → RSps V vs (strS b x.thick x.load)) := Lib.hid (fun V hV => hvs.mono ((vis_ext _ _).trans (ext_of_below hV)))
  obtain ⟨av, kv, rfl, -, -, -⟩ := hvs
  have c0 := hB3.cell 0 _ rfl
  have c1 := hB3.cell 1 _ rfl
  have c2 := hB3.cell 2 _ rfl
  have x0 := hX3.cell 0 _ rfl
  have x1 := hX3.cell 1 _ rfl
  have x2 := hX3.cell 2 _ rfl
  have x3 := hX3.cell 3 _ rfl
  have x4 := hX3.cell 4 _ rfl
  go_wp2_with fail
  refine (holdsP_any _ _ b x.thick x.load _ (HR.out _ hA3) (HT.out _ hA3) (HC.out _ hA3)).mono ?_
  rintro e w4 ⟨hh, br, rfl, hq1, hq2, hb4⟩
  have hD4 := hb4
  have hA4 := hA3.trans (hb4.mono hA3.size)
  have hB4 := hB3.below hb4 hB3.lt
  have hX4 := hX3.below hb4 hX3.lt
  have hz4 : w.heap.size + 2 ≤ w4.heap.size := by have := hb4.size; omega
  clear hA3 hB3 hX3 hb4 hz3
  clear c0 c1 c2 x0 x1 x2 x3 x4
  have c0 := hB4.cell 0 _ rfl
  have c1 := hB4.cell 1 _ rfl
  have c2 := hB4.cell 2 _ rfl
  have x0 := hX4.cell 0 _ rfl
  have x1 := hX4.cell 1 _ rfl
  have x2 := hX4.cell 2 _ rfl
  have x3 := hX4.cell 3 _ rfl
  have x4 := hX4.cell 4 _ rfl
  go_wp2_with fail
  refine (burstP_any _ _ b x.thick x.load _ (HR.out _ hA4) (HT.out _ hA4) (HC.out _ hA4)).mono ?_
  rintro e w5 ⟨u, rfl, hu1, hu2, hb5⟩
  have hD5 := hD4.trans (hb5.mono hD4.size)
  have hA5 := hA4.trans (hb5.mono hA4.size)
  have hB5 := hB4.below hb5 hB4.lt
  have hX5 := hX4.below hb5 hX4.lt
  have hz5 : w.heap.size + 2 ≤ w5.heap.size := by have := hb5.size; omega
  clear hA4 hB4 hX4 hb5 hz4
  clear c0 c1 c2 x0 x1 x2 x3 x4
  clear hD4
  by_cases hw0 : wallS b x.thick x.load = 0
  case neg =>
    obtain rfl := hu2 hw0
    obtain ⟨rfl, rfl⟩ := hq2 hw0
    have hne : (wallS b x.thick x.load == 0) = false := by simpa using hw0
    have hln : (strS b x.thick x.load).length = 0 := by rw [strS, if_neg hw0]; rfl
    have hA6 := hA5.alloc hA5.size (.cells #[.int .i64 0, .int .i64 0] 29)
    clear hB5 hX5 hu1 hu2 hq1 hq2 hD5
    go_wp2_with fail
    refine (lives5_any _ (HC.out _ hA6)).mono ?_
    rintro e wl ⟨rfl, hbl⟩
    have hAl := hA6.trans (hbl.mono hA6.size)
    clear hbl hA6
    go_wp2
    go_ret
    exact ⟨rfl, hAl⟩

  have hq3 := hq1 hw0
  have hu := hu1 hw0
  have HW0 := Lib.hid hw0
  have HU := Lib.hid hu
  have HQ := Lib.hid hq3
  have HOW := Lib.hid (okWall_of hw0)
  rw [hw0]
  clear hq1 hq2 hq3 hu1 hu2 hu
  have hU5 := Blk.new w5 #[.int .i64 u.lo, .int .i64 u.hi] 29
  have hA6 : Below w.heap.size w (w5.alloc (.cells #[.int .i64 u.lo, .int .i64 u.hi] 29)) := hA5.alloc hA5.size _
  have hB6 := hB5.alloc (.cells #[.int .i64 u.lo, .int .i64 u.hi] 29)
  have hX6 := hX5.alloc (.cells #[.int .i64 u.lo, .int .i64 u.hi] 29)
  have hD6 : Below w3.heap.size w3 (w5.alloc (.cells #[.int .i64 u.lo, .int .i64 u.hi] 29)) := hD5.alloc hD5.size _
  have c0 := hB6.cell 0 _ rfl
  have c1 := hB6.cell 1 _ rfl
  have c2 := hB6.cell 2 _ rfl
  have lB := hB5.lt
  have lX := hX5.lt
  clear hA5 hB5 hX5 hD5 hw0
  go_wp2_with fail
  generalize w5.alloc (.cells #[.int .i64 u.lo, .int .i64 u.hi] 29) = W6 at *
  refine (real_any _ _ b pl _ (HR.out _ hA6) (HP.out _ hA6) HOW.out.bot).mono ?_
  rintro e w7 ⟨vc, rs, rfl, hrb, hrl, hgr, hb7⟩
  have hA7 := hA6.trans (hb7.mono hA6.size)
  have hX7 := hX6.below hb7 hX6.lt
  have hU7 := hU5.below hb7 hU5.lt
  have hD7 := hD6.trans (hb7.mono hD6.size)
  have HG := Lib.hid (And.intro hrl hgr)
  obtain ⟨v0, he, hrr, -⟩ := hrb
  cases he
  have hrb : RBot w7 (.agg #[vc, .int .i64 b.flaw, .int .i64 b.tough]) ⟨rs, b.flaw, b.tough⟩ := ⟨_, rfl, hrr, hI⟩
  obtain ⟨ac, cc, rfl, -, -, -⟩ := hrr
  clear hA6 hB6 hX6 hU5 hD6 hb7 c0 c1 c2 hrl hgr lB
  have hE8 := Blk.new w7 #[.slice ac rs.length cc, .int .i64 b.flaw, .int .i64 b.tough] 24
  have hA8 : Below w.heap.size w (w7.alloc (.cells #[.slice ac rs.length cc, .int .i64 b.flaw, .int .i64 b.tough] 24)) := hA7.alloc hA7.size _
  have hX8 := hX7.alloc (.cells #[.slice ac rs.length cc, .int .i64 b.flaw, .int .i64 b.tough] 24)
  have hU8 := hU7.alloc (.cells #[.slice ac rs.length cc, .int .i64 b.flaw, .int .i64 b.tough] 24)
  have hD8 : Below w3.heap.size w3 (w7.alloc (.cells #[.slice ac rs.length cc, .int .i64 b.flaw, .int .i64 b.tough] 24)) := hD7.alloc hD7.size _
  have hrb8 := hrb.mono (ext_of_below (below_boxS w7 (.cells #[.slice ac rs.length cc, .int .i64 b.flaw, .int .i64 b.tough] 24)))
  clear hA7 hX7 hU7 hD7 hrb
  go_wp2_with fail
  generalize w7.alloc (.cells #[.slice ac rs.length cc, .int .i64 b.flaw, .int .i64 b.tough] 24) = W8 at *
  have HRB := Lib.hid (fun V (hV : Below W8.heap.size W8 V) => hrb8.mono (ext_of_below hV))
  clear hrb8
  go_loopw [15, 16] (fun v i wr => ∃ (k : Nat) (us : List Sp), k ≤ x.thick.length ∧ i = .int .i64 k ∧ Hid (us.length = k ∧ GoodE x.thick us) ∧ wr.ownsRow W8.heap.size 29 2 v us.length (us.flatMap spCells) ∧ Below W8.heap.size W8 wr) (fun _ i _ => x.thick.length - (intOf i).toNat)
  case atStart => exact ⟨0, [], Nat.zero_le _, rfl, ⟨rfl, goodE_nil _⟩, World.ownsRow_nil _ _ _ _, Below.refl _ _⟩
  case round =>
    obtain ⟨k, us, hk, rfl, hgd, hown, hb⟩ := hrel
    have hXr := hX8.below hb hX8.lt
    have hAr := hA8.trans (hb.mono hA8.size)
    have x0 := hXr.cell 0 _ rfl
    by_cases hkl : k < x.thick.length
    · have i3 : (0 : Int) ≤ (k : Int) := Int.natCast_nonneg _
      have i4 : (k : Int) < (x.thick.length : Int) := by omega
      have i5 : (k : Int) ≤ 40 := by omega
      have hul := hgd.out.1
      obtain ⟨tb, o1, rfl, p1, p2, -, -⟩ := HTL.out w (Below.refl _ _) k hkl
      have htb : tb < w.heap.size := cell_lt p1
      have q1 := ext_of_below hAr _ _ p1
      have q2 := ext_of_below hAr _ _ p2
      clear p1 p2
      have hok := HOW.out.thick k hkl
      have HGD : Hid (∀ s : Sp, OkT s → InS s x.thick[k] → GoodE x.thick (us ++ [s])) := Lib.hid (fun s h1 h2 => goodE_snoc hgd.out.2 (by omega) h1 (by simpa only [hul] using h2))
      generalize x.thick[k] = t at *
      have t1 := hok.lo
      have t2 := hok.le
      have t3 := hok.hi
      have HUU := Lib.hid hul
      have hwb : ∀ g, u15.ownBlock = some g → W8.heap.size ≤ g := fun g hg => (hown.lt g hg).1
      have lA := hA8.size
      have lX8 : w.heap.size + 1 < W8.heap.size := hX8.lt
      have hn1 : u15.ownBlock ≠ some (w.heap.size + 1) := fun e => by have := hwb _ e; omega
      have hn2 : u15.ownBlock ≠ some tb := fun e => by have := hwb _ e; omega
      simp only [List.getElem_toArray, List.getElem_cons_zero] at x0
      have HSV : Hid (∀ V, Below wr.heap.size wr V → (fun w' : World => w'.cell? ⟨w.heap.size + 1, 0, none⟩ = some (.slice (some ⟨tb, o1, none⟩) x.thick.length kt) ∧ w'.cell? ⟨tb, o1 + k * 2, none⟩ = some (.int .i64 t.lo) ∧ w'.cell? ⟨tb, o1 + k * 2 + 1, none⟩ = some (.int .i64 t.hi)) V) := Lib.hid (fun V hV => ⟨ext_of_below hV _ _ x0, ext_of_below hV _ _ q1, ext_of_below hV _ _ q2⟩)
      have D0 : Below wr.heap.size wr wr.drew := (Below.refl _ _).drew
      have y0 : IntKind.i64.wrap (5 * (k : Int)) = 5 * (k : Int) := (IntWalk.i64_left _).trans (wrap_id _ (by unfold I64; omega))
      clear hul hgd hok q1 q2
      go_wp2_with fail
      refine wp_region_till (fun w' : World => w'.cell? ⟨w.heap.size + 1, 0, none⟩ = some (.slice (some ⟨tb, o1, none⟩) x.thick.length kt) ∧ w'.cell? ⟨tb, o1 + k * 2, none⟩ = some (.int .i64 t.lo) ∧ w'.cell? ⟨tb, o1 + k * 2 + 1, none⟩ = some (.int .i64 t.hi)) 99 (by kernel_rfl) (HSV.out _ D0) (fun hHeld => ?_)
      refine Till.take 0 (some 91) (v := ?_) rfl rfl (by kernel_rfl) (by kernel_rfl) (by kernel_rfl) (by kernel_rfl) (fun _ _ _ h => h) (Or.inl ⟨by rfl, ?_⟩) (by assumption) ?_
      rotate_left
      · (intro w hSw; (try dsimp only at hSw); go_simp; try with_reducible rfl)
      try simp only [Act.put, List.setIfInBounds_toArray, List.set_cons_zero, List.set_cons_succ]
      refine Till.take 1 (some 92) (v := ?_) rfl rfl (by kernel_rfl) (by kernel_rfl) (by kernel_rfl) (by kernel_rfl) (fun _ _ _ h => h) (Or.inl ⟨by rfl, ?_⟩) (by assumption) ?_
      rotate_left
      · (intro w hSw; (try dsimp only at hSw); go_simp; try with_reducible rfl)
      try simp only [Act.put, List.setIfInBounds_toArray, List.set_cons_zero, List.set_cons_succ]
      refine Till.take 2 (some 93) (v := ?_) rfl rfl (by kernel_rfl) (by kernel_rfl) (by kernel_rfl) (by kernel_rfl) (fun _ _ _ h => h) (Or.inl ⟨by rfl, ?_⟩) (by assumption) ?_
      rotate_left
      · (intro w hSw; (try dsimp only at hSw); go_simp; try with_reducible rfl)
      try simp only [Act.put, List.setIfInBounds_toArray, List.set_cons_zero, List.set_cons_succ]
      refine Till.take 3 (some 94) (v := ?_) rfl rfl (by kernel_rfl) (by kernel_rfl) (by kernel_rfl) (by kernel_rfl) (fun _ _ _ h => h) (Or.inl ⟨by rfl, ?_⟩) (by assumption) ?_
      rotate_left
      · (intro w hSw; (try dsimp only at hSw); go_simp; try with_reducible rfl)
      try simp only [Act.put, List.setIfInBounds_toArray, List.set_cons_zero, List.set_cons_succ]
      refine Till.take 4 (some 95) (v := ?_) rfl rfl (by kernel_rfl) (by kernel_rfl) (by kernel_rfl) (by kernel_rfl) (fun _ _ _ h => h) (Or.inl ⟨by rfl, ?_⟩) (by assumption) ?_
      rotate_left
      · (intro w hSw; (try dsimp only at hSw); go_simp; try with_reducible rfl)
      try simp only [Act.put, List.setIfInBounds_toArray, List.set_cons_zero, List.set_cons_succ]
      refine Till.take 5 (some 96) (v := ?_) rfl rfl (by kernel_rfl) (by kernel_rfl) (by kernel_rfl) (by kernel_rfl) (fun _ _ _ h => h) (Or.inl ⟨by rfl, ?_⟩) (by assumption) ?_
      rotate_left
      · (intro w hSw; (try dsimp only at hSw); go_simp; try with_reducible rfl)
      try simp only [Act.put, List.setIfInBounds_toArray, List.set_cons_zero, List.set_cons_succ]
      refine Till.take 6 (some 97) (v := ?_) rfl rfl (by kernel_rfl) (by kernel_rfl) (by kernel_rfl) (by kernel_rfl) (fun _ _ _ h => h) (Or.inl ⟨by rfl, ?_⟩) (by assumption) ?_
      rotate_left
      · (intro w hSw; (try dsimp only at hSw); go_simp; try with_reducible rfl)
      try simp only [Act.put, List.setIfInBounds_toArray, List.set_cons_zero, List.set_cons_succ]
      refine Till.take 7 (some 98) (v := ?_) rfl rfl (by kernel_rfl) (by kernel_rfl) (by kernel_rfl) (by kernel_rfl) (fun _ _ _ h => h) (Or.inl ⟨by rfl, ?_⟩) (by assumption) ?_
      rotate_left
      · (intro w hSw; (try dsimp only at hSw); go_simp; try with_reducible rfl)
      try simp only [Act.put, List.setIfInBounds_toArray, List.set_cons_zero, List.set_cons_succ]
      refine Till.take 8 (some 99) (v := ?_) rfl rfl (by kernel_rfl) (by kernel_rfl) (by kernel_rfl) (by kernel_rfl) (fun _ _ _ h => h) (Or.inl ⟨by rfl, ?_⟩) (by assumption) ?_
      rotate_left
      · (intro w hSw; (try dsimp only at hSw); go_simp; try with_reducible rfl)
      try simp only [Act.put, List.setIfInBounds_toArray, List.set_cons_zero, List.set_cons_succ]
      refine Till.one 9 rfl (by kernel_rfl) (fun K hK => ?_)
      go_simp
      go_at_call 48
      refine (atP_any _ pl (5 * (k : Int)) _ (HP.out _ (hAr.trans (D0.mono hAr.size))) (by omega) (by unfold I64; omega)).mono ?_
      rintro e V ⟨m, rfl, hm, hbb⟩
      have D1 := D0.trans (hbb.mono D0.size)
      refine hK.out _ _ (fun _ => HSV.out _ D1) (fun _ => ?_)
      clear hK K hbb
      try simp only [Act.put, List.setIfInBounds_toArray, List.set_cons_zero, List.set_cons_succ]
      refine Till.one 10 rfl (by kernel_rfl) (fun K hK => ?_)
      go_simp
      go_at_call 47
      refine (pick_any t m _ (by omega) hm).mono ?_
      rintro e V ⟨n, rfl, hn, hbb⟩
      have D2 := D1.trans (hbb.mono D1.size)
      refine hK.out _ _ (fun _ => HSV.out _ D2) (fun _ => ?_)
      clear hK K hbb
      try simp only [Act.put, List.setIfInBounds_toArray, List.set_cons_zero, List.set_cons_succ]
      refine Till.one 11 rfl (by kernel_rfl) (fun K hK => ?_)
      go_simp
      go_at_call 46
      refine (exact_any n _).mono ?_
      rintro e Z ⟨rfl, hbb⟩
      have D3 := D2.trans (hbb.mono D2.size)
      refine hK.out _ _ (fun _ => HSV.out _ D3) (fun _ => ?_)
      clear hK K hbb D0 D1 D2
      try simp only [Act.put, List.setIfInBounds_toArray, List.set_cons_zero, List.set_cons_succ]
      refine Till.one 12 rfl (by kernel_rfl) (fun K hK => ?_)
      go_simp
      have hDA := D3.alloc D3.size (.cells #[.int .i64 n, .int .i64 n] 29)
      have hownA := (own_below hown D3 (own_lt hown)).alloc (.cells #[.int .i64 n, .int .i64 n] 29)
      refine hK.out _ _ (fun _ => HSV.out _ hDA) (fun _ => ?_)
      clear hK K
      try simp only [Act.put, List.setIfInBounds_toArray, List.set_cons_zero, List.set_cons_succ]
      have hnews : ∀ j u, [Value.int .i64 n, .int .i64 n][j]? = some u → (Z.alloc (.cells #[.int .i64 n, .int .i64 n] 29)).cell? ((⟨Z.heap.size, 0, none⟩ : Addr).add j) = some u := World.news_of_block (w := Z.alloc (.cells #[.int .i64 n, .int .i64 n] 29)) (Blk.new Z #[.int .i64 n, .int .i64 n] 29)
      have hHS := HSV.out _ hDA
      try dsimp only at hHS
      have hll := HUU.out
      have hbs := hb.size
      have hzs := D3.size
      obtain ⟨i0, hi, hzz⟩ := Option.map_eq_some_iff.1 info_span
      simp only [Prod.mk.injEq] at hzz
      obtain ⟨hz0, hz1, hz2⟩ := hzz
      refine Till.one 13 rfl (by kernel_rfl) (fun K hK => ?_)
      refine step_append_lies _ (by rfl) _ _ _ (by rfl) W8.heap.size 29 i0 _ 2 16 Tryd.underlying25 hi hz0 hz1 hz2 rfl (by omega) _ us.length _ (by rfl) hownA ⟨Z.heap.size, 0, none⟩ 1 1 [.int .i64 n, .int .i64 n] (by rfl) (by rfl) hnews (by simp [Value.oneCell']) (by omega) (by unfold maxLen; omega) (by omega) (by rw [World.size_alloc]; omega) _ rfl ?_
      intro g6' k6 w6 hown6 hgrow6 hat6 hlt6
      refine hK.out _ _ (fun _ => ⟨hgrow6.cell hHS.1 (fun e => hn1 e.symm), hgrow6.cell hHS.2.1 (fun e => hn2 e.symm), hgrow6.cell hHS.2.2 (fun e => hn2 e.symm)⟩) (fun hHeld4 => ?_)
      clear hK K
      try simp only [Act.put]
      have hb6 : Below W8.heap.size W8 w6 := (hb.trans (hDA.mono hb.size)).grown hgrow6 (by rw [World.size_alloc]; omega) (fun k e => hwb k e)
      have hownF : w6.ownsRow W8.heap.size 29 2 (.slice (some ⟨g6', 0, none⟩) (us.length + 1) k6) (us ++ [(⟨n, n⟩ : Sp)]).length ((us ++ [(⟨n, n⟩ : Sp)]).flatMap spCells) := by simpa [spCells] using hown6
      have HF := Lib.hid hownF
      have HF2 := Lib.hid hb6
      have HUL : Hid ((us ++ [(⟨n, n⟩ : Sp)]).length = k + 1) := Lib.hid (by simp [hll])
      have HG2 := Lib.hid (HGD.out ⟨n, n⟩ ⟨by simp only; omega, by simp only; omega, by simp only; omega⟩ ⟨by simp only; omega, by simp only; omega⟩)
      generalize (⟨n, n⟩ : Sp) = C at *
      have hh4 := hHeld4 (by decide)
      clear hown6 hgrow6 hownF hb6 hownA hnews hHS hi hz0 hz1 hz2 hll hHeld HSV D3 hDA hb hn hm hXr hAr
      refine Till.take 14 (some 15) (v := ?_) rfl rfl (by kernel_rfl) (by kernel_rfl) (by kernel_rfl) (by kernel_rfl) (fun _ _ _ h => h) (Or.inl ⟨by rfl, ?_⟩) (by assumption) ?_
      rotate_left
      · (intro w hSw; (try dsimp only at hSw); go_simp; try with_reducible rfl)
      try simp only [Act.put, List.setIfInBounds_toArray]
      refine Till.done (by kernel_rfl) ?_ _
      clear hh4 hHeld4 x0 y0
      go_wp2
      go_roundw
      case rel => exact ⟨k + 1, us ++ [C], by omega, by go_num, ⟨HUL.out, HG2.out⟩, HF.out, HF2.out⟩
      case measure => simp [intOf]; omega
    · obtain rfl : k = x.thick.length := by omega
      obtain ⟨g1, g2⟩ := hgd.out
      have hrd : RSps wr u15 us := own_RSps hown (by omega) (fun y hy => by
        obtain ⟨j, hj, rfl⟩ := List.getElem_of_mem hy
        obtain ⟨⟨q1, q2, q3⟩, -⟩ := g2 j hj (by omega)
        unfold I64
        omega)
      have hUr := hU8.below hb hU8.lt
      have hEr := hE8.below hb hE8.lt
      have hDr := hD8.trans (hb.mono hD8.size)
      have HRD := Lib.hid (fun V (hV : Below wr.heap.size wr V) => hrd.mono (ext_of_below hV))
      have HRB2 := Lib.hid (fun V (hV : Below wr.heap.size wr V) => HRB.out V (hb.trans (hV.mono hb.size)))
      have HIN : Hid (InB ⟨rs, b.flaw, b.tough⟩ b us x.thick) := Lib.hid ⟨HG.out.1, fun i h1 h2 => HG.out.2 i h1 h2, rfl, rfl, g1, fun i h1 h2 => g2 i h1 h2⟩
      have HWC := Lib.hid (wallS_in HW0.out HIN.out)
      clear hrd g1 g2 hown hgd hkl hA8 hX8 hU8 hE8 hD8 hb
      have x1 := hXr.cell 1 _ rfl
      have x2 := hXr.cell 2 _ rfl
      have x3 := hXr.cell 3 _ rfl
      have x4 := hXr.cell 4 _ rfl
      have c0 := hEr.cell 0 _ rfl
      have c1 := hEr.cell 1 _ rfl
      have c2 := hEr.cell 2 _ rfl
      go_wp2_with fail
      refine (stressP_any _ _ ⟨rs, b.flaw, b.tough⟩ us x.load _ (HRB2.out _ (Below.refl _ _)) (HRD.out _ (Below.refl _ _)) (HC.out _ hAr)).mono ?_
      rintro e v1 ⟨vz, rfl, hvz, hD1⟩
      have HVZ : Hid (∀ V, Below v1.heap.size v1 V → RSps V vz (strS ⟨rs, b.flaw, b.tough⟩ us x.load)) := Lib.hid (fun V hV => hvz.mono ((vis_ext _ _).trans (ext_of_below hV)))
      obtain ⟨az, kz, rfl, -, -, -⟩ := hvz
      rw [HWC.out]
      have hA1 := hAr.trans (hD1.mono hAr.size)
      have hX1 := hXr.below hD1 hXr.lt
      have hE1 := hEr.below hD1 hEr.lt
      clear x0 x1 x2 x3 x4 c0 c1 c2
      have x1 := hX1.cell 1 _ rfl
      have x2 := hX1.cell 2 _ rfl
      have x3 := hX1.cell 3 _ rfl
      have x4 := hX1.cell 4 _ rfl
      have c0 := hE1.cell 0 _ rfl
      have c1 := hE1.cell 1 _ rfl
      have c2 := hE1.cell 2 _ rfl
      go_wp2_with fail
      refine (holdsP_any _ _ ⟨rs, b.flaw, b.tough⟩ us x.load _ (HRB2.out _ hD1) (HRD.out _ hD1) (HC.out _ hA1)).mono ?_
      rintro e v2 ⟨j, kk, rfl, hj1, -, hbb⟩
      obtain ⟨hj, hkk⟩ := hj1 HWC.out
      rw [HWC.out]
      have hD2 := hD1.trans (hbb.mono hD1.size)
      have hA2 := hA1.trans (hbb.mono hA1.size)
      have hX2 := hX1.below hbb hX1.lt
      have hE2 := hE1.below hbb hE1.lt
      have hF2 := hbb
      have HJ := Lib.hid hj
      have HKK := Lib.hid hkk
      clear x1 x2 x3 x4 c0 c1 c2 hbb hj1 hj hkk
      have x1 := hX2.cell 1 _ rfl
      have x2 := hX2.cell 2 _ rfl
      have x3 := hX2.cell 3 _ rfl
      have x4 := hX2.cell 4 _ rfl
      have c0 := hE2.cell 0 _ rfl
      have c1 := hE2.cell 1 _ rfl
      have c2 := hE2.cell 2 _ rfl
      go_wp2_with fail
      refine (burstP_any _ _ ⟨rs, b.flaw, b.tough⟩ us x.load _ (HRB2.out _ hD2) (HRD.out _ hD2) (HC.out _ hA2)).mono ?_
      rintro e v3 ⟨u2, rfl, hv1, -, hbb⟩
      rw [HWC.out]
      have hi2 := (HU.out).inside HW0.out HIN.out (hv1 HWC.out)
      have hlt1 := (HU.out).lt HW0.out
      have hlt2 := (hv1 HWC.out).lt HWC.out
      have hD3 := hD2.trans (hbb.mono hD2.size)
      have hA3 := hA2.trans (hbb.mono hA2.size)
      have hF3 := hF2.trans (hbb.mono hF2.size)
      have hV3 := Blk.new v3 #[.int .i64 u2.lo, .int .i64 u2.hi] 29
      have hU3 := (hUr.below hD3 hUr.lt).alloc (.cells #[.int .i64 u2.lo, .int .i64 u2.hi] 29)
      have hA4 : Below w.heap.size w (v3.alloc (.cells #[.int .i64 u2.lo, .int .i64 u2.hi] 29)) := hA3.alloc hA3.size _
      have hF4 : Below v1.heap.size v1 (v3.alloc (.cells #[.int .i64 u2.lo, .int .i64 u2.hi] 29)) := hF3.alloc hF3.size _
      have hD4 : Below wr.heap.size wr (v3.alloc (.cells #[.int .i64 u2.lo, .int .i64 u2.hi] 29)) := hD3.alloc hD3.size _
      clear x1 x2 x3 x4 c0 c1 c2 hbb hv1 hUr hX1 hX2 hE1 hE2 hXr hEr hD1 hD2 hD3 hA1 hA2 hA3 hF2 hF3 hAr
      have HI2 := Lib.hid hi2
      have HL1 := Lib.hid hlt1
      have HL2 := Lib.hid hlt2
      clear hi2 hlt1 hlt2
      go_wp2_with fail
      generalize v3.alloc (.cells #[.int .i64 u2.lo, .int .i64 u2.hi] 29) = W9 at *
      have HINL : Hid (InL (strS ⟨rs, b.flaw, b.tough⟩ us x.load) (strS b x.thick x.load)) := Lib.hid (by rw [strS, strS, if_pos HWC.out, if_pos HW0.out]; exact strL_in HW0.out HIN.out)
      refine (inside_any _ _ _ _ _ (HVZ.out _ hF4) (HVS.out _ ?_) HINL.out).mono ?_
      · exact hDr.trans (hD4.mono hDr.size)
      rintro e W10 ⟨rfl, hb10⟩
      have hA5 := hA4.trans (hb10.mono hA4.size)
      have hU5 := hU3.below hb10 hU3.lt
      have hV5 := hV3.below hb10 hV3.lt
      have u0 := hU5.cell 0 _ rfl
      have u1 := hU5.cell 1 _ rfl
      have w0 := hV5.cell 0 _ rfl
      have w1 := hV5.cell 1 _ rfl
      obtain ⟨i1, i2⟩ := HI2.out
      have i3 := HL1.out
      have i4 := HL2.out
      clear hA4 hU3 hV3 hb10 hF4 hD4 hU5 hV5
      cases hh with
      | true =>
        obtain rfl : j = true := HJ.out.2 (holds_in HW0.out HIN.out (HQ.out.1.1 rfl))
        cases br with
        | true => exact (not_both HW0.out (HQ.out.1.1 rfl) (HQ.out.2.1 rfl)).elim
        | false =>
          go_wp2_with fail
          refine (lives5_any _ (HC.out _ hA5)).mono ?_
          rintro e wl ⟨rfl, hbl⟩
          have hAl := hA5.trans (hbl.mono hA5.size)
          clear hbl hA5
          go_wp2
          go_ret
          exact ⟨rfl, hAl⟩
      | false =>
        cases br with
        | true =>
          obtain rfl : kk = true := HKK.out.2 (breaks_in HW0.out HIN.out (HQ.out.2.1 rfl))
          go_wp2_with fail
          refine (lives5_any _ (HC.out _ hA5)).mono ?_
          rintro e wl ⟨rfl, hbl⟩
          have hAl := hA5.trans (hbl.mono hA5.size)
          clear hbl hA5
          go_wp2
          go_ret
          exact ⟨rfl, hAl⟩
        | false =>
          go_wp2_with fail
          refine (lives5_any _ (HC.out _ hA5)).mono ?_
          rintro e wl ⟨rfl, hbl⟩
          have hAl := hA5.trans (hbl.mono hA5.size)
          clear hbl hA5
          go_wp2
          go_ret
          exact ⟨rfl, hAl⟩

end Go.Proofs.YtokgnbagegcnpaaDoor
