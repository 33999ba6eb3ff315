/- Stretches of package forming: its walk; no statement is proved here. -/
import Derived.Test.YtnldenjdbgfgmaaFmStr
import Derived.Test.YtnldenjdbgfgmaaFmSItM
import Derived.Maps.OwnIn
namespace Go.Proofs.Ytnldenjdbgfgmaa
open Go.RowKit Go.PlainAid
set_option linter.unusedVariables false
set_option linter.unusedSimpArgs false
attribute [local go_sem] Oper.semAt_some

theorem own_slice {w : World} {base : Nat} {e : TypeId} {size : Nat} {v : Value} {n : Nat} {xs : List Value} (h : w.ownsRow base e size v n xs) (hn : 0 < n) : ∃ g c, v = .slice (some ⟨g, 0, none⟩) n c := by
  rcases own_cells h with ⟨-, h2⟩ | ⟨g, cap, h1, -⟩
  · omega
  · exact ⟨g, cap, h1⟩

theorem grown_belS {T : Nat → Prop} {a b : World} {row : Option Nat} (hg : a.grownBy b row) (hr : ∀ g, row = some g → T g) : BelS T a.heap.size a b := ⟨hg.os, hg.tape, hg.output, hg.size, fun k hk hT => hg.block k hk (fun e => hT (hr k e.symm))⟩

set_option maxHeartbeats 4000000 in
set_option maxRecDepth 100000 in
theorem stretches_any (c h : Int) (a : Option Addr) (cap : Nat) (l : List Sp) (s : Sp) (w : World) (hr : RSps w (.slice a l.length cap) l) (hs : I64 s.lo ∧ I64 s.hi) :
    Calls Try.prog 11 #[.int .i64 c, .int .i64 h, .slice a l.length cap, .agg #[.int .i64 s.lo, .int .i64 s.hi]] w fun e w' => StrA c h l s w e w' ∧ Below w.heap.size w w' := by
  have hA2 : Below w.heap.size w ((w.alloc (.cells #[.int .i64 s.lo, .int .i64 s.hi] 26)).alloc (.cells #[.int .i64 c, .int .i64 h, .slice a l.length cap] 55)) := (below_box w _).alloc (by simp) _
  have hS2 := (Blk.new w #[.int .i64 s.lo, .int .i64 s.hi] 26).alloc (.cells #[.int .i64 c, .int .i64 h, .slice a l.length cap] 55)
  have hP2 := Blk.new (w.alloc (.cells #[.int .i64 s.lo, .int .i64 s.hi] 26)) #[.int .i64 c, .int .i64 h, .slice a l.length cap] 55
  have hs2 : ((w.alloc (.cells #[.int .i64 s.lo, .int .i64 s.hi] 26)).alloc (.cells #[.int .i64 c, .int .i64 h, .slice a l.length cap] 55)).heap.size = w.heap.size + 2 := by simp
  replace hs2 := And.intro (Nat.le_of_eq hs2) (Nat.le_of_eq hs2.symm)
  simp only [World.size_alloc] at hP2
  have p0 := hP2.cell 0 _ rfl
  have p1 := hP2.cell 1 _ rfl
  have p2 := hP2.cell 2 _ rfl
  have hr2 := hr.mono (ext_of_below hA2)
  have HCk := Lib.hid (check_any c h a cap l _ hr2)
  unfold ptV at HCk
  refine (callsIn_wide (n := 9)).1 ?_
  refine callsIn_of_wp_marks Try.func11 rfl trivial ?_ rfl
  simp only [Try.ntmps11, List.size_toArray, List.length_cons, List.length_nil, Nat.reduceAdd, Nat.reduceSub, Array.replicate_succ, Array.replicate_zero, List.push_toArray, List.append_toArray, List.nil_append, List.cons_append]
  gi_wp2_with fail
  refine ⟨trivial, callsIn_wide.2 ?_⟩
  refine HCk.out.mono ?_
  rintro e w4 ⟨rfl, hb4⟩
  clear HCk p0 p1 p2
  have hA4 := hA2.trans (hb4.mono hA2.size)
  have hS4 := hS2.below hb4 hS2.lt
  have hP4 := hP2.below hb4 hP2.lt
  have hs4 := hb4.size
  have hr4 := hr2.mono (ext_of_below hb4)
  clear hA2 hS2 hP2 hb4 hr2
  generalize ((w.alloc (.cells #[.int .i64 s.lo, .int .i64 s.hi] 26)).alloc (.cells #[.int .i64 c, .int .i64 h, .slice a l.length cap] 55)) = w3 at *
  by_cases hc : chkM c h l = 0
  case neg =>
    have HW : Hid (StrA c h l s w (.returned (.tuple #[.slice none 0 0, .int .i64 (chkM c h l)])) w4) := Lib.hid (.inl ⟨hc, rfl⟩)
    obtain ⟨E, hE0⟩ : ∃ E, chkM c h l = E := ⟨_, rfl⟩
    rw [hE0] at hc HW ⊢
    have HA := Lib.hid hA4
    clear hA4 hS4 hP4 hr4 hE0
    gi_wp2
    refine ⟨.tuple #[.slice none 0 0, .int .i64 E], ?_, HW.out, HA.out⟩
    simp [results, Try.results11, go_sem]
  rw [hc]
  have t0 := hS4.cell 0 _ rfl
  have t1 := hS4.cell 1 _ rfl
  gi_wp2_with fail
  refine ⟨trivial, callsIn_wide.2 ?_⟩
  refine (between_any s.lo (-1000000) 2000000 _).mono ?_
  rintro e w' ⟨rfl, hw'⟩
  subst hw'
  by_cases hq1 : -1000000 ≤ s.lo ∧ s.lo ≤ 2000000
  case neg =>
    have g1 : btw s.lo (-1000000) 2000000 = false := by simp [btw]; omega
    rw [g1]
    have HW : Hid (StrA c h l s w (.returned (.tuple #[.slice none 0 0, .int .i64 1])) w') := Lib.hid (.inr (.inl ⟨hc, fun x => hq1 x.1, rfl⟩))
    have HA := Lib.hid hA4
    clear hA4 hS4 hP4 hr4 t0 t1
    gi_wp2
    refine ⟨trivial, ?_⟩
    gi_wp2
    refine ⟨.tuple #[.slice none 0 0, .int .i64 1], ?_, HW.out, HA.out⟩
    simp [results, Try.results11, go_sem]
  have g1 : btw s.lo (-1000000) 2000000 = true := by simp [btw]; omega
  rw [g1]
  gi_wp2_with fail
  refine ⟨trivial, callsIn_wide.2 ?_⟩
  refine (between_any s.hi (-1000000) 2000000 _).mono ?_
  rintro e w'' ⟨rfl, hw'⟩
  subst hw'
  by_cases hq2 : -1000000 ≤ s.hi ∧ s.hi ≤ 2000000
  case neg =>
    have g1 : btw s.hi (-1000000) 2000000 = false := by simp [btw]; omega
    rw [g1]
    have HW : Hid (StrA c h l s w (.returned (.tuple #[.slice none 0 0, .int .i64 1])) w'') := Lib.hid (.inr (.inl ⟨hc, fun x => hq2 x.2, rfl⟩))
    have HA := Lib.hid hA4
    clear hA4 hS4 hP4 hr4 t0 t1
    gi_wp2
    refine ⟨.tuple #[.slice none 0 0, .int .i64 1], ?_, HW.out, HA.out⟩
    simp [results, Try.results11, go_sem]
  have g2 : btw s.hi (-1000000) 2000000 = true := by simp [btw]; omega
  rw [g2]
  clear g1 g2 t0 t1
  have hA5 := hA4.alloc hA4.size (.cells #[.slice none 0 0] 31)
  have hS5 := hS4.alloc (.cells #[.slice none 0 0] 31)
  have hP5 := hP4.alloc (.cells #[.slice none 0 0] 31)
  have hV5 := Blk.new w'' #[.slice none 0 0] 31
  have p0 := hP5.cell 0 _ rfl
  have p1 := hP5.cell 1 _ rfl
  have p2 := hP5.cell 2 _ rfl
  have s0 := hS5.cell 0 _ rfl
  have s1 := hS5.cell 1 _ rfl
  have HL := fun V => stretchesM_any c h (.slice a l.length cap) s V
  unfold ptV at HL
  gi_wp2_with fail
  refine ⟨trivial, callsIn_wide.2 ?_⟩
  refine (HL _).mono ?_
  rintro e w6 ⟨rfl, hw'⟩
  obtain rfl := hw'.symm
  clear HL hw' p0 p1 p2 s0 s1
  gi_wp2_with fail
  have hA6 := (hA5.alloc hA5.size (.cells #[.int .i64 c, .int .i64 h, .slice a l.length cap] 55)).alloc (by have := hA5.size; simp only [World.size_alloc] at *; omega) (.cells #[.int .i64 s.lo, .int .i64 s.hi] 26)
  have hV6 := (hV5.alloc (.cells #[.int .i64 c, .int .i64 h, .slice a l.length cap] 55)).alloc (.cells #[.int .i64 s.lo, .int .i64 s.hi] 26)
  have hP6 := (Blk.new (w''.alloc (.cells #[.slice none 0 0] 31)) #[.int .i64 c, .int .i64 h, .slice a l.length cap] 55).alloc (.cells #[.int .i64 s.lo, .int .i64 s.hi] 26)
  have hS6 := Blk.new ((w''.alloc (.cells #[.slice none 0 0] 31)).alloc (.cells #[.int .i64 c, .int .i64 h, .slice a l.length cap] 55)) #[.int .i64 s.lo, .int .i64 s.hi] 26
  simp only [World.size_alloc] at hP6 hS6
  have hr6 := hr4.mono (ext_of_below (((below_box w'' (.cells #[.slice none 0 0] 31)).alloc (by simp) (.cells #[.int .i64 c, .int .i64 h, .slice a l.length cap] 55)).alloc (by simp only [World.size_alloc]; omega) (.cells #[.int .i64 s.lo, .int .i64 s.hi] 26)))
  have hz6 : (((w''.alloc (.cells #[.slice none 0 0] 31)).alloc (.cells #[.int .i64 c, .int .i64 h, .slice a l.length cap] 55)).alloc (.cells #[.int .i64 s.lo, .int .i64 s.hi] 26)).heap.size = w''.heap.size + 3 := by simp
  replace hz6 := And.intro (Nat.le_of_eq hz6) (Nat.le_of_eq hz6.symm)
  have hKw : w.heap.size + 2 ≤ w''.heap.size := by omega
  clear hA5 hS5 hP5 hV5
  generalize ((w''.alloc (.cells #[.slice none 0 0] 31)).alloc (.cells #[.int .i64 c, .int .i64 h, .slice a l.length cap] 55)).alloc (.cells #[.int .i64 s.lo, .int .i64 s.hi] 26) = w5 at *
  obtain ⟨hi64, hlen⟩ := strE_I64 (s := s) hc
  have hr7 : RSps (vis (fun k => ¬ k = w''.heap.size) w5) (.slice a l.length cap) l := hr.mono (ext_vis_all (ext_of_below hA6) (fun k hk => by omega))
  refine wpIn_range_m 6 (fun j => j = 1 ∨ j = 2 ∨ j = 6) (fun k => k = w''.heap.size) rfl (fun k hk => by omega) (by simp [Fence.wide]) (gf := 50) (lb := #[.pointer (some ⟨w''.heap.size + 1, 0, none⟩), .pointer (some ⟨w''.heap.size + 1 + 1, 0, none⟩)]) rfl trivial (enters_of Try.func50 (by kernel_rfl) rfl)
    (strItM_any (fun k => k = w''.heap.size) _ c h a cap l s _ _ w5 hr7 hc hs (by omega) (by omega) (fun k hk => by omega) hP6 hS6) (fun k x hx => by obtain ⟨_, _, rfl⟩ := encS_ix hx; rfl)
    (fun m k X => (∃ v, Blk X (w''.heap.size) #[v] 31 ∧ X.ownsRow w5.heap.size 41 4 v k (((strE c h l s).take k).flatMap stC) ∧ (∀ g, v.ownBlock = some g → w5.heap.size + 8 < g ∧ g < X.heap.size ∧ g < m) ∧ BelS (fun k => k = w''.heap.size) w5.heap.size w5 X ∧ Below w.heap.size w X))
    (fun _ _ => False)
    ?hI (fun _ _ _ _ _ hs _ _ => hs.elim) ?hIT ⟨_, hV6, World.ownsRow_nil _ _ _ _, (fun g e => by cases e), BelS.refl _ _ _, hA6⟩
    (fun x a' X => ∃ Bx vs, w5.heap.size ≤ Bx ∧ x = #[.agg vs] ∧ Blk X Bx vs 41 ∧ a' = { tmps := #[.int .i64 c, .int .i64 h, .slice a l.length cap, .agg #[.int .i64 s.lo, .int .i64 s.hi], undef, undef, undef, .pointer (some ⟨w.heap.size, 0, none⟩), .slice none 0 0, .int .i64 0, .pointer (some ⟨w.heap.size + 1, 0, none⟩), .int .i64 0, .pointer (some ⟨w''.heap.size, 0, none⟩), .pointer (some ⟨Bx, 0, none⟩), .int .i64 c, .int .i64 h, .slice a l.length cap, .agg #[.int .i64 c, .int .i64 h, .slice a l.length cap], .agg #[.int .i64 c, .int .i64 h, .slice a l.length cap], .int .i64 0, .int .i64 0, .bool false, undef, .pointer (some ⟨w.heap.size, 0, none⟩), .int .i64 s.lo, .bool true, .bool false, .bool false, .pointer (some ⟨w.heap.size, 1, none⟩), .int .i64 s.hi, .bool true, .bool false, .bool false, .agg #[.int .i64 c, .int .i64 h, .slice a l.length cap], .agg #[.int .i64 s.lo, .int .i64 s.hi], .func (.func 50) #[] #[.pointer (some ⟨w''.heap.size + 1, 0, none⟩), .pointer (some ⟨w''.heap.size + 1 + 1, 0, none⟩)], .agg vs, undef, undef, undef, undef, undef], defers := [] })
    ?hAx ?assign ?body ?done ?stop
  case stop => exact fun D cc X _ h => h.elim
  case hI =>
    rintro m k X Y row ⟨v, h1, h2, h3, h4, h5⟩ hg hr
    exact ⟨v, (blk_own (β := Unit) _ _ (fun _ => #[v])) () X Y row h1 hg (fun r e => (hr r e).2), own_grown h2 hg (fun r e => (hr r e).2), fun g e => ⟨(h3 g e).1, Nat.lt_of_lt_of_le (h3 g e).2.1 hg.size, (h3 g e).2.2⟩, ownFrom_bel (β := Unit) (Nat.le_refl _) (Nat.le_refl _) () X Y row h4 hg hr, ownFrom_below (β := Unit) (Nat.le_refl _) (by omega) () X Y row h5 hg hr⟩
  case hIT =>
    rintro m k X p v0 ⟨v, h1, h2, h3, h4, h5⟩ hp ho
    exact ⟨v, h1.other p v0 (by omega), own_othr h2 p v0 (fun e => by have := (h3 _ e).1; omega), fun g e => by simpa using h3 g e, h4.set p v0 (.inl (by omega)), h5.setCell (by omega) v0⟩
  case hAx =>
    rintro x a' k X Y row ⟨Bx, vs, h1, h2, h3, h4⟩ hg hr
    exact ⟨Bx, vs, h1, h2, (blk_own (β := Unit) Bx _ (fun _ => vs)) () X Y row h3 hg (fun r e => (hr r e).2), h4⟩
  case assign =>
    rintro j m k x X KK hx hXs hmX ⟨v, h1, h2, h3, h4, h5⟩ hK
    obtain ⟨y, hy, rfl⟩ := encS_ix hx
    clear hx
    unfold stV at hK ⊢
    have hXb := below_box X (.cells (cSt y) 41)
    have H1 := Lib.hid (h1.alloc (.cells (cSt y) 41))
    have H2 := Lib.hid (own_below h2 hXb (fun g e => (h3 g e).2.1))
    have H3 := Lib.hid (fun g (e : v.ownBlock = some g) => show w5.heap.size + 8 < g ∧ g < (X.alloc (.cells (cSt y) 41)).heap.size ∧ g < m from ⟨(h3 g e).1, by simp; have := (h3 g e).2.1; omega, (h3 g e).2.2⟩)
    have H4 := Lib.hid (h4.trans (BelS.of_below (hXb.mono h4.size)))
    have H5 := Lib.hid (h5.trans (hXb.mono h5.size))
    have HS := Lib.hid (BelS.of_below (S := fun k => k = w''.heap.size) hXb)
    have HN := Lib.hid (Blk.new X (cSt y) 41)
    clear h1 h2 h3 h4 h5 hXb
    unfold cSt at H1 H2 H3 H4 H5 HS HN
    gi_wp2
    exact hK _ _ HS.out ⟨v, H1.out, H2.out, H3.out, H4.out, H5.out⟩ ⟨X.heap.size, _, hXs, rfl, HN.out, rfl⟩
  case body =>
    rintro j m k x a' X hx hXs hmX hpv ⟨v, h1, h2, h3, h4, h5⟩ ⟨Bx, vs, hBx, he, hX, rfl⟩
    obtain ⟨y, hy, rfl⟩ := encS_ix hx
    unfold stV at he
    simp only [Array.mk.injEq, List.cons.injEq, and_true, Value.agg.injEq] at he
    subst he
    have hpv0 : w5.heap.size + 8 < X.heap.size := by omega
    clear hpv
    have v0 := h1.cell 0 _ rfl
    have v1 := h1.frozen 0
    have e0 := hX.cell 0 _ rfl
    have e1 := hX.cell 1 _ rfl
    have e2 := hX.cell 2 _ rfl
    have e3 := hX.cell 3 _ rfl
    have hkl : k < (strE c h l s).length := (List.getElem?_eq_some_iff.1 hy).1
    have htk : (strE c h l s).take k ++ [y] = (strE c h l s).take (k + 1) := by rw [List.take_add_one, hy]; rfl
    have hXb := below_box X (.cells (cSt y) 41)
    have hownA := own_below h2 hXb (fun g e => (h3 g e).2.1)
    have h1A := h1.alloc (.cells (cSt y) 41)
    have hnews : ∀ q u, (stC y)[q]? = some u → (X.alloc (.cells (cSt y) 41)).cell? ((⟨X.heap.size, 0, none⟩ : Addr).add q) = some u := World.news_of_block (w := X.alloc (.cells (cSt y) 41)) (Blk.new X (cSt y) 41)
    have hle : k + 1 ≤ 16 := by omega
    obtain ⟨i0, hi0, hzz⟩ := Option.map_eq_some_iff.1 info_stretch
    simp only [Prod.mk.injEq] at hzz
    obtain ⟨hz0, hz1, hz2⟩ := hzz
    have HY := Lib.hid hy
    have HT := Lib.hid htk
    have HXB := Lib.hid hXb
    have H3 := Lib.hid h3
    have H4 := Lib.hid h4
    have H5 := Lib.hid h5
    have H1A := Lib.hid h1A
    have hnn : ∀ g, v.ownBlock = some g → g ≠ w''.heap.size := fun g e => by have := (h3 g e).1; omega
    clear hX h1 h2 h3 h4 h5 hy htk hXb h1A
    unfold cSt at hownA hnews HXB H1A
    gi_wp2_with (gi_at_builtin; refine wpListIn_append_own_at _ rfl _ _ 31 rfl w5.heap.size 41 i0 _ 4 32 Try.underlying31 hi0 hz0 hz1 hz2 rfl (by decide) _ k _ rfl hownA ⟨X.heap.size, 0, none⟩ 1 1 (stC y) rfl rfl hnews (by simp [stC, Value.oneCell']) (by unfold maxLen; omega) (by omega) (by simp; omega) ?_; intro v8 w8 hown8 hgrow8 hnil8 hat8; obtain ⟨g8, c8, rfl⟩ := own_slice hown8 (by omega); have hK8 := Blk.grown H1A.out hgrow8 (fun e => hnn _ e rfl); have k0 := hK8.cell 0 _ rfl; have k1 := hK8.frozen 0)
    have HG8 : Hid (w5.heap.size + 8 < g8 ∧ g8 < w8.heap.size) := Lib.hid (by
      have hlt8 := (hown8.lt g8 rfl).2
      refine ⟨?_, hlt8⟩
      rcases hat8 with h | h
      · exact (H3.out g8 h.symm).1
      · simp only [Value.ownBlock, Option.some.injEq, World.size_alloc] at h; omega)
    have HO : Hid ((w8.setCell ⟨w''.heap.size, 0, none⟩ (.slice (some ⟨g8, 0, none⟩) (k + 1) c8)).ownsRow w5.heap.size 41 4 (.slice (some ⟨g8, 0, none⟩) (k + 1) c8) (k + 1) (((strE c h l s).take (k + 1)).flatMap stC)) := Lib.hid (by
      rw [← HT.out, List.flatMap_append]
      exact own_othr (by simpa using hown8) _ _ (fun e => by
        simp only [Value.ownBlock, Option.some.injEq] at e
        have := HG8.out.1
        omega))
    have hXB := HXB.out
    have hB8 : BelS (fun b => b = w''.heap.size ∨ (w5.heap.size + 2 + 6 < b ∧ b < m)) X.heap.size X w8 := (BelS.of_below hXB).trans ((grown_belS (T := fun b => b = w''.heap.size ∨ (w5.heap.size + 2 + 6 < b ∧ b < m)) hgrow8 (fun g e => .inr (by have := H3.out g e; omega))).mono hXB.size)
    have HB := Lib.hid (hB8.set ⟨w''.heap.size, 0, none⟩ (.slice (some ⟨g8, 0, none⟩) (k + 1) c8) (.inr (.inl rfl)))
    have HB2 := Lib.hid (H4.out.trans (belM_down (S := fun k => k = w''.heap.size) (N := w5.heap.size + 2) (c := 6) HB.out hXs (by omega)))
    have HB5 := Lib.hid ((H5.out.trans (hXB.mono H5.out.size)).grown hgrow8 (by have := H5.out.size; simp; omega) (fun g e => by have := H3.out g e; omega))
    have HK8 : Hid (Blk (w8.setCell ⟨w''.heap.size, 0, none⟩ (.slice (some ⟨g8, 0, none⟩) (k + 1) c8)) (w''.heap.size) #[.slice (some ⟨g8, 0, none⟩) (k + 1) c8] 31) := Lib.hid (by simpa using hK8.set 0 (.slice (some ⟨g8, 0, none⟩) (k + 1) c8))
    clear hgrow8 hown8 hat8 hnil8 hK8 k0 k1 hnews hownA hXB hB8
    refine ⟨HB.out, w8.heap.size, by simp, _, HK8.out, HO.out, ?_, HB2.out, HB5.out.setCell (by simp only; omega) _⟩
    intro g e
    simp only [Value.ownBlock, Option.some.injEq] at e
    subst e
    have := HG8.out
    exact ⟨this.1, by simpa using this.2, this.2⟩
  case done =>
    rintro D m X hD ⟨v, h1, h2, h3, h4, h5⟩ hKD
    replace hD := And.intro (Nat.le_of_eq hD) (Nat.le_of_eq hD.symm)
    rw [encS_len] at h2
    rw [List.take_length] at h2
    have v0 := h1.cell 0 _ rfl
    have hRS : RSts (vis (w.heap.size ≤ ·) (X.putObj D (.deferred none))) v (strE c h l s) := own_RSts (own_vis (own_grown h2 (grownBy_putObj' X D (.deferred none)) (fun r e => by cases e; exact ⟨_, hKD, rfl⟩)) (fun g e => by have := (h3 g e).1; omega)) (by omega) hi64
    have HW : Hid (StrA c h l s w (.returned (.tuple #[v, .int .i64 0])) (X.putObj D (.deferred none))) := Lib.hid (.inr (.inr ⟨hc, ⟨hq1, hq2⟩, v, rfl, hRS⟩))
    have hPD := Lib.hid (h5.trans (belowK_b (w := w) (Nat.le_refl _) X D _ (.deferred none) (by omega) hKD rfl rfl))
    clear h1 h2 h3 h4 h5 hRS hi64 hr7
    gi_wp2
    refine ⟨by simp, .inl ⟨_, _, rfl, run_takeDeferred hKD, ?_⟩⟩
    refine ⟨.tuple #[v, .int .i64 0], ?_, HW.out, hPD.out⟩
    simp [results, Try.results11, go_sem]
end Go.Proofs.Ytnldenjdbgfgmaa
