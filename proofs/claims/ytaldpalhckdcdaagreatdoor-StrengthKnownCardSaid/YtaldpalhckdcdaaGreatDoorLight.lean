/- The lightest gob: lightest by its contract; no statement is proved here. -/
import Derived.Test.YtaldpalhckdcdaaGreatDoorNeed
import Derived.Test.YtaldpalhckdcdaaGreatDoorThick
import Derived.Test.YtaldpalhckdcdaaGreatDoorToldI
namespace Go.Proofs.YtaldpalhckdcdaaGreatDoor
open Go.RowKit Go.PlainAid
set_option linter.unusedVariables false
set_option linter.unusedSimpArgs false
attribute [local go_sem] Oper.semAt_some
def thickAt (b : Bot) (t : Int) (i : Nat) : Sp := thickR (b.rings.getD i ⟨⟨0, 0⟩, ⟨0, 0⟩, ⟨0, 0⟩, ⟨0, 0⟩, ⟨0, 0⟩⟩) ⟨t, t⟩
theorem thickAt_eq {b : Bot} {t : Int} {i : Nat} (h : i < b.rings.length) : thickAt b t i = thickR b.rings[i] ⟨t, t⟩ := by
  unfold thickAt
  rw [List.getD_eq_getElem?_getD, List.getElem?_eq_getElem h]
  rfl
/-- a weight gives every ring the thickness that it needs. -/
def EnoughW (b : Bot) (ns : List Int) (t : Int) : Prop := ∀ i, i < b.rings.length → ns.getD i 0 ≠ 0 ∧ ns.getD i 0 ≤ (thickAt b t i).lo
def enoughWb (b : Bot) (ns : List Int) (t : Int) : Bool := (List.range b.rings.length).all fun i => decide (ns.getD i 0 ≠ 0 ∧ ns.getD i 0 ≤ (thickAt b t i).lo)
theorem enoughWb_iff {b : Bot} {ns : List Int} {t : Int} : enoughWb b ns t = true ↔ EnoughW b ns t := by
  simp [enoughWb, EnoughW]
theorem thick_mono {r : Rg} {s t : Int} (hr : OkR r) (hs : 0 ≤ s) (h : s ≤ t) : (thickR r ⟨s, s⟩).lo ≤ (thickR r ⟨t, t⟩).lo := by
  have h1 := hr.radius
  have h2 := hr.height
  have h3 := hr.share
  have a1 := mulP (a := r.radius.hi) (A := 1000) (b := r.height.hi) (B := 5000) (by omega) (by omega)
  have a2 : 200 * s * r.share.lo ≤ 200 * t * r.share.lo := mulL (by omega) h3.1
  have a3 : 0 ≤ 200 * s * r.share.lo := mulN (by omega) h3.1
  show 200 * s * r.share.lo * 113 / (r.radius.hi * r.height.hi * 355) ≤ 200 * t * r.share.lo * 113 / (r.radius.hi * r.height.hi * 355)
  exact div_monoP (by omega) (by omega) (by omega) (Int.le_refl _)
theorem enoughWb_mono {b : Bot} {ns : List Int} {s t : Int} (hok : OkS b) (hs : 0 ≤ s) (h : s ≤ t) (he : enoughWb b ns s = true) : enoughWb b ns t = true := enoughWb_iff.2 fun i hi => by
  obtain ⟨h1, h2⟩ := enoughWb_iff.1 he i hi
  refine ⟨h1, ?_⟩
  rw [thickAt_eq hi] at h2 ⊢
  have := thick_mono (hok.rings i hi) hs h
  omega
noncomputable def lightF (b : Bot) (l : Ld) : Int := foF (enoughWb b (needS b l)) 100000
theorem lightF_is {b : Bot} {l : Ld} (hok : OkS b) : IsFO (enoughWb b (needS b l)) 100000 (lightF b l) := by
  obtain ⟨n, hn⟩ := fo_ex (enoughWb b (needS b l)) 100000 (fun x y a1 a2 a3 a4 => enoughWb_mono hok (by omega) a2 a4)
  have hn' : IsFO (enoughWb b (needS b l)) 100000 n := hn
  unfold lightF
  rw [foF_eq hn']
  exact hn'

theorem isFn_light1 : IsFn 83 := fun xs w => by kernel_rfl
theorem isFn_Light1 : IsFn 40 := fun xs w => by kernel_rfl
theorem field_lo6 (x y : Value) (w : World) : Sem.run Tryz.prog (Instr.field 27 (.agg #[x, y]) 0) w = .ok x w := by kernel_rfl

set_option maxHeartbeats 4000000 in
set_option maxRecDepth 100000 in
theorem light1_any (a an : Option Addr) (cap kn : Nat) (b : Bot) (ns : List Int) (t : Int) (pb pn : Nat) (w : World) (h : RBot w (.agg #[.slice a b.rings.length cap, .int .i64 b.flaw, .int .i64 b.tough]) b) (hns : RInts w (.slice an ns.length kn) ns) (hnl : ns.length = b.rings.length) (hok : OkS b) (ht : 1 ≤ t ∧ t ≤ 100000) (hC : Circ w) (hPB : Blk w pb #[.slice a b.rings.length cap, .int .i64 b.flaw, .int .i64 b.tough] 24) (hPN : Blk w pn #[.slice an ns.length kn] 36) :
    Calls Tryz.prog 83 #[.int .i64 t, .pointer (some ⟨pb, 0, none⟩), .pointer (some ⟨pn, 0, none⟩)] w fun e w' => e = .returned (.bool (enoughWb b ns t)) ∧ Below w.heap.size w w' := by
  have hle1 : ns.length ≤ b.rings.length := by omega
  have hle2 : b.rings.length ≤ ns.length := by omega
  clear hnl
  obtain ⟨v1, he, hr, hI⟩ := h
  cases he
  have hrr := hr
  obtain ⟨_, _, hq, -, -, -⟩ := hr
  cases hq
  obtain ⟨an', kn', hq, -, ⟨-, hnm⟩, hnl⟩ := hns
  cases hq
  have hmo := hok.most
  have hA : Below w.heap.size w ((w.alloc (.cells #[.int .i64 t] 3)).alloc (.cells #[.bool false] 4)) := (below_boxS w _).alloc (by simp) _
  have hB := (Blk.new w #[.int .i64 t] 3).alloc (.cells #[.bool false] 4)
  have hR := Blk.new (w.alloc (.cells #[.int .i64 t] 3)) #[.bool false] 4
  have lPB := hPB.lt
  have lPN := hPN.lt
  simp only [World.size_alloc] at hR
  refine (callsIn_wide (n := 9)).1 ?_
  refine callsIn_of_wp_marks Tryz.func83 rfl trivial ?_ rfl
  simp only [Tryz.ntmps83, List.size_toArray, List.length_cons, List.length_nil, Nat.reduceAdd, Nat.reduceSub, Array.replicate_succ, Array.replicate_zero, List.push_toArray, List.append_toArray, List.nil_append, List.cons_append]
  have c0 := hPB.cell 0 _ rfl
  have c1 := hPB.cell 1 _ rfl
  have c2 := hPB.cell 2 _ rfl
  gi_wp2_with fail
  refine ⟨trivial, callsIn_wide.2 ?_⟩
  refine (calls_p (rings_in (.slice a b.rings.length cap) b _ 9)).mono ?_
  rintro e w' ⟨rfl, hw'⟩
  obtain rfl := hw'.symm
  clear hw'
  have hA4 : Below w.heap.size w (((w.alloc (.cells #[.int .i64 t] 3)).alloc (.cells #[.bool false] 4)).alloc (.cells #[.slice a b.rings.length cap, .int .i64 b.flaw, .int .i64 b.tough] 24)) := hA.alloc hA.size _
  have hB4 := hB.alloc (.cells #[.slice a b.rings.length cap, .int .i64 b.flaw, .int .i64 b.tough] 24)
  have hR4 := hR.alloc (.cells #[.slice a b.rings.length cap, .int .i64 b.flaw, .int .i64 b.tough] 24)
  have hI4 := Blk.new ((w.alloc (.cells #[.int .i64 t] 3)).alloc (.cells #[.bool false] 4)) #[.slice a b.rings.length cap, .int .i64 b.flaw, .int .i64 b.tough] 24
  have hz : (((w.alloc (.cells #[.int .i64 t] 3)).alloc (.cells #[.bool false] 4)).alloc (.cells #[.slice a b.rings.length cap, .int .i64 b.flaw, .int .i64 b.tough] 24)).heap.size = w.heap.size + 3 := by simp
  replace hz := And.intro (Nat.le_of_eq hz) (Nat.le_of_eq hz.symm)
  simp only [World.size_alloc] at hI4
  clear c0 c1 c2 hA hB hR
  gi_wp2_with fail
  generalize (((w.alloc (.cells #[.int .i64 t] 3)).alloc (.cells #[.bool false] 4)).alloc (.cells #[.slice a b.rings.length cap, .int .i64 b.flaw, .int .i64 b.tough] 24)) = W4 at *
  have hPN4 := hPN.below hA4 lPN
  have hr4 : RRgs (vis (fun k => ¬ k = w.heap.size + 1) W4) (.slice a b.rings.length cap) b.rings := hrr.mono (ext_vis_all (ext_of_below hA4) (fun k hk => by omega))
  refine wpIn_range_p (fun j => j = w.heap.size + 1) rfl (by simp [Fence.wide]) (gf := 72) (lb := #[.pointer (some ⟨w.heap.size + 1 + 1, 0, none⟩)]) rfl trivial (enters_of Tryz.func72 (by kernel_rfl) rfl)
    (ringIt_any _ Fence.wide _ trivial rfl rfl _ b _ W4 hr4 (by omega) hI4) (fun k x hx => by obtain ⟨_, rfl⟩ := encR_ix hx; rfl)
    (fun k W => Hid (∀ i, i < k → ns.getD i 0 ≠ 0 ∧ ns.getD i 0 ≤ (thickAt b t i).lo) ∧ Blk W (w.heap.size + 1) #[.bool false] 4 ∧ BelS (fun j => j = w.heap.size + 1) W4.heap.size W4 W ∧ Below w.heap.size w W)
    (fun c W => c = .ret ∧ Hid (enoughWb b ns t = false) ∧ Blk W (w.heap.size + 1) #[.bool false] 4 ∧ Below w.heap.size w W) (fun _ _ => False)
    (OwnFrom.and (ownFrom_pure _ _) (OwnFrom.and (Own.from (blk_own _ _ _) _) (OwnFrom.and (ownFrom_bel (Nat.le_refl _) (Nat.le_refl _)) (ownFrom_below (Nat.le_refl _) (by omega)))))
    (fun c => OwnFrom.and (ownFrom_pure _ _) (OwnFrom.and (ownFrom_pure _ _) (OwnFrom.and (Own.from (blk_own _ _ _) _) (ownFrom_below (Nat.le_refl _) (by omega)))))
    (fun _ _ _ _ h => h.elim) ⟨fun i h => absurd h (by omega), hR4, BelS.refl _ _ _, hA4⟩
    (fun x a' W => ∃ Bx vk vs, W4.heap.size ≤ Bx ∧ x = #[vk, .agg vs] ∧ Blk W Bx vs 63 ∧ a' = { tmps := #[.int .i64 t, .pointer (some ⟨pb, 0, none⟩), .pointer (some ⟨pn, 0, none⟩), .pointer (some ⟨w.heap.size, 0, none⟩), .pointer (some ⟨w.heap.size + 1, 0, none⟩), vk, .pointer (some ⟨Bx, 0, none⟩), .agg #[.slice a b.rings.length cap, .int .i64 b.flaw, .int .i64 b.tough], .func (.func 72) #[] #[.pointer (some ⟨w.heap.size + 1 + 1, 0, none⟩)], vk, .agg vs, undef, undef, undef, undef, undef, undef, undef, undef, undef, undef, undef, undef, undef, undef, undef, undef, undef, undef], defers := [] })
    (fun x a' s' X Y row hs hg hr => by
      obtain ⟨Bx, v0, vs, h1, h2, h3, h4⟩ := hs
      exact ⟨Bx, v0, vs, h1, h2, (blk_own (β := Unit) Bx _ (fun _ => vs)) () X Y row h3 hg (fun r e => (hr r e).2), h4⟩)
    ?assign ?body ?done ?stop ?panic
  case panic => exact fun D ch W _ h => h.elim
  case assign =>
    rintro j k x W K hx hWs ⟨hall, hRk, hBS, hBel⟩ hK
    obtain ⟨hk, rfl⟩ := encR_ix hx
    clear hx
    generalize b.rings[k] = r at *
    simp only [rgCells] at hK ⊢
    have hsW : W4.heap.size ≤ W.heap.size := hWs
    gi_wp2
    exact hK _ _ ((KeepsOthers.alloc _ _).from _) (BelS.of_below ((below_boxS W _).mono hsW)) ⟨hall, hRk.alloc _, hBS.trans (BelS.of_below ((below_boxS W _).mono hsW)), hBel.alloc hBel.size _⟩ ⟨W.heap.size, _, _, hsW, rfl, Blk.new _ _ _, rfl⟩
  case body =>
    rintro j k x a' W hx hWs ⟨hall, hRk, hBS, hBel⟩ ⟨Bx, v0, vs, hBx, he, hX, rfl⟩
    obtain ⟨hk, rfl⟩ := encR_ix hx
    simp only [Array.mk.injEq, List.cons.injEq, and_true, Value.agg.injEq] at he
    obtain ⟨rfl, rfl⟩ := he
    have hkn : k < ns.length := by omega
    have hta := thickAt_eq (t := t) hk
    obtain ⟨nb, no, rfl, hn1, -⟩ := hnl k hkn
    have hokr := hok.rings k hk
    have hgq : ns.getD k 0 = ns[k] := by rw [List.getD_eq_getElem?_getD, List.getElem?_eq_getElem hkn]; rfl
    have n1 := ext_of_below hBel _ _ hn1
    have e3 := (hBS.blk hB4 (by omega) (by omega)).cell 0 _ rfl
    have e4 := (hBS.blk hPN4 (by omega) (by omega)).cell 0 _ rfl
    have lX := hX.lt
    have lR := hRk.lt
    have i1 : (0 : Int) ≤ (k : Int) := Int.natCast_nonneg _
    have i2 : (k : Int) < (ns.length : Int) := by omega
    have HK := Lib.hid hk
    have HTA := Lib.hid hta
    have HQ := Lib.hid hgq
    clear hx hn1 hta hgq
    generalize b.rings[k] = r at *
    generalize ns[k] = q at *
    clear hk
    simp only [Nat.mul_one, rgCells] at n1 hX
    have HSV : Hid (∀ V, Below W.heap.size W V → (fun w' : World => w'.cell? ⟨Bx, 0, none⟩ = some (.int .i64 r.radius.lo) ∧ w'.cell? ⟨Bx, 1, none⟩ = some (.int .i64 r.radius.hi) ∧ w'.cell? ⟨Bx, 2, none⟩ = some (.int .i64 r.height.lo) ∧ w'.cell? ⟨Bx, 3, none⟩ = some (.int .i64 r.height.hi) ∧ w'.cell? ⟨Bx, 4, none⟩ = some (.int .i64 r.share.lo) ∧ w'.cell? ⟨Bx, 5, none⟩ = some (.int .i64 r.share.hi) ∧ w'.cell? ⟨Bx, 6, none⟩ = some (.int .i64 r.factor.lo) ∧ w'.cell? ⟨Bx, 7, none⟩ = some (.int .i64 r.factor.hi) ∧ w'.cell? ⟨Bx, 8, none⟩ = some (.int .i64 r.hit.lo) ∧ w'.cell? ⟨Bx, 9, none⟩ = some (.int .i64 r.hit.hi) ∧ w'.cell? ⟨w.heap.size, 0, none⟩ = some (.int .i64 t) ∧ w'.cell? ⟨pn, 0, none⟩ = some (.slice (some ⟨nb, no, none⟩) ns.length kn) ∧ w'.cell? ⟨nb, no + k, none⟩ = some (.int .i64 q)) V) := Lib.hid (fun V hV => ⟨ext_of_below hV _ _ (hX.cell 0 _ rfl), ext_of_below hV _ _ (hX.cell 1 _ rfl), ext_of_below hV _ _ (hX.cell 2 _ rfl), ext_of_below hV _ _ (hX.cell 3 _ rfl), ext_of_below hV _ _ (hX.cell 4 _ rfl), ext_of_below hV _ _ (hX.cell 5 _ rfl), ext_of_below hV _ _ (hX.cell 6 _ rfl), ext_of_below hV _ _ (hX.cell 7 _ rfl), ext_of_below hV _ _ (hX.cell 8 _ rfl), ext_of_below hV _ _ (hX.cell 9 _ rfl), ext_of_below hV _ _ e3, ext_of_below hV _ _ e4, ext_of_below hV _ _ n1⟩)
    have D0 : Below W.heap.size W W.drew := (Below.refl _ _).drew
    have hth := fun V (hV : Below W.heap.size W V) => thickness_any r ⟨t, t⟩ V hokr ⟨ht.1, Int.le_refl _, ht.2⟩ (hC.mono (ext_of_below (hBel.trans (hV.mono hBel.size))))
    simp only [rgCells] at hth
    clear e3 e4 n1 hX
    simp only [rgCells]
    by_cases hq0 : q = 0
    · subst hq0
      gi_wp2_with fail
      refine wpIn_region_till (fun w' : World => w'.cell? ⟨Bx, 0, none⟩ = some (.int .i64 r.radius.lo) ∧ w'.cell? ⟨Bx, 1, none⟩ = some (.int .i64 r.radius.hi) ∧ w'.cell? ⟨Bx, 2, none⟩ = some (.int .i64 r.height.lo) ∧ w'.cell? ⟨Bx, 3, none⟩ = some (.int .i64 r.height.hi) ∧ w'.cell? ⟨Bx, 4, none⟩ = some (.int .i64 r.share.lo) ∧ w'.cell? ⟨Bx, 5, none⟩ = some (.int .i64 r.share.hi) ∧ w'.cell? ⟨Bx, 6, none⟩ = some (.int .i64 r.factor.lo) ∧ w'.cell? ⟨Bx, 7, none⟩ = some (.int .i64 r.factor.hi) ∧ w'.cell? ⟨Bx, 8, none⟩ = some (.int .i64 r.hit.lo) ∧ w'.cell? ⟨Bx, 9, none⟩ = some (.int .i64 r.hit.hi) ∧ w'.cell? ⟨w.heap.size, 0, none⟩ = some (.int .i64 t) ∧ w'.cell? ⟨pn, 0, none⟩ = some (.slice (some ⟨nb, no, none⟩) ns.length kn) ∧ w'.cell? ⟨nb, no + k, none⟩ = some (.int .i64 0)) 99 (by kernel_rfl) (by kernel_rfl) (fun ⟨_, _, h⟩ => h) (HSV.out _ D0) (fun hHeld => ?_)
      refine Till.take 0 (some 11) (v := ?_) rfl rfl (by kernel_rfl) (by kernel_rfl) (by kernel_rfl) (by kernel_rfl) (fun _ _ _ h => h) (Or.inl ⟨by rfl, ?_⟩) (by assumption) ?_
      rotate_left
      · (intro w hSw; (try dsimp only at hSw); go_simp; try with_reducible rfl)
      try simp only [Act.put, List.setIfInBounds_toArray, List.set_cons_zero, List.set_cons_succ]
      refine Till.take 1 (some 12) (v := ?_) rfl rfl (by kernel_rfl) (by kernel_rfl) (by kernel_rfl) (by kernel_rfl) (fun _ _ _ h => h) (Or.inl ⟨by rfl, ?_⟩) (by assumption) ?_
      rotate_left
      · (intro w hSw; (try dsimp only at hSw); go_simp; try with_reducible rfl)
      try simp only [Act.put, List.setIfInBounds_toArray, List.set_cons_zero, List.set_cons_succ]
      refine Till.take 2 (some 13) (v := ?_) rfl rfl (by kernel_rfl) (by kernel_rfl) (by kernel_rfl) (by kernel_rfl) (fun _ _ _ h => h) (Or.inl ⟨by rfl, ?_⟩) (by assumption) ?_
      rotate_left
      · (intro w hSw; (try dsimp only at hSw); go_simp; try with_reducible rfl)
      try simp only [Act.put, List.setIfInBounds_toArray, List.set_cons_zero, List.set_cons_succ]
      refine Till.take 3 (some 14) (v := ?_) rfl rfl (by kernel_rfl) (by kernel_rfl) (by kernel_rfl) (by kernel_rfl) (fun _ _ _ h => h) (Or.inl ⟨by rfl, ?_⟩) (by assumption) ?_
      rotate_left
      · (intro w hSw; (try dsimp only at hSw); go_simp; try with_reducible rfl)
      try simp only [Act.put, List.setIfInBounds_toArray, List.set_cons_zero, List.set_cons_succ]
      refine Till.take 4 (some 15) (v := ?_) rfl rfl (by kernel_rfl) (by kernel_rfl) (by kernel_rfl) (by kernel_rfl) (fun _ _ _ h => h) (Or.inl ⟨by rfl, ?_⟩) (by assumption) ?_
      rotate_left
      · (intro w hSw; (try dsimp only at hSw); go_simp; try with_reducible rfl)
      try simp only [Act.put, List.setIfInBounds_toArray, List.set_cons_zero, List.set_cons_succ]
      refine Till.take 5 (some 16) (v := ?_) rfl rfl (by kernel_rfl) (by kernel_rfl) (by kernel_rfl) (by kernel_rfl) (fun _ _ _ h => h) (Or.inl ⟨by rfl, ?_⟩) (by assumption) ?_
      rotate_left
      · (intro w hSw; (try dsimp only at hSw); go_simp; try with_reducible rfl)
      try simp only [Act.put, List.setIfInBounds_toArray, List.set_cons_zero, List.set_cons_succ]
      refine Till.take 6 (some 17) (v := undef) rfl rfl (by kernel_rfl) (by kernel_rfl) (by kernel_rfl) (by kernel_rfl) (fun _ _ _ h => h) (Or.inr ⟨by rfl, rfl⟩) (by assumption) ?_
      try simp only [Act.put, List.setIfInBounds_toArray, List.set_cons_zero, List.set_cons_succ]
      refine Till.take 7 (some 18) (v := undef) rfl rfl (by kernel_rfl) (by kernel_rfl) (by kernel_rfl) (by kernel_rfl) (fun _ _ _ h => h) (Or.inr ⟨by rfl, rfl⟩) (by assumption) ?_
      try simp only [Act.put, List.setIfInBounds_toArray, List.set_cons_zero, List.set_cons_succ]
      refine Till.take 8 (some 19) (v := undef) rfl rfl (by kernel_rfl) (by kernel_rfl) (by kernel_rfl) (by kernel_rfl) (fun _ _ _ h => h) (Or.inr ⟨by rfl, rfl⟩) (by assumption) ?_
      try simp only [Act.put, List.setIfInBounds_toArray, List.set_cons_zero, List.set_cons_succ]
      refine Till.take 9 (some 20) (v := undef) rfl rfl (by kernel_rfl) (by kernel_rfl) (by kernel_rfl) (by kernel_rfl) (fun _ _ _ h => h) (Or.inr ⟨by rfl, rfl⟩) (by assumption) ?_
      try simp only [Act.put, List.setIfInBounds_toArray, List.set_cons_zero, List.set_cons_succ]
      refine Till.take 10 (some 21) (v := undef) rfl rfl (by kernel_rfl) (by kernel_rfl) (by kernel_rfl) (by kernel_rfl) (fun _ _ _ h => h) (Or.inr ⟨by rfl, rfl⟩) (by assumption) ?_
      try simp only [Act.put, List.setIfInBounds_toArray, List.set_cons_zero, List.set_cons_succ]
      refine Till.take 11 (some 22) (v := undef) rfl rfl (by kernel_rfl) (by kernel_rfl) (by kernel_rfl) (by kernel_rfl) (fun _ _ _ h => h) (Or.inr ⟨by rfl, rfl⟩) (by assumption) ?_
      try simp only [Act.put, List.setIfInBounds_toArray, List.set_cons_zero, List.set_cons_succ]
      refine Till.take 12 (some 23) (v := undef) rfl rfl (by kernel_rfl) (by kernel_rfl) (by kernel_rfl) (by kernel_rfl) (fun _ _ _ h => h) (Or.inr ⟨by rfl, rfl⟩) (by assumption) ?_
      try simp only [Act.put, List.setIfInBounds_toArray, List.set_cons_zero, List.set_cons_succ]
      refine Till.take 13 (some 24) (v := undef) rfl rfl (by kernel_rfl) (by kernel_rfl) (by kernel_rfl) (by kernel_rfl) (fun _ _ _ h => h) (Or.inr ⟨by rfl, rfl⟩) (by assumption) ?_
      try simp only [Act.put, List.setIfInBounds_toArray, List.set_cons_zero, List.set_cons_succ]
      refine Till.take 14 (some 25) (v := undef) rfl rfl (by kernel_rfl) (by kernel_rfl) (by kernel_rfl) (by kernel_rfl) (fun _ _ _ h => h) (Or.inr ⟨by rfl, rfl⟩) (by assumption) ?_
      try simp only [Act.put, List.setIfInBounds_toArray, List.set_cons_zero, List.set_cons_succ]
      refine Till.take 15 (some 26) (v := undef) rfl rfl (by kernel_rfl) (by kernel_rfl) (by kernel_rfl) (by kernel_rfl) (fun _ _ _ h => h) (Or.inr ⟨by rfl, rfl⟩) (by assumption) ?_
      try simp only [Act.put, List.setIfInBounds_toArray, List.set_cons_zero, List.set_cons_succ]
      refine Till.take 16 (some 27) (v := undef) rfl rfl (by kernel_rfl) (by kernel_rfl) (by kernel_rfl) (by kernel_rfl) (fun _ _ _ h => h) (Or.inr ⟨by rfl, rfl⟩) (by assumption) ?_
      try simp only [Act.put, List.setIfInBounds_toArray, List.set_cons_zero, List.set_cons_succ]
      refine Till.take 17 (some 28) (v := ?_) rfl rfl (by kernel_rfl) (by kernel_rfl) (by kernel_rfl) (by kernel_rfl) (fun _ _ _ h => h) (Or.inl ⟨by rfl, ?_⟩) (by assumption) ?_
      rotate_left
      · (intro w hSw; (try dsimp only at hSw); go_simp; try with_reducible rfl)
      try simp only [Act.put, List.setIfInBounds_toArray, List.set_cons_zero, List.set_cons_succ]
      refine Till.done (by kernel_rfl) ?_ _
      have hR8 := hRk.below D0 lR
      have hBel8 := hBel.trans (D0.mono hBel.size)
      have hBS8 := hBS.trans (BelS.of_below (D0.mono hBS.size))
      have hK8 : KeepsFrom W4.heap.size W W.drew := keeps_below D0 (Nat.le_refl _)
      have hS8 : BelS (fun j => j = w.heap.size + 1) W4.heap.size W W.drew := BelS.of_below (D0.mono hWs)
      clear hHeld D0 hRk hBel hBS HSV hr4 hrr hI4 hB4 hR4 hA4 hC hnl hth hPN4 hPN hPB
      generalize W.drew = W8 at *
      have d0 := hR8.cell 0 _ rfl
      have f0 := hR8.frozen 0
      have HB := Lib.hid (hBel8.setCell (p := ⟨w.heap.size + 1, 0, none⟩) (by simp only; omega) (.bool false))
      have HR : Hid (Blk (W8.setCell ⟨w.heap.size + 1, 0, none⟩ (.bool false)) (w.heap.size + 1) #[.bool false] 4) := Lib.hid (by simpa using hR8.set 0 (.bool false))
      have HKK := Lib.hid (hK8.trans ((KeepsOthers.setCell W8 ⟨w.heap.size + 1, 0, none⟩ (.bool false)).from W4.heap.size))
      have HP : Hid (enoughWb b ns t = false) := Lib.hid (by
        cases he : enoughWb b ns t with
        | false => rfl
        | true =>
          obtain ⟨z1, z2⟩ := enoughWb_iff.1 he k HK.out
          rw [HQ.out] at z1 z2
          exact absurd rfl z1)
      clear hR8 hBel8 hBS8 hK8 hS8 hall
      gi_wp2
      exact ⟨HKK.out, HR.out, HB.out⟩

    · have hq1 : (q == 0) = false := by rw [beq_eq_false_iff_ne]; exact hq0
      generalize thickR r ⟨t, t⟩ = T at *
      gi_wp2_with fail
      refine wpIn_region_till (fun w' : World => w'.cell? ⟨Bx, 0, none⟩ = some (.int .i64 r.radius.lo) ∧ w'.cell? ⟨Bx, 1, none⟩ = some (.int .i64 r.radius.hi) ∧ w'.cell? ⟨Bx, 2, none⟩ = some (.int .i64 r.height.lo) ∧ w'.cell? ⟨Bx, 3, none⟩ = some (.int .i64 r.height.hi) ∧ w'.cell? ⟨Bx, 4, none⟩ = some (.int .i64 r.share.lo) ∧ w'.cell? ⟨Bx, 5, none⟩ = some (.int .i64 r.share.hi) ∧ w'.cell? ⟨Bx, 6, none⟩ = some (.int .i64 r.factor.lo) ∧ w'.cell? ⟨Bx, 7, none⟩ = some (.int .i64 r.factor.hi) ∧ w'.cell? ⟨Bx, 8, none⟩ = some (.int .i64 r.hit.lo) ∧ w'.cell? ⟨Bx, 9, none⟩ = some (.int .i64 r.hit.hi) ∧ w'.cell? ⟨w.heap.size, 0, none⟩ = some (.int .i64 t) ∧ w'.cell? ⟨pn, 0, none⟩ = some (.slice (some ⟨nb, no, none⟩) ns.length kn) ∧ w'.cell? ⟨nb, no + k, none⟩ = some (.int .i64 q)) 99 (by kernel_rfl) (by kernel_rfl) (fun ⟨_, _, h⟩ => h) (HSV.out _ D0) (fun hHeld => ?_)
      refine Till.take 0 (some 11) (v := ?_) rfl rfl (by kernel_rfl) (by kernel_rfl) (by kernel_rfl) (by kernel_rfl) (fun _ _ _ h => h) (Or.inl ⟨by rfl, ?_⟩) (by assumption) ?_
      rotate_left
      · (intro w hSw; (try dsimp only at hSw); go_simp; try with_reducible rfl)
      try simp only [Act.put, List.setIfInBounds_toArray, List.set_cons_zero, List.set_cons_succ]
      refine Till.take 1 (some 12) (v := ?_) rfl rfl (by kernel_rfl) (by kernel_rfl) (by kernel_rfl) (by kernel_rfl) (fun _ _ _ h => h) (Or.inl ⟨by rfl, ?_⟩) (by assumption) ?_
      rotate_left
      · (intro w hSw; (try dsimp only at hSw); go_simp; try with_reducible rfl)
      try simp only [Act.put, List.setIfInBounds_toArray, List.set_cons_zero, List.set_cons_succ]
      refine Till.take 2 (some 13) (v := ?_) rfl rfl (by kernel_rfl) (by kernel_rfl) (by kernel_rfl) (by kernel_rfl) (fun _ _ _ h => h) (Or.inl ⟨by rfl, ?_⟩) (by assumption) ?_
      rotate_left
      · (intro w hSw; (try dsimp only at hSw); go_simp; try with_reducible rfl)
      try simp only [Act.put, List.setIfInBounds_toArray, List.set_cons_zero, List.set_cons_succ]
      refine Till.take 3 (some 14) (v := ?_) rfl rfl (by kernel_rfl) (by kernel_rfl) (by kernel_rfl) (by kernel_rfl) (fun _ _ _ h => h) (Or.inl ⟨by rfl, ?_⟩) (by assumption) ?_
      rotate_left
      · (intro w hSw; (try dsimp only at hSw); go_simp; try with_reducible rfl)
      try simp only [Act.put, List.setIfInBounds_toArray, List.set_cons_zero, List.set_cons_succ]
      refine Till.take 4 (some 15) (v := ?_) rfl rfl (by kernel_rfl) (by kernel_rfl) (by kernel_rfl) (by kernel_rfl) (fun _ _ _ h => h) (Or.inl ⟨by rfl, ?_⟩) (by assumption) ?_
      rotate_left
      · (intro w hSw; (try dsimp only at hSw); go_simp; try with_reducible rfl)
      try simp only [Act.put, List.setIfInBounds_toArray, List.set_cons_zero, List.set_cons_succ]
      refine Till.take 5 (some 16) (v := ?_) rfl rfl (by kernel_rfl) (by kernel_rfl) (by kernel_rfl) (by kernel_rfl) (fun _ _ _ h => h) (Or.inl ⟨by rfl, ?_⟩) (by assumption) ?_
      rotate_left
      · (intro w hSw; (try dsimp only at hSw); go_simp; try with_reducible rfl)
      try simp only [Act.put, List.setIfInBounds_toArray, List.set_cons_zero, List.set_cons_succ]
      refine Till.take 6 (some 17) (v := ?_) rfl rfl (by kernel_rfl) (by kernel_rfl) (by kernel_rfl) (by kernel_rfl) (fun _ _ _ h => h) (Or.inl ⟨by rfl, ?_⟩) (by assumption) ?_
      rotate_left
      · (intro w hSw; (try dsimp only at hSw); go_simp; try with_reducible rfl)
      try simp only [Act.put, List.setIfInBounds_toArray, List.set_cons_zero, List.set_cons_succ]
      refine Till.take 7 (some 18) (v := ?_) rfl rfl (by kernel_rfl) (by kernel_rfl) (by kernel_rfl) (by kernel_rfl) (fun _ _ _ h => h) (Or.inl ⟨by rfl, ?_⟩) (by assumption) ?_
      rotate_left
      · (intro w hSw; (try dsimp only at hSw); go_simp; try with_reducible rfl)
      try simp only [Act.put, List.setIfInBounds_toArray, List.set_cons_zero, List.set_cons_succ]
      refine Till.take 8 (some 19) (v := ?_) rfl rfl (by kernel_rfl) (by kernel_rfl) (by kernel_rfl) (by kernel_rfl) (fun _ _ _ h => h) (Or.inl ⟨by rfl, ?_⟩) (by assumption) ?_
      rotate_left
      · (intro w hSw; (try dsimp only at hSw); go_simp; try with_reducible rfl)
      try simp only [Act.put, List.setIfInBounds_toArray, List.set_cons_zero, List.set_cons_succ]
      refine Till.take 9 (some 20) (v := ?_) rfl rfl (by kernel_rfl) (by kernel_rfl) (by kernel_rfl) (by kernel_rfl) (fun _ _ _ h => h) (Or.inl ⟨by rfl, ?_⟩) (by assumption) ?_
      rotate_left
      · (intro w hSw; (try dsimp only at hSw); go_simp; try with_reducible rfl)
      try simp only [Act.put, List.setIfInBounds_toArray, List.set_cons_zero, List.set_cons_succ]
      refine Till.take 12 (some 23) (v := ?_) rfl rfl (by kernel_rfl) (by kernel_rfl) (by kernel_rfl) (by kernel_rfl) (fun _ _ _ h => h) (Or.inl ⟨by rfl, ?_⟩) (by assumption) ?_
      rotate_left
      · (intro w hSw; (try dsimp only at hSw); go_simp; try with_reducible rfl)
      try simp only [Act.put, List.setIfInBounds_toArray, List.set_cons_zero, List.set_cons_succ]
      refine Till.take 13 (some 24) (v := ?_) rfl rfl (by kernel_rfl) (by kernel_rfl) (by kernel_rfl) (by kernel_rfl) (fun _ _ _ h => h) (Or.inl ⟨by rfl, ?_⟩) (by assumption) ?_
      rotate_left
      · (intro w hSw; (try dsimp only at hSw); go_simp; try with_reducible rfl)
      try simp only [Act.put, List.setIfInBounds_toArray, List.set_cons_zero, List.set_cons_succ]
      refine Till.take 14 (some 25) (v := ?_) rfl rfl (by kernel_rfl) (by kernel_rfl) (by kernel_rfl) (by kernel_rfl) (fun _ _ _ h => h) (Or.inl ⟨by rfl, ?_⟩) (by assumption) ?_
      rotate_left
      · (intro w hSw; (try dsimp only at hSw); go_simp; try with_reducible rfl)
      try simp only [Act.put, List.setIfInBounds_toArray, List.set_cons_zero, List.set_cons_succ]
      refine Till.take 15 (some 26) (v := ?_) rfl rfl (by kernel_rfl) (by kernel_rfl) (by kernel_rfl) (by kernel_rfl) (fun _ _ _ h => h) (Or.inl ⟨by rfl, ?_⟩) (by assumption) ?_
      rotate_left
      · (intro w hSw; (try dsimp only at hSw); go_simp; try with_reducible rfl)
      try simp only [Act.put, List.setIfInBounds_toArray, List.set_cons_zero, List.set_cons_succ]
      refine Till.one 10 rfl (by kernel_rfl) (fun K hK => ?_)
      go_simp
      go_at_call 84
      refine (hth _ D0).mono ?_
      rintro e8 w8 ⟨rfl, hb8⟩
      have D1 := D0.trans (hb8.mono D0.size)
      have hh := HSV.out _ D1
      refine hK.out _ _ (fun _ => hh) (fun hHeld2 => ?_)
      clear hK K hth hb8
      try simp only [Act.put, List.setIfInBounds_toArray, List.set_cons_zero, List.set_cons_succ]
      have hfd := fun w => field_lo6 (.int .i64 T.lo) (.int .i64 T.hi) w
      refine Till.take 11 (some 22) (v := ?_) rfl rfl (by kernel_rfl) (by kernel_rfl) (by kernel_rfl) (by kernel_rfl) (fun _ _ _ h => h) (Or.inl ⟨by rfl, ?_⟩) (by assumption) ?_
      rotate_left
      · (intro w hSw; (try dsimp only at hSw); go_simp; try with_reducible rfl)
      try simp only [Act.put, List.setIfInBounds_toArray, List.set_cons_zero, List.set_cons_succ]
      refine Till.take 16 (some 27) (v := ?_) rfl rfl (by kernel_rfl) (by kernel_rfl) (by kernel_rfl) (by kernel_rfl) (fun _ _ _ h => h) (Or.inl ⟨by rfl, ?_⟩) (by assumption) ?_
      rotate_left
      · (intro w hSw; (try dsimp only at hSw); go_simp; try with_reducible rfl)
      try simp only [Act.put, List.setIfInBounds_toArray, List.set_cons_zero, List.set_cons_succ]
      refine Till.take 17 (some 28) (v := ?_) rfl rfl (by kernel_rfl) (by kernel_rfl) (by kernel_rfl) (by kernel_rfl) (fun _ _ _ h => h) (Or.inl ⟨by rfl, ?_⟩) (by assumption) ?_
      rotate_left
      · (intro w hSw; (try dsimp only at hSw); go_simp; try with_reducible rfl)
      try simp only [Act.put, List.setIfInBounds_toArray, List.set_cons_zero, List.set_cons_succ]
      refine Till.done (by kernel_rfl) ?_ _
      have hR8 := hRk.below D1 lR
      have hBel8 := hBel.trans (D1.mono hBel.size)
      have hBS8 := hBS.trans (BelS.of_below (D1.mono hBS.size))
      have hK8 : KeepsFrom W4.heap.size W w8 := keeps_below D1 (Nat.le_refl _)
      have hS8 : BelS (fun j => j = w.heap.size + 1) W4.heap.size W w8 := BelS.of_below (D1.mono hWs)
      clear hh hHeld hHeld2 D0 D1 hRk hBel hBS HSV hr4 hrr hI4 hB4 hR4 hA4 hC hnl hPN4 hPN hPB hfd hq1
      generalize w8 = W8 at *
      by_cases hgt : T.lo < q
      · have hd := decide_eq_true hgt
        have d0 := hR8.cell 0 _ rfl
        have f0 := hR8.frozen 0
        have HB := Lib.hid (hBel8.setCell (p := ⟨w.heap.size + 1, 0, none⟩) (by simp only; omega) (.bool false))
        have HR : Hid (Blk (W8.setCell ⟨w.heap.size + 1, 0, none⟩ (.bool false)) (w.heap.size + 1) #[.bool false] 4) := Lib.hid (by simpa using hR8.set 0 (.bool false))
        have HKK := Lib.hid (hK8.trans ((KeepsOthers.setCell W8 ⟨w.heap.size + 1, 0, none⟩ (.bool false)).from W4.heap.size))
        have HP : Hid (enoughWb b ns t = false) := Lib.hid (by
          cases he : enoughWb b ns t with
          | false => rfl
          | true =>
            obtain ⟨z1, z2⟩ := enoughWb_iff.1 he k HK.out
            rw [HQ.out] at z1 z2
            rw [HTA.out] at z2; omega)
        clear hR8 hBel8 hBS8 hK8 hS8 hall
        gi_wp2
        exact ⟨HKK.out, HR.out, HB.out⟩

      · have hd := decide_eq_false hgt
        have HA : Hid (∀ i, i < k + 1 → ns.getD i 0 ≠ 0 ∧ ns.getD i 0 ≤ (thickAt b t i).lo) := Lib.hid (fun i hi => by
          by_cases hik : i = k
          · subst hik; rw [HTA.out, HQ.out]; exact ⟨hq0, by omega⟩
          · exact hall.out i (by omega))
        have H1 := Lib.hid hR8
        have H2 := Lib.hid hBel8
        have H3 := Lib.hid hBS8
        have H4 := Lib.hid hK8
        have H5 := Lib.hid hS8
        clear hR8 hBel8 hBS8 hK8 hS8 hall
        gi_wp2
        exact ⟨H4.out, H5.out, HA, H1.out, H3.out, H2.out⟩
  case done =>
    rintro D W hD ⟨hall, hRk, hBS, hBel⟩ hKD
    have lR := hRk.lt
    have hP : Hid (enoughWb b ns t = true) := Lib.hid (enoughWb_iff.2 fun i hi => hall.out i (by rw [encR_len]; exact hi))
    have d0 := hRk.cell 0 _ rfl
    have f0 := hRk.frozen 0
    have hR2 : Blk (W.setCell ⟨w.heap.size + 1, 0, none⟩ (.bool true)) (w.heap.size + 1) #[.bool true] 4 := by simpa using hRk.set 0 (.bool true)
    have hKD2 := (KeepsOthers.setCell W ⟨w.heap.size + 1, 0, none⟩ (.bool true)).same D _ hKD rfl
    have hPD := Lib.hid ((hBel.setCell (p := ⟨w.heap.size + 1, 0, none⟩) (by simp only; omega) (.bool true)).trans (belowK_b (w := w) (Nat.le_refl _) _ D _ (.deferred none) (by omega) hKD2 rfl rfl))
    have r0 := (hR2.below (belowK_b (w := W4) (Nat.le_refl _) _ D _ (.deferred none) hD hKD2 rfl rfl) (by omega)).cell 0 (.bool true) (by simp)
    gi_wp2
    refine ⟨by simp, .inl ⟨_, _, rfl, run_takeDeferred hKD2, ?_⟩⟩
    refine ⟨.bool true, ?_, by rw [hP.out], hPD.out⟩
    simp [results, Tryz.results83, go_sem, r0]
  case stop =>
    rintro D c W hD ⟨rfl, hP, hRk, hBel⟩ hKD
    have lR := hRk.lt
    have hPD := Lib.hid (hBel.trans (belowK_b (w := w) (Nat.le_refl _) W D _ (.deferred none) (by omega) hKD rfl rfl))
    have r0 := (hRk.below (belowK_b (w := W4) (Nat.le_refl _) W D _ (.deferred none) hD hKD rfl rfl) (by omega)).cell 0 (.bool false) (by simp)
    gi_wp2
    refine ⟨by simp, .inl ⟨_, _, rfl, run_takeDeferred hKD, ?_⟩⟩
    refine ⟨.bool false, ?_, by rw [hP.out], hPD.out⟩
    simp [results, Tryz.results83, go_sem, r0]

end Go.Proofs.YtaldpalhckdcdaaGreatDoor
