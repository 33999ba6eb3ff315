/- The specification's Stress; no statement is proved here. -/
import Derived.Test.YtokgnbagegcnpaaDoorRBoth
import Derived.Test.YtokgnbagegcnpaaDoorThRef
import Derived.Test.YtokgnbagegcnpaaDoorStP
namespace Go.Proofs.YtokgnbagegcnpaaDoor
open Go.RowKit Go.PlainAid
set_option linter.unusedVariables false
set_option linter.unusedSimpArgs false

def GoodS (b : Bot) (ts : List Sp) (l : Ld) (us : List Sp) : Prop := ∀ j (h : j < us.length), us[j] = strAt b ts l j
theorem goodS_nil (b : Bot) (ts : List Sp) (l : Ld) : GoodS b ts l [] := fun j h => absurd h (by simp)
theorem goodS_snoc {b : Bot} {ts : List Sp} {l : Ld} {us : List Sp} (h : GoodS b ts l us) : GoodS b ts l (us ++ [strAt b ts l us.length]) := fun j h1 => by
  by_cases e : j < us.length
  · rw [List.getElem_append_left e]; exact h j e
  · have : j = us.length := by rw [List.length_append, List.length_singleton] at h1; omega
    subst this
    simp
theorem goodS_all {b : Bot} {ts : List Sp} {l : Ld} {us : List Sp} (h : GoodS b ts l us) (hl : us.length = b.rings.length) : us = strL b ts l :=
  List.ext_getElem (by rw [hl, strL_len]) (fun j h1 h2 => by rw [h j h1, strL_at])

set_option maxHeartbeats 4000000 in
set_option maxRecDepth 100000 in
theorem rstressP_any (vb vt : Value) (b : Bot) (ts : List Sp) (l : Ld) (w : World) (h : RBot w vb b) (ht : RSps w vt ts) :
    Calls Tryd.prog 25 #[vb, vt, .agg #[.int .i64 l.press, .int .i64 l.force, .int .i64 l.speed, .int .i64 l.other]] w fun e w' => ∃ v, e = .returned (.tuple #[v, .int .i64 (wallS b ts l)]) ∧ RSps (vis (w.heap.size ≤ ·) w') v (strS b ts l) ∧ Below w.heap.size w w' := by
  have h0 := h
  have ht0 := ht
  obtain ⟨v0, rfl, hr, hI⟩ := h
  obtain ⟨a, cap, rfl, -, ⟨-, hm⟩, hrl⟩ := hr
  obtain ⟨ta, tc, rfl, -, ⟨-, htm⟩, htl⟩ := ht
  have hA : Below w.heap.size w ((w.alloc (.cells #[.slice a b.rings.length cap, .int .i64 b.flaw, .int .i64 b.tough] 24)).alloc (.cells #[.int .i64 l.press, .int .i64 l.force, .int .i64 l.speed, .int .i64 l.other] 27)) := (below_boxS w _).alloc (by simp) _
  have hB := (Blk.new w #[.slice a b.rings.length cap, .int .i64 b.flaw, .int .i64 b.tough] 24).alloc (.cells #[.int .i64 l.press, .int .i64 l.force, .int .i64 l.speed, .int .i64 l.other] 27)
  have hL := Blk.new (w.alloc (.cells #[.slice a b.rings.length cap, .int .i64 b.flaw, .int .i64 b.tough] 24)) #[.int .i64 l.press, .int .i64 l.force, .int .i64 l.speed, .int .i64 l.other] 27
  rw [World.size_alloc] at hL
  have HR := Lib.hid (fun V (hV : Below w.heap.size w V) => h0.mono (ext_of_below hV))
  have HT := Lib.hid (fun V (hV : Below w.heap.size w V) => ht0.mono (ext_of_below hV))
  have HTL := Lib.hid htl
  have HRL := Lib.hid hrl
  clear h0 ht0 htl hrl
  go_enter Tryd.func25, Tryd.ntmps25
  go_wp2_with fail
  generalize (w.alloc (.cells #[.slice a b.rings.length cap, .int .i64 b.flaw, .int .i64 b.tough] 24)).alloc _ = W2 at *
  refine (rborne_any _ _ b ts l _ (HR.out _ hA) (HT.out _ hA)).mono ?_
  rintro e w3 ⟨rfl, hb3⟩
  have hA3 := hA.trans (hb3.mono hA.size)
  have hB3 := hB.below hb3 hB.lt
  have hL3 := hL.below hb3 hL.lt
  clear hA hB hL hb3
  by_cases hc : wallS b ts l = 0
  case neg =>
    have hne : (wallS b ts l != 0) = true := by simpa using hc
    have HF := Lib.hid hc
    clear hB3 hL3 hc
    go_wp2
    go_ret2
    exact ⟨_, rfl, by rw [strS, if_neg HF.out]; exact rsps_nil' _, hA3⟩
  have HC := Lib.hid hc
  have HOK := Lib.hid (okWall_of hc)
  have HS := Lib.hid (show strS b ts l = strL b ts l by rw [strS, if_pos hc])
  have HLEN := Lib.hid HOK.out.len
  have hmo := HOK.out.bot.most
  have hm24 : ts.length ≤ 24 := by rw [HLEN.out]; exact hmo
  rw [hc]
  clear hc hmo
  go_wp2_with fail
  go_loopw [9, 10] (fun v i wr => ∃ (k : Nat) (us : List Sp), k ≤ ts.length ∧ i = .int .i64 k ∧ Hid (us.length = k ∧ GoodS b ts l us) ∧ wr.ownsRow w3.heap.size 29 2 v us.length (us.flatMap spCells) ∧ Below w3.heap.size w3 wr) (fun _ i _ => ts.length - (intOf i).toNat)
  case atStart => exact ⟨0, [], Nat.zero_le _, rfl, ⟨rfl, goodS_nil _ _ _⟩, World.ownsRow_nil _ _ _ _, Below.refl _ _⟩
  case round =>
    obtain ⟨k, us, hk, rfl, hgd, hown, hb⟩ := hrel
    have hAr := hA3.trans (hb.mono hA3.size)
    by_cases hlt : k < ts.length
    · have hBr := hB3.below hb hB3.lt
      have hLr := hL3.below hb hL3.lt
      have hkr : k < b.rings.length := by rw [← HLEN.out]; exact hlt
      obtain ⟨tb, tq, rfl, s1, s2, -⟩ := HTL.out k hlt
      obtain ⟨rb, ro, rfl, hc, -⟩ := HRL.out k hkr
      have hx : ∀ j, j < 10 → wr.cell? ⟨rb, ro + k * 10 + j, none⟩ = (rgCells b.rings[k])[j]? := fun j hj => by
        have hj' : j < (rgCells b.rings[k]).length := hj
        rw [List.getElem?_eq_getElem hj']
        exact ext_of_below hAr _ _ (hc j _ (List.getElem?_eq_getElem hj'))
      have htb := cell_lt s1
      have hrb := cell_lt (hc 0 _ rfl)
      have t0 := ext_of_below hAr _ _ s1
      have t1 := ext_of_below hAr _ _ s2
      have hOR := HOK.out.bot.rings k hkr
      have hOT := HOK.out.thick k hlt
      have hat := strAt_eq (l := l) hkr hlt
      have hst := fun V => rstress_any b.rings[k] ts[k] l V hOR hOT HOK.out.load
      rw [← hat] at hst
      have hul := hgd.out.1
      have HG2 := Lib.hid (goodS_snoc hgd.out.2)
      rw [hul] at HG2
      have HUL := Lib.hid hul
      generalize ts[k] = T at *
      generalize b.rings[k] = R at *
      generalize strAt b ts l k = Q at *
      clear hc hat hgd hul hOR hOT
      have x0 := hx 0 (by omega)
      have x1 := hx 1 (by omega)
      have x2 := hx 2 (by omega)
      have x3 := hx 3 (by omega)
      have x4 := hx 4 (by omega)
      have x5 := hx 5 (by omega)
      have x6 := hx 6 (by omega)
      have x7 := hx 7 (by omega)
      have x8 := hx 8 (by omega)
      have x9 := hx 9 (by omega)
      simp only [rgCells, Nat.add_zero, List.getElem?_cons_zero, List.getElem?_cons_succ] at x0 x1 x2 x3 x4 x5 x6 x7 x8 x9
      simp only [rgCells] at hst
      simp only [Addr.add] at t1
      have c0 := hBr.cell 0 _ rfl
      have l0 := hLr.cell 0 _ rfl
      have l1 := hLr.cell 1 _ rfl
      have l2 := hLr.cell 2 _ rfl
      have l3 := hLr.cell 3 _ rfl
      have i1 : (0 : Int) ≤ (k : Int) := Int.natCast_nonneg _
      have i2 : (k : Int) < (ts.length : Int) := by omega
      have i3 : (k : Int) < (b.rings.length : Int) := by omega
      have HSV : Hid (∀ V, Below wr.heap.size wr V → (fun w' : World => w'.cell? ⟨w.heap.size, 0, none⟩ = some (.slice (some ⟨rb, ro, none⟩) b.rings.length cap) ∧ w'.cell? ⟨tb, tq + k * 2, none⟩ = some (.int .i64 T.lo) ∧ w'.cell? ⟨tb, tq + k * 2 + 1, none⟩ = some (.int .i64 T.hi) ∧ w'.cell? ⟨rb, ro + k * 10, none⟩ = some (.int .i64 R.radius.lo) ∧ w'.cell? ⟨rb, ro + k * 10 + 1, none⟩ = some (.int .i64 R.radius.hi) ∧ w'.cell? ⟨rb, ro + k * 10 + 2, none⟩ = some (.int .i64 R.height.lo) ∧ w'.cell? ⟨rb, ro + k * 10 + 3, none⟩ = some (.int .i64 R.height.hi) ∧ w'.cell? ⟨rb, ro + k * 10 + 4, none⟩ = some (.int .i64 R.share.lo) ∧ w'.cell? ⟨rb, ro + k * 10 + 5, none⟩ = some (.int .i64 R.share.hi) ∧ w'.cell? ⟨rb, ro + k * 10 + 6, none⟩ = some (.int .i64 R.factor.lo) ∧ w'.cell? ⟨rb, ro + k * 10 + 7, none⟩ = some (.int .i64 R.factor.hi) ∧ w'.cell? ⟨rb, ro + k * 10 + 8, none⟩ = some (.int .i64 R.hit.lo) ∧ w'.cell? ⟨rb, ro + k * 10 + 9, none⟩ = some (.int .i64 R.hit.hi) ∧ w'.cell? ⟨w.heap.size + 1, 0, none⟩ = some (.int .i64 l.press) ∧ w'.cell? ⟨w.heap.size + 1, 1, none⟩ = some (.int .i64 l.force) ∧ w'.cell? ⟨w.heap.size + 1, 2, none⟩ = some (.int .i64 l.speed) ∧ w'.cell? ⟨w.heap.size + 1, 3, none⟩ = some (.int .i64 l.other)) V) := Lib.hid (fun V hV => ⟨ext_of_below hV _ _ c0, ext_of_below hV _ _ t0, ext_of_below hV _ _ t1, ext_of_below hV _ _ x0, ext_of_below hV _ _ x1, ext_of_below hV _ _ x2, ext_of_below hV _ _ x3, ext_of_below hV _ _ x4, ext_of_below hV _ _ x5, ext_of_below hV _ _ x6, ext_of_below hV _ _ x7, ext_of_below hV _ _ x8, ext_of_below hV _ _ x9, ext_of_below hV _ _ l0, ext_of_below hV _ _ l1, ext_of_below hV _ _ l2, ext_of_below hV _ _ l3⟩)
      have D0 : Below wr.heap.size wr wr.drew := (Below.refl _ _).drew
      have hwb : ∀ g, u9.ownBlock = some g → w3.heap.size ≤ g := fun g hg => (hown.lt g hg).1
      have lB : w.heap.size + 1 < w3.heap.size := hL3.lt
      have lA := hA3.size
      have htb' : tb < w.heap.size := htb
      have hrb' : rb < w.heap.size := hrb
      have hn1 : u9.ownBlock ≠ some w.heap.size := fun e => by have := hwb _ e; omega
      have hn2 : u9.ownBlock ≠ some (w.heap.size + 1) := fun e => by have := hwb _ e; omega
      have hn3 : u9.ownBlock ≠ some tb := fun e => by have := hwb _ e; omega
      have hn4 : u9.ownBlock ≠ some rb := fun e => by have := hwb _ e; omega
      have HB0 := Lib.hid hb
      have HO0 := Lib.hid hown
      clear c0 t0 t1 x0 x1 x2 x3 x4 x5 x6 x7 x8 x9 l0 l1 l2 l3 hLr hBr hx s1 s2 hkr htb hrb hb hown hAr
      go_wp2_with fail
      refine wp_region_till (fun w' : World => w'.cell? ⟨w.heap.size, 0, none⟩ = some (.slice (some ⟨rb, ro, none⟩) b.rings.length cap) ∧ w'.cell? ⟨tb, tq + k * 2, none⟩ = some (.int .i64 T.lo) ∧ w'.cell? ⟨tb, tq + k * 2 + 1, none⟩ = some (.int .i64 T.hi) ∧ w'.cell? ⟨rb, ro + k * 10, none⟩ = some (.int .i64 R.radius.lo) ∧ w'.cell? ⟨rb, ro + k * 10 + 1, none⟩ = some (.int .i64 R.radius.hi) ∧ w'.cell? ⟨rb, ro + k * 10 + 2, none⟩ = some (.int .i64 R.height.lo) ∧ w'.cell? ⟨rb, ro + k * 10 + 3, none⟩ = some (.int .i64 R.height.hi) ∧ w'.cell? ⟨rb, ro + k * 10 + 4, none⟩ = some (.int .i64 R.share.lo) ∧ w'.cell? ⟨rb, ro + k * 10 + 5, none⟩ = some (.int .i64 R.share.hi) ∧ w'.cell? ⟨rb, ro + k * 10 + 6, none⟩ = some (.int .i64 R.factor.lo) ∧ w'.cell? ⟨rb, ro + k * 10 + 7, none⟩ = some (.int .i64 R.factor.hi) ∧ w'.cell? ⟨rb, ro + k * 10 + 8, none⟩ = some (.int .i64 R.hit.lo) ∧ w'.cell? ⟨rb, ro + k * 10 + 9, none⟩ = some (.int .i64 R.hit.hi) ∧ w'.cell? ⟨w.heap.size + 1, 0, none⟩ = some (.int .i64 l.press) ∧ w'.cell? ⟨w.heap.size + 1, 1, none⟩ = some (.int .i64 l.force) ∧ w'.cell? ⟨w.heap.size + 1, 2, none⟩ = some (.int .i64 l.speed) ∧ w'.cell? ⟨w.heap.size + 1, 3, none⟩ = some (.int .i64 l.other)) 99 (by kernel_rfl) (HSV.out _ D0) (fun hHeld => ?_)
      refine Till.take 0 (some 24) (v := ?_) rfl rfl (by kernel_rfl) (by kernel_rfl) (by kernel_rfl) (by kernel_rfl) (fun _ _ _ h => h) (Or.inl ⟨by rfl, ?_⟩) (by assumption) ?_
      rotate_left
      · (intro w hSw; (try dsimp only at hSw); go_simp; try with_reducible rfl)
      try simp only [Act.put, List.setIfInBounds_toArray, List.set_cons_zero, List.set_cons_succ]
      refine Till.take 1 (some 25) (v := ?_) rfl rfl (by kernel_rfl) (by kernel_rfl) (by kernel_rfl) (by kernel_rfl) (fun _ _ _ h => h) (Or.inl ⟨by rfl, ?_⟩) (by assumption) ?_
      rotate_left
      · (intro w hSw; (try dsimp only at hSw); go_simp; try with_reducible rfl)
      try simp only [Act.put, List.setIfInBounds_toArray, List.set_cons_zero, List.set_cons_succ]
      refine Till.take 2 (some 26) (v := ?_) rfl rfl (by kernel_rfl) (by kernel_rfl) (by kernel_rfl) (by kernel_rfl) (fun _ _ _ h => h) (Or.inl ⟨by rfl, ?_⟩) (by assumption) ?_
      rotate_left
      · (intro w hSw; (try dsimp only at hSw); go_simp; try with_reducible rfl)
      try simp only [Act.put, List.setIfInBounds_toArray, List.set_cons_zero, List.set_cons_succ]
      refine Till.take 3 (some 27) (v := ?_) rfl rfl (by kernel_rfl) (by kernel_rfl) (by kernel_rfl) (by kernel_rfl) (fun _ _ _ h => h) (Or.inl ⟨by rfl, ?_⟩) (by assumption) ?_
      rotate_left
      · (intro w hSw; (try dsimp only at hSw); go_simp; try with_reducible rfl)
      try simp only [Act.put, List.setIfInBounds_toArray, List.set_cons_zero, List.set_cons_succ]
      refine Till.take 4 (some 28) (v := ?_) rfl rfl (by kernel_rfl) (by kernel_rfl) (by kernel_rfl) (by kernel_rfl) (fun _ _ _ h => h) (Or.inl ⟨by rfl, ?_⟩) (by assumption) ?_
      rotate_left
      · (intro w hSw; (try dsimp only at hSw); go_simp; try with_reducible rfl)
      try simp only [Act.put, List.setIfInBounds_toArray, List.set_cons_zero, List.set_cons_succ]
      refine Till.take 5 (some 29) (v := ?_) rfl rfl (by kernel_rfl) (by kernel_rfl) (by kernel_rfl) (by kernel_rfl) (fun _ _ _ h => h) (Or.inl ⟨by rfl, ?_⟩) (by assumption) ?_
      rotate_left
      · (intro w hSw; (try dsimp only at hSw); go_simp; try with_reducible rfl)
      try simp only [Act.put, List.setIfInBounds_toArray, List.set_cons_zero, List.set_cons_succ]
      refine Till.take 6 (some 30) (v := ?_) rfl rfl (by kernel_rfl) (by kernel_rfl) (by kernel_rfl) (by kernel_rfl) (fun _ _ _ h => h) (Or.inl ⟨by rfl, ?_⟩) (by assumption) ?_
      rotate_left
      · (intro w hSw; (try dsimp only at hSw); go_simp; try with_reducible rfl)
      try simp only [Act.put, List.setIfInBounds_toArray, List.set_cons_zero, List.set_cons_succ]
      refine Till.take 7 (some 31) (v := ?_) rfl rfl (by kernel_rfl) (by kernel_rfl) (by kernel_rfl) (by kernel_rfl) (fun _ _ _ h => h) (Or.inl ⟨by rfl, ?_⟩) (by assumption) ?_
      rotate_left
      · (intro w hSw; (try dsimp only at hSw); go_simp; try with_reducible rfl)
      try simp only [Act.put, List.setIfInBounds_toArray, List.set_cons_zero, List.set_cons_succ]
      refine Till.take 8 (some 32) (v := ?_) rfl rfl (by kernel_rfl) (by kernel_rfl) (by kernel_rfl) (by kernel_rfl) (fun _ _ _ h => h) (Or.inl ⟨by rfl, ?_⟩) (by assumption) ?_
      rotate_left
      · (intro w hSw; (try dsimp only at hSw); go_simp; try with_reducible rfl)
      try simp only [Act.put, List.setIfInBounds_toArray, List.set_cons_zero, List.set_cons_succ]
      refine Till.take 9 (some 33) (v := ?_) rfl rfl (by kernel_rfl) (by kernel_rfl) (by kernel_rfl) (by kernel_rfl) (fun _ _ _ h => h) (Or.inl ⟨by rfl, ?_⟩) (by assumption) ?_
      rotate_left
      · (intro w hSw; (try dsimp only at hSw); go_simp; try with_reducible rfl)
      try simp only [Act.put, List.setIfInBounds_toArray, List.set_cons_zero, List.set_cons_succ]
      refine Till.take 10 (some 34) (v := ?_) rfl rfl (by kernel_rfl) (by kernel_rfl) (by kernel_rfl) (by kernel_rfl) (fun _ _ _ h => h) (Or.inl ⟨by rfl, ?_⟩) (by assumption) ?_
      rotate_left
      · (intro w hSw; (try dsimp only at hSw); go_simp; try with_reducible rfl)
      try simp only [Act.put, List.setIfInBounds_toArray, List.set_cons_zero, List.set_cons_succ]
      refine Till.one 11 rfl (by kernel_rfl) (fun K hK => ?_)
      go_simp
      go_at_call 73
      refine (hst _).mono ?_
      rintro e Z ⟨rfl, hbb⟩
      have D3 := D0.trans (hbb.mono D0.size)
      refine hK.out _ _ (fun _ => HSV.out _ D3) (fun _ => ?_)
      clear hK K hbb hst D0
      try simp only [Act.put, List.setIfInBounds_toArray, List.set_cons_zero, List.set_cons_succ]
      refine Till.one 12 rfl (by kernel_rfl) (fun K hK => ?_)
      go_simp
      have hDA := D3.alloc D3.size (.cells #[.int .i64 Q.lo, .int .i64 Q.hi] 29)
      have hownA := (own_below HO0.out D3 (own_lt HO0.out)).alloc (.cells #[.int .i64 Q.lo, .int .i64 Q.hi] 29)
      refine hK.out _ _ (fun _ => HSV.out _ hDA) (fun _ => ?_)
      clear hK K
      try simp only [Act.put, List.setIfInBounds_toArray, List.set_cons_zero, List.set_cons_succ]
      have hnews : ∀ j u, [Value.int .i64 Q.lo, .int .i64 Q.hi][j]? = some u → (Z.alloc (.cells #[.int .i64 Q.lo, .int .i64 Q.hi] 29)).cell? ((⟨Z.heap.size, 0, none⟩ : Addr).add j) = some u := World.news_of_block (w := Z.alloc (.cells #[.int .i64 Q.lo, .int .i64 Q.hi] 29)) (Blk.new Z #[.int .i64 Q.lo, .int .i64 Q.hi] 29)
      have hHS := HSV.out _ hDA
      try dsimp only at hHS
      have hll := HUL.out
      have hbs := HB0.out.size
      have hzs := D3.size
      obtain ⟨i0, hi, hzz⟩ := Option.map_eq_some_iff.1 info_span
      simp only [Prod.mk.injEq] at hzz
      obtain ⟨hz0, hz1, hz2⟩ := hzz
      refine Till.one 13 rfl (by kernel_rfl) (fun K hK => ?_)
      refine step_append_lies _ (by rfl) _ _ _ (by rfl) w3.heap.size 29 i0 _ 2 16 Tryd.underlying25 hi hz0 hz1 hz2 rfl (by omega) _ us.length _ (by rfl) hownA ⟨Z.heap.size, 0, none⟩ 1 1 [.int .i64 Q.lo, .int .i64 Q.hi] (by rfl) (by rfl) hnews (by simp [Value.oneCell']) (by omega) (by unfold maxLen; omega) (by omega) (by rw [World.size_alloc]; omega) _ rfl ?_
      intro g6' k6 w6 hown6 hgrow6 hat6 hlt6
      refine hK.out _ _ (fun _ => ⟨hgrow6.cell hHS.1 (fun e => hn1 e.symm), hgrow6.cell hHS.2.1 (fun e => hn3 e.symm), hgrow6.cell hHS.2.2.1 (fun e => hn3 e.symm), hgrow6.cell hHS.2.2.2.1 (fun e => hn4 e.symm), hgrow6.cell hHS.2.2.2.2.1 (fun e => hn4 e.symm), hgrow6.cell hHS.2.2.2.2.2.1 (fun e => hn4 e.symm), hgrow6.cell hHS.2.2.2.2.2.2.1 (fun e => hn4 e.symm), hgrow6.cell hHS.2.2.2.2.2.2.2.1 (fun e => hn4 e.symm), hgrow6.cell hHS.2.2.2.2.2.2.2.2.1 (fun e => hn4 e.symm), hgrow6.cell hHS.2.2.2.2.2.2.2.2.2.1 (fun e => hn4 e.symm), hgrow6.cell hHS.2.2.2.2.2.2.2.2.2.2.1 (fun e => hn4 e.symm), hgrow6.cell hHS.2.2.2.2.2.2.2.2.2.2.2.1 (fun e => hn4 e.symm), hgrow6.cell hHS.2.2.2.2.2.2.2.2.2.2.2.2.1 (fun e => hn4 e.symm), hgrow6.cell hHS.2.2.2.2.2.2.2.2.2.2.2.2.2.1 (fun e => hn2 e.symm), hgrow6.cell hHS.2.2.2.2.2.2.2.2.2.2.2.2.2.2.1 (fun e => hn2 e.symm), hgrow6.cell hHS.2.2.2.2.2.2.2.2.2.2.2.2.2.2.2.1 (fun e => hn2 e.symm), hgrow6.cell hHS.2.2.2.2.2.2.2.2.2.2.2.2.2.2.2.2 (fun e => hn2 e.symm)⟩) (fun hHeld4 => ?_)
      clear hK K
      try simp only [Act.put]
      have hb6 : Below w3.heap.size w3 w6 := (HB0.out.trans (hDA.mono HB0.out.size)).grown hgrow6 (by rw [World.size_alloc]; omega) (fun k e => hwb k e)
      have hownF : w6.ownsRow w3.heap.size 29 2 (.slice (some ⟨g6', 0, none⟩) (us.length + 1) k6) (us ++ [Q]).length ((us ++ [Q]).flatMap spCells) := by simpa [spCells] using hown6
      have HF := Lib.hid hownF
      have HF2 := Lib.hid hb6
      have HU9 : Hid ((us ++ [Q]).length = k + 1) := Lib.hid (by simp [hll])
      have hh4 := hHeld4 (by decide)
      clear hown6 hgrow6 hownF hb6 hownA hnews hHS hi hz0 hz1 hz2 hll hHeld HSV D3 hDA
      refine Till.take 14 (some 9) (v := ?_) rfl rfl (by kernel_rfl) (by kernel_rfl) (by kernel_rfl) (by kernel_rfl) (fun _ _ _ h => h) (Or.inl ⟨by rfl, ?_⟩) (by assumption) ?_
      rotate_left
      · (intro w hSw; (try dsimp only at hSw); go_simp; try with_reducible rfl)
      try simp only [Act.put, List.setIfInBounds_toArray]
      refine Till.done (by kernel_rfl) ?_ _
      clear hh4 hHeld4
      go_wp2
      go_roundw
      case rel => exact ⟨k + 1, us ++ [Q], by omega, by go_num, ⟨HU9.out, HG2.out⟩, HF.out, HF2.out⟩
      case measure => simp [intOf]; omega
    · obtain rfl : k = ts.length := by omega
      obtain ⟨g1, g2⟩ := hgd.out
      have hfull := goodS_all g2 (g1.trans HLEN.out)
      have hrd : RSps (vis (w.heap.size ≤ ·) wr) u9 us := own_RSps (own_vis hown (fun g hg => Nat.le_trans hA3.size (hown.lt g hg).1)) (by rw [g1]; omega) (fun x hx => by
        rw [hfull] at hx
        exact strL_I HC.out x hx)
      rw [hfull, ← HS.out] at hrd
      have HRD := Lib.hid hrd
      have HA := Lib.hid hAr
      clear hrd hAr hown hfull g1 g2 hgd hb hB3 hL3
      go_wp2
      go_ret2
      exact ⟨u9, by rw [HC.out]; rfl, HRD.out, HA.out⟩

end Go.Proofs.YtokgnbagegcnpaaDoor
