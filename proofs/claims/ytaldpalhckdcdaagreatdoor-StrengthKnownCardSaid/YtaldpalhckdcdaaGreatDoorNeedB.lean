/- Whether a bottle may be: it goes wrong with its first error; no statement is proved here. -/
import Derived.Test.YtaldpalhckdcdaaGreatDoorRingIt
namespace Go.Proofs.YtaldpalhckdcdaaGreatDoor
open Go.RowKit Go.PlainAid
set_option linter.unusedVariables false
attribute [local go_sem] Oper.semAt_some fp_round fp_depth
theorem fp_needBottle : Fp.fn 65 := ⟨_, Tryz.func65⟩

set_option maxHeartbeats 2000000 in
set_option maxRecDepth 100000 in
theorem needBottle_in (vb : Value) (b : Bot) (w : World) (n : Nat) (h : RBot w vb b) : CallsIn Fp n Tryz.prog 65 #[vb] w (Need w (checkS b)) := by
  obtain ⟨v0, rfl, hr, i1, i2⟩ := h
  have hrr := hr
  obtain ⟨a, cap, rfl, hc1, ⟨hc2, hm⟩, hl⟩ := hr
  have hA := below_boxS w (.cells #[.slice a b.rings.length cap, .int .i64 b.flaw, .int .i64 b.tough] 24)
  have hB := Blk.new w #[.slice a b.rings.length cap, .int .i64 b.flaw, .int .i64 b.tough] 24
  have c0 := hB.cell 0 _ rfl
  have c1 := hB.cell 1 _ rfl
  have c2 := hB.cell 2 _ rfl
  clear hl
  refine callsIn_of_wp_marks Tryz.func65 rfl fp_needBottle ?_ rfl
  simp only [Tryz.ntmps65, List.size_toArray, List.length_cons, List.length_nil, Nat.reduceAdd, Nat.reduceSub, Array.replicate_succ, Array.replicate_zero, List.push_toArray, List.append_toArray, List.nil_append, List.cons_append]
  by_cases h24 : 24 < b.rings.length
  · have hq : decide ((b.rings.length : Int) ≤ 24) = false := decide_eq_false (by omega)
    gi_wp2_with fail
    refine ⟨fp_need, ?_⟩
    refine (need_no 3 _ _).mono ?_
    rintro e w' ⟨rfl, rfl⟩
    have hc : checkS b = 3 := by simp [checkS, h24]
    exact ⟨.inr ⟨by rw [hc]; decide, by rw [hc]⟩, hA⟩
  have hq : decide ((b.rings.length : Int) ≤ 24) = true := decide_eq_true (by omega)
  gi_wp2_with fail
  refine ⟨fp_need, ?_⟩
  refine (need_ok 3 _ _).mono ?_
  rintro e w' ⟨rfl, rfl⟩
  clear hq
  by_cases h0 : b.rings.length = 0
  · have hq : decide (0 < b.rings.length) = false := decide_eq_false (by omega)
    have hc : checkS b = 1 := by simp [checkS, h0]
    clear h0
    gi_wp2_with fail
    refine ⟨fp_need, ?_⟩
    refine (need_no 1 _ _).mono ?_
    rintro e w' ⟨rfl, rfl⟩
    exact ⟨.inr ⟨by decide, rfl⟩, hA⟩
  have hq : decide (0 < b.rings.length) = true := decide_eq_true (by omega)
  gi_wp2_with fail
  refine ⟨fp_need, ?_⟩
  refine (need_ok 1 _ _).mono ?_
  rintro e w' ⟨rfl, rfl⟩
  clear hq
  have HS := hB.alloc (.cells #[.int .i64 0, .int .i64 0] 27)
  have d0 := HS.cell 0 _ rfl
  have d1 := HS.cell 1 _ rfl
  have d2 := HS.cell 2 _ rfl
  gi_wp2_with fail
  refine ⟨fp_rings, ?_⟩
  refine (rings_in (.slice a b.rings.length cap) b _ _).mono ?_
  rintro e w' ⟨rfl, rfl⟩
  gi_wp2_with fail
  have hA3 : Below w.heap.size w (((w.alloc (.cells #[.slice a b.rings.length cap, .int .i64 b.flaw, .int .i64 b.tough] 24)).alloc (.cells #[.int .i64 0, .int .i64 0] 27)).alloc (.cells #[.slice a b.rings.length cap, .int .i64 b.flaw, .int .i64 b.tough] 24)) := (hA.alloc (by simp) _).alloc (by simp only [World.size_alloc]; omega) _
  have hB3 := HS.alloc (.cells #[.slice a b.rings.length cap, .int .i64 b.flaw, .int .i64 b.tough] 24)
  have hS3 := (Blk.new (w.alloc (.cells #[.slice a b.rings.length cap, .int .i64 b.flaw, .int .i64 b.tough] 24)) #[.int .i64 0, .int .i64 0] 27).alloc (.cells #[.slice a b.rings.length cap, .int .i64 b.flaw, .int .i64 b.tough] 24)
  have hI3 := Blk.new ((w.alloc (.cells #[.slice a b.rings.length cap, .int .i64 b.flaw, .int .i64 b.tough] 24)).alloc (.cells #[.int .i64 0, .int .i64 0] 27)) #[.slice a b.rings.length cap, .int .i64 b.flaw, .int .i64 b.tough] 24
  have hz : (((w.alloc (.cells #[.slice a b.rings.length cap, .int .i64 b.flaw, .int .i64 b.tough] 24)).alloc (.cells #[.int .i64 0, .int .i64 0] 27)).alloc (.cells #[.slice a b.rings.length cap, .int .i64 b.flaw, .int .i64 b.tough] 24)).heap.size = w.heap.size + 3 := by simp
  replace hz := And.intro (Nat.le_of_eq hz) (Nat.le_of_eq hz.symm)
  simp only [World.size_alloc] at hS3 hI3
  clear c0 c1 c2 d0 d1 d2 HS hA hB
  generalize (((w.alloc (.cells #[.slice a b.rings.length cap, .int .i64 b.flaw, .int .i64 b.tough] 24)).alloc (.cells #[.int .i64 0, .int .i64 0] 27)).alloc (.cells #[.slice a b.rings.length cap, .int .i64 b.flaw, .int .i64 b.tough] 24)) = W3 at *
  have hr3 : RRgs (vis (fun k => ¬ k = w.heap.size + 1) W3) (.slice a b.rings.length cap) b.rings := hrr.mono (ext_vis_all (ext_of_below hA3) (fun k hk => by omega))
  refine wpIn_range_p (fun k => k = w.heap.size + 1) rfl (by simp [fp_depth]) (gf := 72) (lb := #[.pointer (some ⟨w.heap.size + 1 + 1, 0, none⟩)]) rfl fp_rings1 (enters_of Tryz.func72 (by kernel_rfl) rfl)
    (ringIt_any _ Fp _ fp_rings1 rfl rfl _ b _ W3 hr3 (by omega) hI3) (fun k x hx => by obtain ⟨_, rfl⟩ := encR_ix hx; rfl)
    (fun k W => Hid (∀ j (h : j < k) (h2 : j < b.rings.length), OkR b.rings[j]) ∧ Blk W (w.heap.size + 1) #[.int .i64 (loS b.rings k), .int .i64 (hiS b.rings k)] 27 ∧ Blk W w.heap.size #[.slice a b.rings.length cap, .int .i64 b.flaw, .int .i64 b.tough] 24 ∧ Below w.heap.size w W)
    (fun _ _ => False) (fun ch W => ch = failC 1 ∧ Hid (allR b.rings = false) ∧ Below w.heap.size w W)
    (OwnFrom.and (ownFrom_pure _ _) (OwnFrom.and (Own.from (blk_own _ _ _) _) (OwnFrom.and (Own.from (blk_own _ _ _) _) (ownFrom_below (Nat.le_refl _) (by omega)))))
    (fun _ _ _ _ _ hs _ _ => hs.elim) (fun f hf _ _ _ => hf) ?h0
    (fun x a' W => ∃ Bx v0 vs, W3.heap.size ≤ Bx ∧ x = #[v0, .agg vs] ∧ Blk W Bx vs 63 ∧ a' = { tmps := #[.agg #[.slice a b.rings.length cap, .int .i64 b.flaw, .int .i64 b.tough], .pointer (some ⟨w.heap.size, 0, none⟩), .pointer (some ⟨w.heap.size + 1, 0, none⟩), undef, .pointer (some ⟨Bx, 0, none⟩), .pointer (some ⟨w.heap.size, 0, none⟩), .slice a b.rings.length cap, .int .i64 b.rings.length, .bool true, .tuple #[], .pointer (some ⟨w.heap.size, 0, none⟩), .slice a b.rings.length cap, .int .i64 b.rings.length, .bool true, .tuple #[], .agg #[.slice a b.rings.length cap, .int .i64 b.flaw, .int .i64 b.tough], .func (.func 72) #[] #[.pointer (some ⟨w.heap.size + 1 + 1, 0, none⟩)], v0, .agg vs, undef, undef, undef, undef, undef, undef, undef, undef, undef, undef, undef, undef, undef, undef, undef, undef, undef, undef, undef, undef, undef, undef, undef, undef, undef, undef, undef, undef, undef, undef, undef, undef, undef], defers := [] })
    (fun x a' s X Y row hs hg hr => by
      obtain ⟨Bx, v0, vs, h1, h2, h3, h4⟩ := hs
      exact ⟨Bx, v0, vs, h1, h2, (blk_own (β := Unit) Bx _ (fun _ => vs)) () X Y row h3 hg (fun r e => (hr r e).2), h4⟩)
    ?assign ?body ?done ?stop ?panic
  case h0 => exact ⟨fun j h => absurd h (by omega), by simpa [loS, hiS] using hS3, hB3, hA3⟩
  case stop => exact fun D c W _ h => h.elim
  case assign =>
    rintro l k x W K hx hWs ⟨hok, hS, hb, hBel⟩ hK
    obtain ⟨hk, rfl⟩ := encR_ix hx
    clear hx
    generalize b.rings[k] = r at *
    simp only [rgCells] at hK ⊢
    have hsW : W3.heap.size ≤ W.heap.size := hWs
    gi_wp2
    exact hK _ _ ((KeepsOthers.alloc _ _).from _) (BelS.of_below ((below_boxS W _).mono hsW)) ⟨hok, hS.alloc _, hb.alloc _, hBel.alloc hBel.size _⟩ ⟨W.heap.size, _, _, hsW, rfl, Blk.new _ _ _, rfl⟩
  case body =>
    rintro l k x a' W hx hWs ⟨hok, hS, hb, hBel⟩ ⟨Bx, v0, vs, hBx, he, hX, rfl⟩
    obtain ⟨hk, rfl⟩ := encR_ix hx
    simp only [Array.mk.injEq, List.cons.injEq, and_true, Value.agg.injEq] at he
    obtain ⟨rfl, rfl⟩ := he
    have hrk := loS_succ hk
    have hrk' := hiS_succ hk
    have hbd := sums_bd (l := b.rings) (k := k) (by omega) (fun j h1 h2 => hok.out j h1 h2)
    have hnr := fun w m => needRing_in b.rings[k] w m
    have hall : okR b.rings[k] = false → allR b.rings = false := allR_false hk
    have hnx : OkR b.rings[k] → ∀ j (h : j < k + 1) (h2 : j < b.rings.length), OkR b.rings[j] := fun h j h1 h2 => by
      by_cases hj : j = k
      · subst hj; exact h
      · exact hok.out j (by omega) h2
    have hcs : ∀ j, j < 10 → W.cell? ⟨Bx, j, none⟩ = (rgCells b.rings[k])[j]? := fun j hj => by
      have hj' : j < (rgCells b.rings[k]).length := hj
      rw [List.getElem?_eq_getElem hj']
      exact hX.cell j _ (by simp [List.getElem?_eq_getElem hj'])
    have hlX := hX.lt
    have hlS := hS.lt
    clear hx hX
    generalize b.rings[k] = r at *
    have x0 := hcs 0 (by omega)
    have x1 := hcs 1 (by omega)
    have x2 := hcs 2 (by omega)
    have x3 := hcs 3 (by omega)
    have x4 := hcs 4 (by omega)
    have x5 := hcs 5 (by omega)
    have x6 := hcs 6 (by omega)
    have x7 := hcs 7 (by omega)
    have x8 := hcs 8 (by omega)
    have x9 := hcs 9 (by omega)
    simp only [rgCells, List.getElem?_cons_zero, List.getElem?_cons_succ] at x0 x1 x2 x3 x4 x5 x6 x7 x8 x9 hnr
    have HR := Lib.hid hrk
    have HR' := Lib.hid hrk'
    have hcs2 : ∀ j, j < 10 → ∀ W2, Below W.heap.size W W2 → W2.cell? ⟨Bx, j, none⟩ = (rgCells r)[j]? := fun j hj W2 hW2 => by
      have hj' : j < (rgCells r).length := hj
      have := hcs j hj
      rw [List.getElem?_eq_getElem hj'] at this ⊢
      exact ext_of_below hW2 _ _ this
    clear hcs hrk hrk'
    gi_wp2_with fail
    refine ⟨fp_needRing, ?_⟩
    refine (CallsIn.inRound l (hnr W _)).mono ?_
    rintro e W2 ⟨⟨hok2, rfl⟩ | ⟨hno, rfl⟩, hb2⟩
    rotate_left
    · have HH := Lib.hid (hall hno)
      have HK : Hid (KeepsFrom W3.heap.size W W2) := Lib.hid (keeps_below hb2 (Nat.le_refl _))
      have HB2 := Lib.hid (hBel.trans (hb2.mono hBel.size))
      clear x0 x1 x2 x3 x4 x5 x6 x7 x8 x9 hnr hcs2 hall hno hb2
      gi_wp2
      exact ⟨HK.out, HB2.out⟩
    have hOk := okR_iff.1 hok2
    have hS2 := hS.below hb2 hlS
    have hb' := hb.below hb2 hb.lt
    have hBel2 := hBel.trans (hb2.mono hBel.size)
    have hz2 := hb2.size
    have hsh := hOk.share
    have y4 := hcs2 4 (by omega) W2 hb2
    have y5 := hcs2 5 (by omega) W2 hb2
    have d0 := hS2.cell 0 _ rfl
    have d1 := hS2.cell 1 _ rfl
    have g0 := hS2.frozen 0
    have g1 := hS2.frozen 1
    have w0 := wrap_id (loS b.rings k + r.share.lo) (by unfold I64; omega)
    have w1 := wrap_id (hiS b.rings k + r.share.hi) (by unfold I64; omega)
    have hne : w.heap.size + 1 ≠ Bx := by omega
    have hOK2 : Hid (∀ j (h : j < k + 1) (h2 : j < b.rings.length), OkR b.rings[j]) := Lib.hid (hnx hOk)
    have hSF : Blk ((W2.setCell ⟨w.heap.size + 1, 0, none⟩ (.int .i64 (loS b.rings (k + 1)))).setCell ⟨w.heap.size + 1, 1, none⟩ (.int .i64 (hiS b.rings (k + 1)))) (w.heap.size + 1) #[.int .i64 (loS b.rings (k + 1)), .int .i64 (hiS b.rings (k + 1))] 27 := by
      have := (hS2.set 0 (.int .i64 (loS b.rings (k + 1)))).set 1 (.int .i64 (hiS b.rings (k + 1)))
      simpa using this
    have hK2 : KeepsFrom W3.heap.size W ((W2.setCell ⟨w.heap.size + 1, 0, none⟩ (.int .i64 (loS b.rings (k + 1)))).setCell ⟨w.heap.size + 1, 1, none⟩ (.int .i64 (hiS b.rings (k + 1)))) :=
      (keeps_below hb2 (Nat.le_refl _)).trans (((KeepsOthers.setCell _ _ _).trans (KeepsOthers.setCell _ _ _)).from _)
    have hBS : BelS (fun k => k = w.heap.size + 1) W3.heap.size W ((W2.setCell ⟨w.heap.size + 1, 0, none⟩ (.int .i64 (loS b.rings (k + 1)))).setCell ⟨w.heap.size + 1, 1, none⟩ (.int .i64 (hiS b.rings (k + 1)))) :=
      BelS.set (S := fun k => k = w.heap.size + 1) (BelS.set (S := fun k => k = w.heap.size + 1) (BelS.of_below (hb2.mono hWs)) ⟨w.heap.size + 1, 0, none⟩ _ (.inr rfl)) ⟨w.heap.size + 1, 1, none⟩ _ (.inr rfl)
    have hBF : Below w.heap.size w ((W2.setCell ⟨w.heap.size + 1, 0, none⟩ (.int .i64 (loS b.rings (k + 1)))).setCell ⟨w.heap.size + 1, 1, none⟩ (.int .i64 (hiS b.rings (k + 1)))) :=
      (hBel2.setCell (p := ⟨w.heap.size + 1, 0, none⟩) (by simp) _).setCell (p := ⟨w.heap.size + 1, 1, none⟩) (by simp) _
    have hbF : Blk ((W2.setCell ⟨w.heap.size + 1, 0, none⟩ (.int .i64 (loS b.rings (k + 1)))).setCell ⟨w.heap.size + 1, 1, none⟩ (.int .i64 (hiS b.rings (k + 1)))) w.heap.size #[.slice a b.rings.length cap, .int .i64 b.flaw, .int .i64 b.tough] 24 :=
      (hb'.other _ _ (by simp)).other _ _ (by simp)
    rw [HR.out, HR'.out] at hSF hK2 hBS hBF hbF
    have HSF := Lib.hid hSF
    have HK2 := Lib.hid hK2
    have HBS := Lib.hid hBS
    have HBF := Lib.hid hBF
    have HbF := Lib.hid hbF
    simp only [rgCells, List.getElem?_cons_zero, List.getElem?_cons_succ] at y4 y5
    clear x0 x1 x2 x3 x4 x5 x6 x7 x8 x9 hnr hcs2 hSF hK2 hBS hBF hbF hnx hok2 hOk hS hb hBel hS2 hb' hBel2 hall hb2 hok hbd hsh hA3 hB3 hS3 hI3 hr3 hrr i1 i2
    gi_wp2
    refine ⟨HK2.out, HBS.out, ?_, HbF.out, HBF.out⟩
    rw [HR.out, HR'.out]
    exact HSF.out
  case done =>
    rintro D W hD ⟨hok, hS, hb, hBel⟩ hKD
    rw [encR_len] at hok hS
    have hall : allR b.rings = true := allR_true.2 (fun j hj => hok.out j hj hj)
    have hPD : Below w.heap.size w (W.putObj D (.deferred none)) := hBel.trans (belowK_b (w := w) (Nat.le_refl _) W D _ _ (by omega) hKD rfl rfl)
    have d0 := hS.cell 0 _ rfl
    have d1 := hS.cell 1 _ rfl
    have c0 := hb.cell 0 _ rfl
    have c1 := hb.cell 1 _ rfl
    have c2 := hb.cell 2 _ rfl
    have hk0 : ∀ x : Int, (decide (loS b.rings b.rings.length ≤ 1000) && decide (1000 ≤ hiS b.rings b.rings.length)) = false → checkS b = 12 := fun x h => by simp only [checkS, h24, h0, hall, h, if_true, if_false, Bool.true_eq_false]
    have hk1 : (decide (loS b.rings b.rings.length ≤ 1000) && decide (1000 ≤ hiS b.rings b.rings.length)) = true → btw b.flaw 1 1000 = false → checkS b = 1 := fun h h' => by simp only [checkS, h24, h0, hall, h, h', if_true, if_false, Bool.true_eq_false]
    have hk2 : (decide (loS b.rings b.rings.length ≤ 1000) && decide (1000 ≤ hiS b.rings b.rings.length)) = true → btw b.flaw 1 1000 = true → btw b.tough 0 1000000000000000 = false → checkS b = 1 := fun h h' h'' => by simp only [checkS, h24, h0, hall, h, h', h'', if_true, if_false, Bool.true_eq_false]
    have hk3 : (decide (loS b.rings b.rings.length ≤ 1000) && decide (1000 ≤ hiS b.rings b.rings.length)) = true → btw b.flaw 1 1000 = true → btw b.tough 0 1000000000000000 = true → checkS b = 0 := fun h h' h'' => by simp only [checkS, h24, h0, hall, h, h', h'', if_false, Bool.true_eq_false]
    have hpan : ∀ (m : Int) (tmps : Array Value), checkS b = m → m ≠ 0 → bodyPostM Fp n Tryz.prog Tryz.f65 (Need w (checkS b)) (.panic (failC m)) { tmps := tmps, defers := [{ target := .collected D, args := #[] }] } W := fun m tmps hm h => by
      refine ⟨by simp, .inl ⟨_, _, rfl, run_takeDeferred hKD, ?_⟩⟩
      exact ⟨.inr ⟨by rw [hm]; exact h, by rw [hm]⟩, hPD⟩
    generalize loS b.rings b.rings.length = lo at *
    generalize hiS b.rings b.rings.length = hi at *
    have HH := Lib.hid hall
    clear hok hS hb hBel hall hA3 hB3 hS3 hI3 hr3 hrr hz
    by_cases hlo : lo ≤ 1000
    case neg =>
      have h12 := Lib.hid (hk0 0 (by simp [hlo]))
      clear hk0 hk1 hk2 hk3
      gi_wp2_with fail
      refine ⟨fp_need, ?_⟩
      refine (need_no 12 _ _).mono ?_
      rintro e w' ⟨rfl, rfl⟩
      exact hpan 12 _ h12.out (by decide)
    by_cases hhi : 1000 ≤ hi
    case neg =>
      have h12 := Lib.hid (hk0 0 (by simp [hhi]))
      clear hk0 hk1 hk2 hk3
      gi_wp2_with fail
      refine ⟨fp_need, ?_⟩
      refine (need_no 12 _ _).mono ?_
      rintro e w' ⟨rfl, rfl⟩
      exact hpan 12 _ h12.out (by decide)
    have K1 := Lib.hid (hk1 (by simp [hlo, hhi]))
    have K2 := Lib.hid (hk2 (by simp [hlo, hhi]))
    have K3 := Lib.hid (hk3 (by simp [hlo, hhi]))
    have HP := Lib.hid hpan
    clear hk0 hk1 hk2 hk3 hpan
    gi_wp2_with fail
    refine ⟨fp_need, ?_⟩
    refine (need_ok 12 _ _).mono ?_
    rintro e w' ⟨rfl, rfl⟩
    gi_wp2_with fail
    refine ⟨fp_between, ?_⟩
    refine (between_in b.flaw 1 1000 _ _).mono ?_
    rintro e w' ⟨rfl, rfl⟩
    cases hf : btw b.flaw 1 1000 with
    | false =>
      gi_wp2_with fail
      refine ⟨fp_need, ?_⟩
      refine (need_no 1 _ _).mono ?_
      rintro e w' ⟨rfl, rfl⟩
      exact HP.out 1 _ (K1.out hf) (by decide)
    | true =>
    gi_wp2_with fail
    refine ⟨fp_need, ?_⟩
    refine (need_ok 1 _ _).mono ?_
    rintro e w' ⟨rfl, rfl⟩
    gi_wp2_with fail
    refine ⟨fp_between, ?_⟩
    refine (between_in b.tough 0 1000000000000000 _ _).mono ?_
    rintro e w' ⟨rfl, rfl⟩
    cases ht : btw b.tough 0 1000000000000000 with
    | false =>
      gi_wp2_with fail
      refine ⟨fp_need, ?_⟩
      refine (need_no 1 _ _).mono ?_
      rintro e w' ⟨rfl, rfl⟩
      exact HP.out 1 _ (K2.out hf ht) (by decide)
    | true =>
    gi_wp2_with fail
    refine ⟨fp_need, ?_⟩
    refine (need_ok 1 _ _).mono ?_
    rintro e w' ⟨rfl, rfl⟩
    have hc := Lib.hid (K3.out hf ht)
    gi_wp2
    refine ⟨by simp, .inl ⟨_, _, rfl, run_takeDeferred hKD, ?_⟩⟩
    exact ⟨_, results_none rfl _ _ _, .inl ⟨hc.out, rfl⟩, hPD⟩
  case panic =>
    rintro D ch W hD ⟨rfl, hal, hBel⟩ hKD
    have hc : checkS b = 1 := by simp only [checkS, h24, h0, hal.out, if_true, if_false]
    simp only [Exit.inBlock, Exit.then]
    refine ⟨by simp, .inl ⟨_, _, rfl, run_takeDeferred hKD, ?_⟩⟩
    exact ⟨.inr ⟨by rw [hc]; decide, by rw [hc]⟩, hBel.trans (belowK_b (w := w) (Nat.le_refl _) W D _ _ (by omega) hKD rfl rfl)⟩

end Go.Proofs.YtaldpalhckdcdaaGreatDoor
