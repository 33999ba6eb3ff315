/- Steepest, Held, Strain, CheckLehr of package strength, by their contracts; no statement is proved here. -/
import Derived.Test.YtaldpalhckdcdaaGreatDoorLeP
import Derived.Test.YtaldpalhckdcdaaGreatDoorLeN
import Derived.Test.YtaldpalhckdcdaaGreatDoorToldR
import Derived.Test.YtaldpalhckdcdaaGreatDoorToldI
namespace Go.Proofs.YtaldpalhckdcdaaGreatDoor
open Go.RowKit Go.PlainAid
set_option linter.unusedVariables false
set_option linter.unusedSimpArgs false
section
attribute [local go_sem] Oper.semAt_some fp_round fp_depth
set_option maxHeartbeats 1000000 in
set_option maxRecDepth 100000 in
theorem needTemps_in (vl : Value) (l : Lr) (t : Sp) (w : World) (n : Nat) (h : RLr w vl l) : CallsIn Fp n Tryz.prog 44 #[vl, .agg #[.int .i64 t.lo, .int .i64 t.hi]] w (Need w (tempsE l t)) := by
  have h0 := h
  obtain ⟨v0, rfl, hr, i1⟩ := h
  have hA : Below w.heap.size w ((w.alloc (.cells #[v0, .int .i64 l.factor] 44)).alloc (.cells #[.int .i64 t.lo, .int .i64 t.hi] 27)) := (below_boxS w _).alloc (by simp) _
  have hB := (Blk.new w #[v0, .int .i64 l.factor] 44).alloc (.cells #[.int .i64 t.lo, .int .i64 t.hi] 27)
  have hS := Blk.new (w.alloc (.cells #[v0, .int .i64 l.factor] 44)) #[.int .i64 t.lo, .int .i64 t.hi] 27
  rw [World.size_alloc] at hS
  have c0 := hB.cell 0 _ rfl
  have c1 := hB.cell 1 _ rfl
  obtain ⟨a, cap, rfl, -, -, -⟩ := hr
  refine callsIn_of_wp Tryz.func44 rfl fp_needTemps ?_ rfl
  simp only [Tryz.ntmps44, List.size_toArray, List.length_cons, List.length_nil, Nat.reduceAdd, Nat.reduceSub, Array.replicate_succ, Array.replicate_zero, List.push_toArray, List.append_toArray, List.nil_append, List.cons_append]
  gi_wp2_with fail
  generalize (w.alloc (.cells #[.slice a l.knees.length cap, .int .i64 l.factor] 44)).alloc (.cells #[.int .i64 t.lo, .int .i64 t.hi] 27) = W at *
  refine ⟨fp_needLehr, ?_⟩
  refine (needLehr_in _ l W _ (h0.mono (ext_of_below hA))).mono ?_
  rintro e w1 ⟨(⟨hc, rfl⟩ | ⟨hc, rfl⟩), hb1⟩
  case inr =>
    have hE := Lib.hid (show tempsE l t = checkL l by rw [tempsE, if_neg hc])
    have HC := Lib.hid hc
    have hF := hA.trans (hb1.mono hA.size)
    clear hc
    exact ⟨rfl, .inr ⟨by rw [hE.out]; exact HC.out, by rw [hE.out]⟩, hF⟩
  have hF := hA.trans (hb1.mono hA.size)
  have hS1 := hS.below hb1 hS.lt
  have hE := Lib.hid (show tempsE l t = if wi t 0 10000 = true then 0 else 1 by rw [tempsE, if_pos hc])
  have s0 := hS1.cell 0 _ rfl
  have s1 := hS1.cell 1 _ rfl
  clear hc hb1 hA hB hS c0 c1
  gi_wp2_with fail
  refine ⟨fp_within, ?_⟩
  refine (within_in t 0 10000 _ _).mono ?_
  rintro e w2 ⟨rfl, hb2⟩
  have hF2 := hF.trans (hb2.mono hF.size)
  cases hw : wi t 0 10000 with
  | false =>
    have hE2 := Lib.hid (show tempsE l t = 1 by rw [hE.out, hw]; rfl)
    gi_wp2_with fail
    refine ⟨fp_need, ?_⟩
    refine (need_no 1 _ _).mono ?_
    rintro e w' ⟨rfl, rfl⟩
    exact ⟨rfl, .inr ⟨by rw [hE2.out]; decide, by rw [hE2.out]⟩, hF2⟩
  | true =>
    have hE2 := Lib.hid (show tempsE l t = 0 by rw [hE.out, hw]; rfl)
    gi_wp2_with fail
    refine ⟨fp_need, ?_⟩
    refine (need_ok 1 _ _).mono ?_
    rintro e w' ⟨rfl, rfl⟩
    gi_wp2
    go_end0
    exact ⟨.inl ⟨hE2.out, rfl⟩, hF2⟩
end
set_option maxHeartbeats 1000000 in
set_option maxRecDepth 100000 in
theorem strainF_any (a : Option Addr) (cap : Nat) (l : Lr) (t : Sp) (th : Int) (w : World) (h : RLr w (.agg #[.slice a l.knees.length cap, .int .i64 l.factor]) l) (hok : OkLr l) (hth : 1 ≤ th ∧ th ≤ 2000) :
    Calls Tryz.prog 53 #[.agg #[.slice a l.knees.length cap, .int .i64 l.factor], .agg #[.int .i64 t.lo, .int .i64 t.hi], .int .i64 th] w fun e w' => e = .returned (.int .i64 (strainL l t th)) ∧ Below w.heap.size w w' := by
  have hA : Below w.heap.size w ((w.alloc (.cells #[.slice a l.knees.length cap, .int .i64 l.factor] 44)).alloc (.cells #[.int .i64 t.lo, .int .i64 t.hi] 27)) := (below_boxS w _).alloc (by simp) _
  have hB := (Blk.new w #[.slice a l.knees.length cap, .int .i64 l.factor] 44).alloc (.cells #[.int .i64 t.lo, .int .i64 t.hi] 27)
  have hS := Blk.new (w.alloc (.cells #[.slice a l.knees.length cap, .int .i64 l.factor] 44)) #[.int .i64 t.lo, .int .i64 t.hi] 27
  rw [World.size_alloc] at hS
  have hq := steepL_ok hok t
  have hf := hok.factor
  obtain ⟨b1, b2, b3, b4⟩ := strQ_bd (f := l.factor) (th := th) hq hf hth
  have hs : strainL l t th = (l.factor * (steepL l t).1 * th * th + 1000000 * (steepL l t).2 - 1) / (1000000 * (steepL l t).2) := rfl
  have hq3 := hq.d1
  have hq4 := hq.d2
  go_enter Tryz.func53, Tryz.ntmps53
  have c0 := hB.cell 0 _ rfl
  have c1 := hB.cell 1 _ rfl
  have s0 := hS.cell 0 _ rfl
  have s1 := hS.cell 1 _ rfl
  go_wp2_with fail
  generalize (w.alloc (.cells #[.slice a l.knees.length cap, .int .i64 l.factor] 44)).alloc (.cells #[.int .i64 t.lo, .int .i64 t.hi] 27) = W at *
  refine (steepestF_any a cap l t W (h.mono (ext_of_below hA)) hok).mono ?_
  rintro e w1 ⟨rfl, hb1⟩
  have HS := Lib.hid hs
  clear hs hq
  generalize steepL l t = q at *
  have hA1 := hA.trans (hb1.mono hA.size)
  have hB1 := hB.below hb1 hB.lt
  have hA2 := hA1.alloc hA1.size (.cells #[.int .i64 q.1, .int .i64 q.2] 96)
  have hB2 := hB1.alloc (.cells #[.int .i64 q.1, .int .i64 q.2] 96)
  have hQ2 := Blk.new w1 #[.int .i64 q.1, .int .i64 q.2] 96
  clear c0 c1 s0 s1 hB hS hA hb1
  have e1 := hB2.cell 1 _ rfl
  have d0 := hQ2.cell 0 _ rfl
  have d1 := hQ2.cell 1 _ rfl
  have z1 := wrap_id (l.factor * q.1) (by unfold I64; omega)
  have z2 := wrap_id (l.factor * q.1 * th) (by unfold I64; omega)
  have z3 := wrap_id (l.factor * q.1 * th * th) (by unfold I64; omega)
  have z4 := wrap_id (1000000 * q.2) (by unfold I64; omega)
  have hup := fun V => up_any (l.factor * q.1 * th * th) (1000000 * q.2) V (by omega) (by omega)
  go_wp2_with fail
  refine (hup _).mono ?_
  rintro e w3 ⟨rfl, hb3⟩
  have hF := hA2.trans (hb3.mono hA2.size)
  clear hup hb3
  go_wp2
  go_ret
  exact ⟨ret_int HS.out.symm, hF⟩

theorem isFn_checkL1 : IsFn 66 := fun xs w => by kernel_rfl
theorem isFn_steep1 : IsFn 43 := fun xs w => by kernel_rfl
theorem isFn_held1 : IsFn 47 := fun xs w => by kernel_rfl
theorem isFn_strain1 : IsFn 52 := fun xs w => by kernel_rfl

set_option maxRecDepth 100000 in
theorem checkL1_any (a : Option Addr) (cap : Nat) (l : Lr) (p0 : Nat) (w : World) (h : RLr w (.agg #[.slice a l.knees.length cap, .int .i64 l.factor]) l) (hB : Blk w p0 #[.slice a l.knees.length cap, .int .i64 l.factor] 44) :
    Calls Tryz.prog 66 #[.pointer (some ⟨p0, 0, none⟩)] w (Need w (checkL l)) := by
  have hnb := needLehr_in _ l w 9 h
  have c0 := hB.cell 0 _ rfl
  have c1 := hB.cell 1 _ rfl
  go_enter Tryz.func66, Tryz.ntmps66
  go_wp2_with fail
  refine (calls_p hnb).mono ?_
  rintro e w' ⟨(⟨hc, rfl⟩ | ⟨hc, rfl⟩), hb⟩
  · have HC := Lib.hid hc
    have HB := Lib.hid hb
    clear hc hb hB c0 c1 hnb
    go_wp2
    go_end0
    exact ⟨.inl ⟨HC.out, rfl⟩, HB.out⟩
  · have HC := Lib.hid hc
    have HB := Lib.hid hb
    clear hc hb hB c0 c1 hnb
    go_wp2
    exact ⟨rfl, .inr ⟨HC.out, rfl⟩, HB.out⟩

set_option maxRecDepth 100000 in
theorem checkLehrP_any (vl : Value) (l : Lr) (w : World) (h : RLr w vl l) :
    Calls Tryz.prog 18 #[vl] w fun e w' => e = .returned (.int .i64 (checkL l)) ∧ Below w.heap.size w w' := by
  have hmf : ∀ (fn : Fn) (first cap : Array Value) (w : World), (Instr.makeFunc fn first cap).run Tryz.prog w = .ok (.func fn first cap) w := fun _ _ _ _ => rfl
  have h0 := h
  obtain ⟨v0, rfl, hr, hI⟩ := h
  obtain ⟨a, cap, rfl, -, -, -⟩ := hr
  have hA2 := below_boxS w (.cells #[.slice a l.knees.length cap, .int .i64 l.factor] 44)
  have hB := Blk.new w #[.slice a l.knees.length cap, .int .i64 l.factor] 44
  go_enter Tryz.func18, Tryz.ntmps18
  go_wp2_with fail
  generalize w.alloc (.cells #[.slice a l.knees.length cap, .int .i64 l.factor] 44) = W2 at *
  have hE := below_boxS W2 (.cells #[.int .i64 8] 29)
  have hBE := Blk.new W2 #[.int .i64 8] 29
  have hsz := hA2.size
  refine (errorOf_any 66 #[.pointer (some ⟨w.heap.size, 0, none⟩)] W2 isFn_checkL1 (fun w' => checkL l = 0 ∧ Below W2.heap.size W2 w') (fun n w' => n = checkL l ∧ Below W2.heap.size W2 w')
    ((checkL1_any a cap l _ _ ((h0.mono (ext_of_below hA2)).mono (ext_of_below hE)) (hB.alloc _)).mono ?_)).mono ?_
  · rintro e w' ⟨(⟨hc, rfl⟩ | ⟨hc, rfl⟩), hb⟩
    · exact ⟨hBE.below hb hBE.lt, .inl ⟨rfl, hc, hE.trans (hb.mono hE.size)⟩⟩
    · exact ⟨hBE.below hb hBE.lt, .inr ⟨_, rfl, rfl, hE.trans (hb.mono hE.size)⟩⟩
  rintro e w' (⟨w2, rfl, ⟨hc, hb⟩, rfl⟩ | ⟨n, w2, rfl, ⟨rfl, hb⟩, rfl⟩)
  · have h1 := hA2.trans (hb.mono hA2.size)
    have h2 := h1.setCell (p := ⟨W2.heap.size, 0, none⟩) hsz (.int .i64 0)
    have HF := Lib.hid (h2.alloc h2.size (.cells #[.int .i64 0] 132))
    have HC := Lib.hid hc
    clear h1 h2 hb hc hE hBE hB h0 hA2
    generalize (w2.setCell ⟨W2.heap.size, 0, none⟩ (.int .i64 0)).alloc (.cells #[.int .i64 0] 132) = WF at *
    go_wp2
    go_ret
    exact ⟨by rw [HC.out]; rfl, HF.out⟩
  · have h1 := hA2.trans (hb.mono hA2.size)
    have HF := Lib.hid ((h1.alloc h1.size (.cells #[.int .i64 (checkL l)] 132)).setCell (p := ⟨W2.heap.size, 0, none⟩) hsz (.int .i64 (checkL l)))
    clear h1 hb hE hBE hB h0 hA2
    generalize (w2.alloc (.cells #[.int .i64 (checkL l)] 132)).setCell ⟨W2.heap.size, 0, none⟩ (.int .i64 (checkL l)) = WF at *
    go_wp2
    go_ret
    exact ⟨rfl, HF.out⟩

theorem tempsE_ok {l : Lr} {t : Sp} (h : tempsE l t = 0) : OkLr l ∧ wi t 0 10000 = true := by
  unfold tempsE at h
  split at h
  · rename_i hc
    split at h
    · rename_i hw; exact ⟨okLr_of hc, hw⟩
    · cases h
  · rename_i hc; exact absurd h hc

set_option maxHeartbeats 1000000 in
set_option maxRecDepth 100000 in
theorem steep1_any (a : Option Addr) (cap : Nat) (l : Lr) (t : Sp) (p0 p1 : Nat) (w : World) (h : RLr w (.agg #[.slice a l.knees.length cap, .int .i64 l.factor]) l) (hB : Blk w p0 #[.slice a l.knees.length cap, .int .i64 l.factor] 44) (hS : Blk w p1 #[.int .i64 t.lo, .int .i64 t.hi] 27) :
    Calls Tryz.prog 43 #[.pointer (some ⟨p0, 0, none⟩), .pointer (some ⟨p1, 0, none⟩)] w (Finds_ratio (fun v => tempsE l t = 0 ∧ v = ⟨(lowQ (steepL l t)).1, (lowQ (steepL l t)).2⟩) (fun n => n ≠ 0 ∧ n = tempsE l t) w) := by
  have hA := below_boxS w (.cells #[.int .i64 0, .int .i64 0] 47)
  have hR := Blk.new w #[.int .i64 0, .int .i64 0] 47
  have hB0 := hB.alloc (.cells #[.int .i64 0, .int .i64 0] 47)
  have hS0 := hS.alloc (.cells #[.int .i64 0, .int .i64 0] 47)
  have lB := hB0.lt
  have lS := hS0.lt
  have lR := hR.lt
  have c0 := hB0.cell 0 _ rfl
  have c1 := hB0.cell 1 _ rfl
  have s0 := hS0.cell 0 _ rfl
  have s1 := hS0.cell 1 _ rfl
  go_enter Tryz.func43, Tryz.ntmps43
  go_wp2_with fail
  generalize w.alloc (.cells #[.int .i64 0, .int .i64 0] 47) = W at *
  refine (calls_p (needTemps_in _ l t W 9 (h.mono (ext_of_below hA)))).mono ?_
  rintro e w1 ⟨(⟨hc, rfl⟩ | ⟨hc, rfl⟩), hb1⟩
  case inr =>
    have HC := Lib.hid hc
    have HB := Lib.hid (hA.trans (hb1.mono hA.size))
    clear hc hb1 hB hS hB0 hS0 hR hA c0 c1 s0 s1
    go_wp2
    exact ⟨rfl, HB.out, .inr ⟨_, rfl, HC.out, rfl⟩⟩
  have HC := Lib.hid hc
  obtain ⟨hok, -⟩ := tempsE_ok hc
  clear hc c0 c1 s0 s1
  have hA1 := hA.trans (hb1.mono hA.size)
  have hB1 := hB0.below hb1 lB
  have hS1 := hS0.below hb1 lS
  have hR1 := hR.below hb1 lR
  have c0 := hB1.cell 0 _ rfl
  have c1 := hB1.cell 1 _ rfl
  have s0 := hS1.cell 0 _ rfl
  have s1 := hS1.cell 1 _ rfl
  go_wp2_with fail
  refine (steepestF_any a cap l t _ (h.mono (ext_of_below hA1)) hok).mono ?_
  rintro e w2 ⟨rfl, hb2⟩
  have hq := steepL_ok hok t
  have hA2 := hA1.trans (hb2.mono hA1.size)
  have hR2 := hR1.below hb2 hR1.lt
  clear c0 c1 s0 s1 hB1 hS1 hB0 hS0 hb1 hb2 hR1 hA1
  go_wp2_with fail
  refine (ratio_any (steepL l t).1 (steepL l t).2 _ hq).mono ?_
  rintro e w3 ⟨rfl, hb3⟩
  have hA3 := hA2.trans (hb3.mono hA2.size)
  have hR3 := hR2.below hb3 hR2.lt
  have heta : (((steepL l t).1, (steepL l t).2) : Int × Int) = steepL l t := rfl
  rw [heta]
  obtain ⟨q, hqe⟩ : ∃ q, lowQ (steepL l t) = q := ⟨_, rfl⟩
  rw [hqe]
  have HQE := Lib.hid hqe
  clear hqe
  have u0 := hR3.cell 0 _ rfl
  have u1 := hR3.cell 1 _ rfl
  have g0 := hR3.frozen 0
  have g1 := hR3.frozen 1
  have HU := Lib.hid ((hR3.set 0 (.int .i64 q.1)).set 1 (.int .i64 q.2))
  have HA := Lib.hid ((hA3.setCell (p := ⟨w.heap.size, 0, none⟩) (Nat.le_refl _) (.int .i64 q.1)).setCell (p := ⟨w.heap.size, 1, none⟩) (Nat.le_refl _) (.int .i64 q.2))
  clear hR3 hA3 hR2 hA2 hb3 hA hq heta hB hS hR
  go_wp2
  have r0 := HU.out.cell 0 (.int .i64 q.1) (by simp)
  have r1 := HU.out.cell 1 (.int .i64 q.2) (by simp)
  refine ⟨rfl, .agg #[.int .i64 q.1, .int .i64 q.2], ?_, HA.out, .inl ⟨⟨q.1, q.2⟩, rfl, HC.out, by rw [HQE.out]⟩⟩
  simp [results, Tryz.results43, go_sem, r0, r1]

/-- what Steepest answers. -/
def SteepA (w : World) (l : Lr) (t : Sp) (e : Ending) (w' : World) : Prop := e = .returned (.tuple #[.agg #[.int .i64 (steepS l t).1.1, .int .i64 (steepS l t).1.2], .int .i64 (steepS l t).2]) ∧ Below w.heap.size w w'

set_option maxHeartbeats 1000000 in
set_option maxRecDepth 100000 in
theorem steepP_any (vl : Value) (l : Lr) (t : Sp) (w : World) (h : RLr w vl l) :
    Calls Tryz.prog 11 #[vl, .agg #[.int .i64 t.lo, .int .i64 t.hi]] w (SteepA w l t) := by
  have hmf : ∀ (fn : Fn) (first cap : Array Value) (w : World), (Instr.makeFunc fn first cap).run Tryz.prog w = .ok (.func fn first cap) w := fun _ _ _ _ => rfl
  have h0 := h
  obtain ⟨v0, rfl, hr, hI⟩ := h
  obtain ⟨a, cap, rfl, -, -, -⟩ := hr
  have hA4 : Below w.heap.size w (((w.alloc (.cells #[.slice a l.knees.length cap, .int .i64 l.factor] 44)).alloc (.cells #[.int .i64 t.lo, .int .i64 t.hi] 27)).alloc (.cells #[.int .i64 0, .int .i64 0] 47)) := (((below_boxS w _).alloc (by simp) _).alloc (by simp only [World.size_alloc]; omega) _)
  have hB0 := (((Blk.new w #[.slice a l.knees.length cap, .int .i64 l.factor] 44).alloc (.cells #[.int .i64 t.lo, .int .i64 t.hi] 27)).alloc (.cells #[.int .i64 0, .int .i64 0] 47))
  have hB1 := ((Blk.new (w.alloc (.cells #[.slice a l.knees.length cap, .int .i64 l.factor] 44)) #[.int .i64 t.lo, .int .i64 t.hi] 27).alloc (.cells #[.int .i64 0, .int .i64 0] 47))
  have hB2 := (Blk.new ((w.alloc (.cells #[.slice a l.knees.length cap, .int .i64 l.factor] 44)).alloc (.cells #[.int .i64 t.lo, .int .i64 t.hi] 27)) #[.int .i64 0, .int .i64 0] 47)
  simp only [World.size_alloc] at hB1 hB2
  go_enter Tryz.func11, Tryz.ntmps11
  go_wp2_with fail
  generalize (((w.alloc (.cells #[.slice a l.knees.length cap, .int .i64 l.factor] 44)).alloc (.cells #[.int .i64 t.lo, .int .i64 t.hi] 27)).alloc (.cells #[.int .i64 0, .int .i64 0] 47)) = W2 at *
  have hE := ext_of_below hA4
  have hsz := hA4.size
  refine (told_ratio_any 43 #[.pointer (some ⟨w.heap.size, 0, none⟩), .pointer (some ⟨w.heap.size + 1, 0, none⟩)] W2 (fun v => tempsE l t = 0 ∧ v = ⟨(lowQ (steepL l t)).1, (lowQ (steepL l t)).2⟩) (fun n => n ≠ 0 ∧ n = tempsE l t) isFn_steep1
    (fun W hW => steep1_any a cap l t _ _ W ((h0.mono hE).mono (ext_of_below hW)) (hB0.below hW hB0.lt) (hB1.below hW hB1.lt))).mono ?_
  rintro e w' ⟨hb, (⟨u, rfl, hw0, rfl⟩ | ⟨n, rfl, hn, rfl⟩)⟩
  · have HX := Lib.hid (show steepS l t = (lowQ (steepL l t), 0) by rw [steepS, if_pos hw0])
    simp only
    generalize lowQ (steepL l t) = q at *
    have hU := hB2.below hb hB2.lt
    have hA := hA4.trans (hb.mono hA4.size)
    have u0 := hU.cell 0 _ rfl
    have u1 := hU.cell 1 _ rfl
    have g0 := hU.frozen 0
    have g1 := hU.frozen 1
    have HU := Lib.hid ((hU.set 0 (.int .i64 q.1)).set 1 (.int .i64 q.2))
    have HA := Lib.hid ((hA.setCell (p := ⟨w.heap.size + 1 + 1, 0, none⟩) (by simp only; omega) (.int .i64 q.1)).setCell (p := ⟨w.heap.size + 1 + 1, 1, none⟩) (by simp only; omega) (.int .i64 q.2))
    clear hU hA hb hB0 hB1 hB2 hA4 hE h0 hw0 hI
    go_wp2
    have r0 := HU.out.cell 0 (.int .i64 q.1) (by simp)
    have r1 := HU.out.cell 1 (.int .i64 q.2) (by simp)
    refine ⟨rfl, .tuple #[.agg #[.int .i64 q.1, .int .i64 q.2], .int .i64 0], ?_, by rw [HX.out], HA.out⟩
    simp [results, Tryz.results11, go_sem, r0, r1]
  · have HX := Lib.hid (show steepS l t = ((0, 0), tempsE l t) by rw [steepS, if_neg hn])
    have hU := hB2.below hb hB2.lt
    have hA := hA4.trans (hb.mono hA4.size)
    have u0 := hU.cell 0 _ rfl
    have u1 := hU.cell 1 _ rfl
    have g0 := hU.frozen 0
    have g1 := hU.frozen 1
    have HU := Lib.hid ((hU.set 0 (.int .i64 0)).set 1 (.int .i64 0))
    have HA := Lib.hid ((hA.setCell (p := ⟨w.heap.size + 1 + 1, 0, none⟩) (by simp only; omega) (.int .i64 0)).setCell (p := ⟨w.heap.size + 1 + 1, 1, none⟩) (by simp only; omega) (.int .i64 0))
    clear hU hA hb hB0 hB1 hB2 hA4 hE h0 hn hI
    go_wp2
    have r0 := HU.out.cell 0 (.int .i64 0) (by simp)
    have r1 := HU.out.cell 1 (.int .i64 0) (by simp)
    refine ⟨rfl, .tuple #[.agg #[.int .i64 0, .int .i64 0], .int .i64 (tempsE l t)], ?_, by rw [HX.out], HA.out⟩
    simp [results, Tryz.results11, go_sem, r0, r1]

theorem heldE_ok {l : Lr} {t : Int} (h : heldE l t = 0) : OkLr l ∧ 0 ≤ t ∧ t ≤ 10000 := by
  unfold heldE at h
  split at h
  · rename_i hc
    split at h
    · rename_i hw; exact ⟨okLr_of hc, btw_true.1 hw⟩
    · cases h
  · rename_i hc; exact absurd h hc

set_option maxHeartbeats 1000000 in
set_option maxRecDepth 100000 in
theorem held1_any (a : Option Addr) (cap : Nat) (l : Lr) (t : Int) (p0 p1 : Nat) (w : World) (h : RLr w (.agg #[.slice a l.knees.length cap, .int .i64 l.factor]) l) (hB : Blk w p0 #[.slice a l.knees.length cap, .int .i64 l.factor] 44) (hS : Blk w p1 #[.int .i64 t] 3) :
    Calls Tryz.prog 47 #[.pointer (some ⟨p0, 0, none⟩), .pointer (some ⟨p1, 0, none⟩)] w (Finds_int (fun v => heldE l t = 0 ∧ v = heldL l t) (fun n => n ≠ 0 ∧ n = heldE l t) w) := by
  have lB := hB.lt
  have lS := hS.lt
  have c0 := hB.cell 0 _ rfl
  have c1 := hB.cell 1 _ rfl
  go_enter Tryz.func47, Tryz.ntmps47
  go_wp2_with fail
  refine (calls_p (needLehr_in _ l w 9 h)).mono ?_
  rintro e w1 ⟨(⟨hc, rfl⟩ | ⟨hc, rfl⟩), hb1⟩
  case inr =>
    have HC := Lib.hid hc
    have HE := Lib.hid (show heldE l t = checkL l by rw [heldE, if_neg hc])
    have HB := Lib.hid hb1
    clear hc hb1 hB hS c0 c1
    go_wp2
    exact ⟨rfl, HB.out, .inr ⟨_, rfl, HC.out, HE.out.symm⟩⟩
  have HE := Lib.hid (show heldE l t = if btw t 0 10000 = true then 0 else 1 by rw [heldE, if_pos hc])
  have hok := okLr_of hc
  clear hc c0 c1
  have hB1 := hB.below hb1 lB
  have hS1 := hS.below hb1 lS
  have s0 := hS1.cell 0 _ rfl
  go_wp2_with fail
  refine (calls_p (between_in t 0 10000 _ 9)).mono ?_
  rintro e w' ⟨rfl, rfl⟩
  cases hbt : btw t 0 10000 with
  | false =>
    have HE2 := Lib.hid (show heldE l t = 1 by rw [HE.out, hbt]; rfl)
    have HB := Lib.hid hb1
    clear hb1 hB hS hB1 hS1 s0
    go_wp2_with fail
    refine (calls_p (need_no 1 _ 9)).mono ?_
    rintro e w' ⟨rfl, rfl⟩
    go_wp2
    exact ⟨rfl, HB.out, .inr ⟨_, rfl, by decide, HE2.out.symm⟩⟩
  | true =>
  have HE2 := Lib.hid (show heldE l t = 0 by rw [HE.out, hbt]; rfl)
  have ht := btw_true.1 hbt
  clear hbt
  go_wp2_with fail
  refine (calls_p (need_ok 1 _ 9)).mono ?_
  rintro e w' ⟨rfl, rfl⟩
  have c0 := hB1.cell 0 _ rfl
  have c1 := hB1.cell 1 _ rfl
  go_wp2_with fail
  refine (heldF_any a cap l t _ (h.mono (ext_of_below hb1)) hok ht).mono ?_
  rintro e w2 ⟨rfl, hb2⟩
  have HB := Lib.hid (hb1.trans (hb2.mono hb1.size))
  clear hb1 hb2 hB hS hB1 hS1 s0 c0 c1
  go_wp2
  go_ret
  exact ⟨HB.out, .inl ⟨_, rfl, HE2.out, rfl⟩⟩

/-- what Held answers. -/
def HeldA (w : World) (l : Lr) (t : Int) (e : Ending) (w' : World) : Prop := e = .returned (.tuple #[.int .i64 (heldS l t).1, .int .i64 (heldS l t).2]) ∧ Below w.heap.size w w'

set_option maxHeartbeats 1000000 in
set_option maxRecDepth 100000 in
theorem heldP_any (vl : Value) (l : Lr) (t : Int) (w : World) (h : RLr w vl l) :
    Calls Tryz.prog 12 #[vl, .int .i64 t] w (HeldA w l t) := by
  have hmf : ∀ (fn : Fn) (first cap : Array Value) (w : World), (Instr.makeFunc fn first cap).run Tryz.prog w = .ok (.func fn first cap) w := fun _ _ _ _ => rfl
  have h0 := h
  obtain ⟨v0, rfl, hr, hI⟩ := h
  obtain ⟨a, cap, rfl, -, -, -⟩ := hr
  have hA4 : Below w.heap.size w ((w.alloc (.cells #[.slice a l.knees.length cap, .int .i64 l.factor] 44)).alloc (.cells #[.int .i64 t] 3)) := ((below_boxS w _).alloc (by simp) _)
  have hB0 := ((Blk.new w #[.slice a l.knees.length cap, .int .i64 l.factor] 44).alloc (.cells #[.int .i64 t] 3))
  have hB1 := (Blk.new (w.alloc (.cells #[.slice a l.knees.length cap, .int .i64 l.factor] 44)) #[.int .i64 t] 3)
  simp only [World.size_alloc] at hB1
  go_enter Tryz.func12, Tryz.ntmps12
  go_wp2_with fail
  generalize ((w.alloc (.cells #[.slice a l.knees.length cap, .int .i64 l.factor] 44)).alloc (.cells #[.int .i64 t] 3)) = W2 at *
  have hE := ext_of_below hA4
  refine (told_int_any 47 #[.pointer (some ⟨w.heap.size, 0, none⟩), .pointer (some ⟨w.heap.size + 1, 0, none⟩)] W2 (fun v => heldE l t = 0 ∧ v = heldL l t) (fun n => n ≠ 0 ∧ n = heldE l t) isFn_held1
    (fun W hW => held1_any a cap l t _ _ W ((h0.mono hE).mono (ext_of_below hW)) (hB0.below hW hB0.lt) (hB1.below hW hB1.lt))).mono ?_
  rintro e w' ⟨hb, (⟨u, rfl, hw0, rfl⟩ | ⟨n, rfl, hn, rfl⟩)⟩
  · have HX := Lib.hid (show heldS l t = (heldL l t, 0) by rw [heldS, if_pos hw0])
    have HF := Lib.hid (hA4.trans (hb.mono hA4.size))
    clear hb hB0 hB1 hA4 hE h0 hw0 hI
    go_wp2
    go_ret2
    exact ⟨by rw [HX.out]; rfl, HF.out⟩
  · have HX := Lib.hid (show heldS l t = (0, heldE l t) by rw [heldS, if_neg hn])
    have HF := Lib.hid (hA4.trans (hb.mono hA4.size))
    clear hb hB0 hB1 hA4 hE h0 hn hI
    go_wp2
    go_ret2
    exact ⟨by rw [HX.out]; rfl, HF.out⟩

theorem strainE_ok {l : Lr} {t : Sp} {th : Int} (h : strainE l t th = 0) : OkLr l ∧ wi t 0 10000 = true ∧ 1 ≤ th ∧ th ≤ 2000 := by
  unfold strainE at h
  split at h
  · rename_i hc
    split at h
    · rename_i hw
      obtain ⟨h1, h2⟩ := tempsE_ok hc
      exact ⟨h1, h2, btw_true.1 hw⟩
    · cases h
  · rename_i hc; exact absurd h hc

set_option maxHeartbeats 1000000 in
set_option maxRecDepth 100000 in
theorem strain1_any (a : Option Addr) (cap : Nat) (l : Lr) (t : Sp) (th : Int) (p0 p1 p2 : Nat) (w : World) (h : RLr w (.agg #[.slice a l.knees.length cap, .int .i64 l.factor]) l) (hB : Blk w p0 #[.slice a l.knees.length cap, .int .i64 l.factor] 44) (hS : Blk w p1 #[.int .i64 t.lo, .int .i64 t.hi] 27) (hT : Blk w p2 #[.int .i64 th] 3) :
    Calls Tryz.prog 52 #[.pointer (some ⟨p0, 0, none⟩), .pointer (some ⟨p1, 0, none⟩), .pointer (some ⟨p2, 0, none⟩)] w (Finds_int (fun v => strainE l t th = 0 ∧ v = strainL l t th) (fun n => n ≠ 0 ∧ n = strainE l t th) w) := by
  have lB := hB.lt
  have lS := hS.lt
  have lT := hT.lt
  have c0 := hB.cell 0 _ rfl
  have c1 := hB.cell 1 _ rfl
  have s0 := hS.cell 0 _ rfl
  have s1 := hS.cell 1 _ rfl
  go_enter Tryz.func52, Tryz.ntmps52
  go_wp2_with fail
  refine (calls_p (needTemps_in _ l t w 9 h)).mono ?_
  rintro e w1 ⟨(⟨hc, rfl⟩ | ⟨hc, rfl⟩), hb1⟩
  case inr =>
    have HC := Lib.hid hc
    have HE := Lib.hid (show strainE l t th = tempsE l t by rw [strainE, if_neg hc])
    have HB := Lib.hid hb1
    clear hc hb1 hB hS hT c0 c1 s0 s1
    go_wp2
    exact ⟨rfl, HB.out, .inr ⟨_, rfl, HC.out, HE.out.symm⟩⟩
  have HE := Lib.hid (show strainE l t th = if btw th 1 2000 = true then 0 else 1 by rw [strainE, if_pos hc])
  obtain ⟨hok, -⟩ := tempsE_ok hc
  clear hc c0 c1 s0 s1
  have hB1 := hB.below hb1 lB
  have hS1 := hS.below hb1 lS
  have hT1 := hT.below hb1 lT
  have t0 := hT1.cell 0 _ rfl
  go_wp2_with fail
  refine (calls_p (between_in th 1 2000 _ 9)).mono ?_
  rintro e w' ⟨rfl, rfl⟩
  cases hbt : btw th 1 2000 with
  | false =>
    have HE2 := Lib.hid (show strainE l t th = 1 by rw [HE.out, hbt]; rfl)
    have HB := Lib.hid hb1
    clear hb1 hB hS hT hB1 hS1 hT1 t0
    go_wp2_with fail
    refine (calls_p (need_no 1 _ 9)).mono ?_
    rintro e w' ⟨rfl, rfl⟩
    go_wp2
    exact ⟨rfl, HB.out, .inr ⟨_, rfl, by decide, HE2.out.symm⟩⟩
  | true =>
  have HE2 := Lib.hid (show strainE l t th = 0 by rw [HE.out, hbt]; rfl)
  have ht := btw_true.1 hbt
  clear hbt
  go_wp2_with fail
  refine (calls_p (need_ok 1 _ 9)).mono ?_
  rintro e w' ⟨rfl, rfl⟩
  have c0 := hB1.cell 0 _ rfl
  have c1 := hB1.cell 1 _ rfl
  have s0 := hS1.cell 0 _ rfl
  have s1 := hS1.cell 1 _ rfl
  go_wp2_with fail
  refine (strainF_any a cap l t th _ (h.mono (ext_of_below hb1)) hok ht).mono ?_
  rintro e w2 ⟨rfl, hb2⟩
  have HB := Lib.hid (hb1.trans (hb2.mono hb1.size))
  clear hb1 hb2 hB hS hT hB1 hS1 hT1 s0 s1 t0 c0 c1
  go_wp2
  go_ret
  exact ⟨HB.out, .inl ⟨_, rfl, HE2.out, rfl⟩⟩

/-- what Strain answers. -/
def StrainA (w : World) (l : Lr) (t : Sp) (th : Int) (e : Ending) (w' : World) : Prop := e = .returned (.tuple #[.int .i64 (strainS l t th).1, .int .i64 (strainS l t th).2]) ∧ Below w.heap.size w w'

set_option maxHeartbeats 1000000 in
set_option maxRecDepth 100000 in
theorem strainP_any (vl : Value) (l : Lr) (t : Sp) (th : Int) (w : World) (h : RLr w vl l) :
    Calls Tryz.prog 13 #[vl, .agg #[.int .i64 t.lo, .int .i64 t.hi], .int .i64 th] w (StrainA w l t th) := by
  have hmf : ∀ (fn : Fn) (first cap : Array Value) (w : World), (Instr.makeFunc fn first cap).run Tryz.prog w = .ok (.func fn first cap) w := fun _ _ _ _ => rfl
  have h0 := h
  obtain ⟨v0, rfl, hr, hI⟩ := h
  obtain ⟨a, cap, rfl, -, -, -⟩ := hr
  have hA4 : Below w.heap.size w (((w.alloc (.cells #[.slice a l.knees.length cap, .int .i64 l.factor] 44)).alloc (.cells #[.int .i64 t.lo, .int .i64 t.hi] 27)).alloc (.cells #[.int .i64 th] 3)) := (((below_boxS w _).alloc (by simp) _).alloc (by simp only [World.size_alloc]; omega) _)
  have hB0 := (((Blk.new w #[.slice a l.knees.length cap, .int .i64 l.factor] 44).alloc (.cells #[.int .i64 t.lo, .int .i64 t.hi] 27)).alloc (.cells #[.int .i64 th] 3))
  have hB1 := ((Blk.new (w.alloc (.cells #[.slice a l.knees.length cap, .int .i64 l.factor] 44)) #[.int .i64 t.lo, .int .i64 t.hi] 27).alloc (.cells #[.int .i64 th] 3))
  have hB2 := (Blk.new ((w.alloc (.cells #[.slice a l.knees.length cap, .int .i64 l.factor] 44)).alloc (.cells #[.int .i64 t.lo, .int .i64 t.hi] 27)) #[.int .i64 th] 3)
  simp only [World.size_alloc] at hB1 hB2
  go_enter Tryz.func13, Tryz.ntmps13
  go_wp2_with fail
  generalize (((w.alloc (.cells #[.slice a l.knees.length cap, .int .i64 l.factor] 44)).alloc (.cells #[.int .i64 t.lo, .int .i64 t.hi] 27)).alloc (.cells #[.int .i64 th] 3)) = W2 at *
  have hE := ext_of_below hA4
  refine (told_int_any 52 #[.pointer (some ⟨w.heap.size, 0, none⟩), .pointer (some ⟨w.heap.size + 1, 0, none⟩), .pointer (some ⟨w.heap.size + 1 + 1, 0, none⟩)] W2 (fun v => strainE l t th = 0 ∧ v = strainL l t th) (fun n => n ≠ 0 ∧ n = strainE l t th) isFn_strain1
    (fun W hW => strain1_any a cap l t th _ _ _ W ((h0.mono hE).mono (ext_of_below hW)) (hB0.below hW hB0.lt) (hB1.below hW hB1.lt) (hB2.below hW hB2.lt))).mono ?_
  rintro e w' ⟨hb, (⟨u, rfl, hw0, rfl⟩ | ⟨n, rfl, hn, rfl⟩)⟩
  · have HX := Lib.hid (show strainS l t th = (strainL l t th, 0) by rw [strainS, if_pos hw0])
    have HF := Lib.hid (hA4.trans (hb.mono hA4.size))
    clear hb hB0 hB1 hB2 hA4 hE h0 hw0 hI
    go_wp2
    go_ret2
    exact ⟨by rw [HX.out]; rfl, HF.out⟩
  · have HX := Lib.hid (show strainS l t th = (0, strainE l t th) by rw [strainS, if_neg hn])
    have HF := Lib.hid (hA4.trans (hb.mono hA4.size))
    clear hb hB0 hB1 hB2 hA4 hE h0 hn hI
    go_wp2
    go_ret2
    exact ⟨by rw [HX.out]; rfl, HF.out⟩

end Go.Proofs.YtaldpalhckdcdaaGreatDoor
