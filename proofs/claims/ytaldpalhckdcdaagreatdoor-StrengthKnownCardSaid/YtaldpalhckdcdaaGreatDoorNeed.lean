/- The least thickness of each ring: needed by its contract; no statement is proved here. -/
import Derived.Test.YtaldpalhckdcdaaGreatDoorNeedM
import Derived.Test.YtaldpalhckdcdaaGreatDoorLoad
import Derived.Test.YtaldpalhckdcdaaGreatDoorWall
import Derived.Test.YtaldpalhckdcdaaGreatDoorFst
import Derived.Test.YtaldpalhckdcdaaGreatDoorRingIt
namespace Go.Proofs.YtaldpalhckdcdaaGreatDoor
open Go.RowKit Go.PlainAid
set_option linter.unusedVariables false
set_option linter.unusedSimpArgs false
attribute [local go_sem] Oper.semAt_some fp_round fp_depth
theorem isFn_needed1 : IsFn 81 := fun xs w => by kernel_rfl
theorem fp_needBoth : Fp.fn 37 := ⟨_, Tryz.func37⟩

set_option maxHeartbeats 1000000 in
set_option maxRecDepth 100000 in
theorem needBoth_in (vb : Value) (b : Bot) (l : Ld) (w : World) (n : Nat) (h : RBot w vb b) : CallsIn Fp n Tryz.prog 37 #[vb, .agg #[.int .i64 l.press, .int .i64 l.force, .int .i64 l.speed, .int .i64 l.other]] w (Need w (bothS b l)) := by
  have h0 := h
  obtain ⟨v0, rfl, hr, hI⟩ := h
  obtain ⟨a, cap, rfl, -, -, -⟩ := hr
  have hA : Below w.heap.size w ((w.alloc (.cells #[.slice a b.rings.length cap, .int .i64 b.flaw, .int .i64 b.tough] 24)).alloc (.cells #[.int .i64 l.press, .int .i64 l.force, .int .i64 l.speed, .int .i64 l.other] 33)) := (below_boxS w _).alloc (by simp) _
  have hB := (Blk.new w #[.slice a b.rings.length cap, .int .i64 b.flaw, .int .i64 b.tough] 24).alloc (.cells #[.int .i64 l.press, .int .i64 l.force, .int .i64 l.speed, .int .i64 l.other] 33)
  have hL := Blk.new (w.alloc (.cells #[.slice a b.rings.length cap, .int .i64 b.flaw, .int .i64 b.tough] 24)) #[.int .i64 l.press, .int .i64 l.force, .int .i64 l.speed, .int .i64 l.other] 33
  rw [World.size_alloc] at hL
  refine callsIn_of_wp Tryz.func37 rfl fp_needBoth ?_ rfl
  simp only [Tryz.ntmps37, List.size_toArray, List.length_cons, List.length_nil, Nat.reduceAdd, Nat.reduceSub, Array.replicate_succ, Array.replicate_zero, List.push_toArray, List.append_toArray, List.nil_append, List.cons_append]
  have c0 := hB.cell 0 _ rfl
  have c1 := hB.cell 1 _ rfl
  have c2 := hB.cell 2 _ rfl
  gi_wp2_with fail
  generalize (w.alloc (.cells #[.slice a b.rings.length cap, .int .i64 b.flaw, .int .i64 b.tough] 24)).alloc (.cells #[.int .i64 l.press, .int .i64 l.force, .int .i64 l.speed, .int .i64 l.other] 33) = W2 at *
  refine ⟨fp_needBottle, ?_⟩
  refine (needBottle_in _ b _ _ (h0.mono (ext_of_below hA))).mono ?_
  rintro e w1 ⟨hc, hb1⟩
  have hA1 := hA.trans (hb1.mono hA.size)
  have hL1 := hL.below hb1 hL.lt
  rcases hc with ⟨hc, rfl⟩ | ⟨hc, rfl⟩
  · have l0 := hL1.cell 0 _ rfl
    have l1 := hL1.cell 1 _ rfl
    have l2 := hL1.cell 2 _ rfl
    have l3 := hL1.cell 3 _ rfl
    have HC : Hid (bothS b l = loadS l) := Lib.hid (by rw [bothS, if_pos hc])
    clear hc hB hL hA hb1 c0 c1 c2
    gi_wp2_with fail
    refine ⟨fp_needLoad, ?_⟩
    refine (needLoad_in l _ _).mono ?_
    rintro e w2 ⟨hc, hb2⟩
    have HA := Lib.hid (hA1.trans (hb2.mono hA1.size))
    rcases hc with ⟨hc, rfl⟩ | ⟨hc, rfl⟩
    · have H0 := Lib.hid hc
      clear hc l0 l1 l2 l3 hL1 hb2 hA1
      gi_wp2
      go_end0
      exact ⟨.inl ⟨by rw [HC.out]; exact H0.out, rfl⟩, HA.out⟩
    · have H0 := Lib.hid hc
      clear hc l0 l1 l2 l3 hL1 hb2 hA1
      exact ⟨rfl, .inr ⟨by rw [HC.out]; exact H0.out, by rw [HC.out]⟩, HA.out⟩
  · have HC : Hid (bothS b l = checkS b) := Lib.hid (by rw [bothS, if_neg hc])
    exact ⟨rfl, .inr ⟨by rw [HC.out]; exact hc, by rw [HC.out]⟩, hA1⟩

set_option maxHeartbeats 1000000 in
set_option maxRecDepth 100000 in
theorem firstOr_any (gf : Nat) (caps : Array Value) (p : Int → Bool) (hi : Int) (w : World) (hfn : IsFn gf) (h0 : 0 ≤ hi) (hhi : hi ≤ 1000000000000000)
    (hm : ∀ x y, 1 ≤ x → x ≤ y → y ≤ hi → p x = true → p y = true)
    (h : ∀ x, 1 ≤ x → x ≤ hi → ∀ V, Below w.heap.size w V → Calls Tryz.prog gf (#[.int .i64 x] ++ caps) V fun e w' => e = .returned (.bool (p x)) ∧ Below V.heap.size V w') :
    Calls Tryz.prog 80 #[.int .i64 hi, .func (.func gf) #[] caps] w fun e w' => ∃ n, e = .returned (.int .i64 n) ∧ IsFO p hi n ∧ Below w.heap.size w w' := by
  have hf := first5_any gf caps p 1 hi w hfn (by omega) hhi (by omega) hm h
  clear hm h
  go_enter Tryz.func80, Tryz.ntmps80
  go_wp2_with fail
  refine hf.mono ?_
  rintro e w1 ⟨n, rfl, hn, hb⟩
  have HN := Lib.hid (fo_of_first h0 hn)
  have HB := Lib.hid hb
  clear hf hn hb
  by_cases hlt : hi < n
  · have HN2 : Hid (IsFO p hi 0) := Lib.hid (by have := HN.out; rwa [if_pos hlt] at this)
    go_wp2
    go_ret
    exact ⟨0, rfl, HN2.out, HB.out⟩
  · have HN2 : Hid (IsFO p hi n) := Lib.hid (by have := HN.out; rwa [if_neg hlt] at this)
    go_wp2
    go_ret
    exact ⟨n, rfl, HN2.out, HB.out⟩

set_option maxHeartbeats 1000000 in
set_option maxRecDepth 100000 in
theorem needed1_any (r : Rg) (l : Ld) (m : Int) (pr pl pm : Nat) (q : Int) (w : World) (hr : OkR r) (hl : OkL l) (hq : 1 ≤ q ∧ q ≤ 2000) (hC : Circ w) (hX : Blk w pr #[.int .i64 r.radius.lo, .int .i64 r.radius.hi, .int .i64 r.height.lo, .int .i64 r.height.hi, .int .i64 r.share.lo, .int .i64 r.share.hi, .int .i64 r.factor.lo, .int .i64 r.factor.hi, .int .i64 r.hit.lo, .int .i64 r.hit.hi] 63) (hL : Blk w pl #[.int .i64 l.press, .int .i64 l.force, .int .i64 l.speed, .int .i64 l.other] 33) (hM : Blk w pm #[.int .i64 m] 3) :
    Calls Tryz.prog 81 #[.int .i64 q, .pointer (some ⟨pr, 0, none⟩), .pointer (some ⟨pl, 0, none⟩), .pointer (some ⟨pm, 0, none⟩)] w fun e w' => e = .returned (.bool (needP r l m q)) ∧ Below w.heap.size w w' := by
  have hst := fun V (hV : Below w.heap.size w V) => stress_any r ⟨q, q⟩ l V hr ⟨hq.1, Int.le_refl _, hq.2⟩ hl (hC.mono (ext_of_below hV))
  have HSV : Hid (∀ V, Below w.heap.size w V → (fun w' : World => w'.cell? ⟨pr, 0, none⟩ = some (.int .i64 r.radius.lo) ∧ w'.cell? ⟨pr, 1, none⟩ = some (.int .i64 r.radius.hi) ∧ w'.cell? ⟨pr, 2, none⟩ = some (.int .i64 r.height.lo) ∧ w'.cell? ⟨pr, 3, none⟩ = some (.int .i64 r.height.hi) ∧ w'.cell? ⟨pr, 4, none⟩ = some (.int .i64 r.share.lo) ∧ w'.cell? ⟨pr, 5, none⟩ = some (.int .i64 r.share.hi) ∧ w'.cell? ⟨pr, 6, none⟩ = some (.int .i64 r.factor.lo) ∧ w'.cell? ⟨pr, 7, none⟩ = some (.int .i64 r.factor.hi) ∧ w'.cell? ⟨pr, 8, none⟩ = some (.int .i64 r.hit.lo) ∧ w'.cell? ⟨pr, 9, none⟩ = some (.int .i64 r.hit.hi) ∧ w'.cell? ⟨pl, 0, none⟩ = some (.int .i64 l.press) ∧ w'.cell? ⟨pl, 1, none⟩ = some (.int .i64 l.force) ∧ w'.cell? ⟨pl, 2, none⟩ = some (.int .i64 l.speed) ∧ w'.cell? ⟨pl, 3, none⟩ = some (.int .i64 l.other) ∧ w'.cell? ⟨pm, 0, none⟩ = some (.int .i64 m)) V) := Lib.hid (fun V hV => ⟨ext_of_below hV _ _ (hX.cell 0 _ rfl), ext_of_below hV _ _ (hX.cell 1 _ rfl), ext_of_below hV _ _ (hX.cell 2 _ rfl), ext_of_below hV _ _ (hX.cell 3 _ rfl), ext_of_below hV _ _ (hX.cell 4 _ rfl), ext_of_below hV _ _ (hX.cell 5 _ rfl), ext_of_below hV _ _ (hX.cell 6 _ rfl), ext_of_below hV _ _ (hX.cell 7 _ rfl), ext_of_below hV _ _ (hX.cell 8 _ rfl), ext_of_below hV _ _ (hX.cell 9 _ rfl), ext_of_below hV _ _ (hL.cell 0 _ rfl), ext_of_below hV _ _ (hL.cell 1 _ rfl), ext_of_below hV _ _ (hL.cell 2 _ rfl), ext_of_below hV _ _ (hL.cell 3 _ rfl), ext_of_below hV _ _ (hM.cell 0 _ rfl)⟩)
  simp only [rgCells] at hst
  have hdf : needP r l m q = decide ((strR r ⟨q, q⟩ l).hi ≤ m) := rfl
  generalize strR r ⟨q, q⟩ l = T at *
  have HDF := Lib.hid hdf
  have hfd := fun w => field_hi5 (.int .i64 T.lo) (.int .i64 T.hi) w
  clear hX hL hM hC hdf
  go_enter Tryz.func81, Tryz.ntmps81
  go_wp2_with fail
  have D0 : Below w.heap.size w w.drew := (Below.refl _ _).drew
  refine wp_region_till (fun w' : World => w'.cell? ⟨pr, 0, none⟩ = some (.int .i64 r.radius.lo) ∧ w'.cell? ⟨pr, 1, none⟩ = some (.int .i64 r.radius.hi) ∧ w'.cell? ⟨pr, 2, none⟩ = some (.int .i64 r.height.lo) ∧ w'.cell? ⟨pr, 3, none⟩ = some (.int .i64 r.height.hi) ∧ w'.cell? ⟨pr, 4, none⟩ = some (.int .i64 r.share.lo) ∧ w'.cell? ⟨pr, 5, none⟩ = some (.int .i64 r.share.hi) ∧ w'.cell? ⟨pr, 6, none⟩ = some (.int .i64 r.factor.lo) ∧ w'.cell? ⟨pr, 7, none⟩ = some (.int .i64 r.factor.hi) ∧ w'.cell? ⟨pr, 8, none⟩ = some (.int .i64 r.hit.lo) ∧ w'.cell? ⟨pr, 9, none⟩ = some (.int .i64 r.hit.hi) ∧ w'.cell? ⟨pl, 0, none⟩ = some (.int .i64 l.press) ∧ w'.cell? ⟨pl, 1, none⟩ = some (.int .i64 l.force) ∧ w'.cell? ⟨pl, 2, none⟩ = some (.int .i64 l.speed) ∧ w'.cell? ⟨pl, 3, none⟩ = some (.int .i64 l.other) ∧ w'.cell? ⟨pm, 0, none⟩ = some (.int .i64 m)) 99 (by kernel_rfl) (HSV.out _ D0) (fun hHeld => ?_)
  refine Till.take 0 (some 6) (v := ?_) rfl rfl (by kernel_rfl) (by kernel_rfl) (by kernel_rfl) (by kernel_rfl) (fun _ _ _ h => h) (Or.inl ⟨by rfl, ?_⟩) (by assumption) ?_
  rotate_left
  · (intro w hSw; (try dsimp only at hSw); go_simp; try with_reducible rfl)
  try simp only [Act.put, List.setIfInBounds_toArray, List.set_cons_zero, List.set_cons_succ]
  refine Till.take 1 (some 7) (v := ?_) rfl rfl (by kernel_rfl) (by kernel_rfl) (by kernel_rfl) (by kernel_rfl) (fun _ _ _ h => h) (Or.inl ⟨by rfl, ?_⟩) (by assumption) ?_
  rotate_left
  · (intro w hSw; (try dsimp only at hSw); go_simp; try with_reducible rfl)
  try simp only [Act.put, List.setIfInBounds_toArray, List.set_cons_zero, List.set_cons_succ]
  refine Till.take 2 (some 8) (v := ?_) rfl rfl (by kernel_rfl) (by kernel_rfl) (by kernel_rfl) (by kernel_rfl) (fun _ _ _ h => h) (Or.inl ⟨by rfl, ?_⟩) (by assumption) ?_
  rotate_left
  · (intro w hSw; (try dsimp only at hSw); go_simp; try with_reducible rfl)
  try simp only [Act.put, List.setIfInBounds_toArray, List.set_cons_zero, List.set_cons_succ]
  refine Till.take 3 (some 9) (v := ?_) rfl rfl (by kernel_rfl) (by kernel_rfl) (by kernel_rfl) (by kernel_rfl) (fun _ _ _ h => h) (Or.inl ⟨by rfl, ?_⟩) (by assumption) ?_
  rotate_left
  · (intro w hSw; (try dsimp only at hSw); go_simp; try with_reducible rfl)
  try simp only [Act.put, List.setIfInBounds_toArray, List.set_cons_zero, List.set_cons_succ]
  refine Till.take 4 (some 10) (v := ?_) rfl rfl (by kernel_rfl) (by kernel_rfl) (by kernel_rfl) (by kernel_rfl) (fun _ _ _ h => h) (Or.inl ⟨by rfl, ?_⟩) (by assumption) ?_
  rotate_left
  · (intro w hSw; (try dsimp only at hSw); go_simp; try with_reducible rfl)
  try simp only [Act.put, List.setIfInBounds_toArray, List.set_cons_zero, List.set_cons_succ]
  refine Till.take 7 (some 13) (v := ?_) rfl rfl (by kernel_rfl) (by kernel_rfl) (by kernel_rfl) (by kernel_rfl) (fun _ _ _ h => h) (Or.inl ⟨by rfl, ?_⟩) (by assumption) ?_
  rotate_left
  · (intro w hSw; (try dsimp only at hSw); go_simp; try with_reducible rfl)
  try simp only [Act.put, List.setIfInBounds_toArray, List.set_cons_zero, List.set_cons_succ]
  refine Till.one 5 rfl (by kernel_rfl) (fun K hK => ?_)
  go_simp
  go_at_call 25
  refine (hst _ D0).mono ?_
  rintro e V ⟨rfl, hb⟩
  have D1 := D0.trans (hb.mono D0.size)
  have hh := HSV.out _ D1
  refine hK.out _ _ (fun _ => hh) (fun hHeld2 => ?_)
  clear hK K hb hst
  try simp only [Act.put, List.setIfInBounds_toArray, List.set_cons_zero, List.set_cons_succ]
  refine Till.take 6 (some 12) (v := ?_) rfl rfl (by kernel_rfl) (by kernel_rfl) (by kernel_rfl) (by kernel_rfl) (fun _ _ _ h => h) (Or.inl ⟨by rfl, ?_⟩) (by assumption) ?_
  rotate_left
  · (intro w hSw; (try dsimp only at hSw); go_simp; try with_reducible rfl)
  try simp only [Act.put, List.setIfInBounds_toArray, List.set_cons_zero, List.set_cons_succ]
  refine Till.take 8 (some 14) (v := ?_) rfl rfl (by kernel_rfl) (by kernel_rfl) (by kernel_rfl) (by kernel_rfl) (fun _ _ _ h => h) (Or.inl ⟨by rfl, ?_⟩) (by assumption) ?_
  rotate_left
  · (intro w hSw; (try dsimp only at hSw); go_simp; try with_reducible rfl)
  try simp only [Act.put, List.setIfInBounds_toArray, List.set_cons_zero, List.set_cons_succ]
  refine Till.take 9 (some 5) (v := ?_) rfl rfl (by kernel_rfl) (by kernel_rfl) (by kernel_rfl) (by kernel_rfl) (fun _ _ _ h => h) (Or.inl ⟨by rfl, ?_⟩) (by assumption) ?_
  rotate_left
  · (intro w hSw; (try dsimp only at hSw); go_simp; try with_reducible rfl)
  try simp only [Act.put, List.setIfInBounds_toArray, List.set_cons_zero, List.set_cons_succ]
  refine Till.done (by kernel_rfl) ?_ _
  have HB := Lib.hid D1
  clear hh hHeld hHeld2 D0 D1 HSV hfd
  go_wp2
  go_ret
  exact ⟨ret_bool HDF.out.symm, HB.out⟩

def NeedsP (w : World) (b : Bot) (l : Ld) (e : Ending) (w' : World) : Prop := ∃ v, e = .returned v ∧ RInts (vis (w.heap.size ≤ ·) w') v (needS b l) ∧ Below w.heap.size w w'

set_option maxHeartbeats 4000000 in
set_option maxRecDepth 100000 in
theorem needed_any (a : Option Addr) (cap : Nat) (b : Bot) (l : Ld) (w : World) (h : RBot w (.agg #[.slice a b.rings.length cap, .int .i64 b.flaw, .int .i64 b.tough]) b) (hok : OkS b) (hl : OkL l) (hC : Circ w) :
    Calls Tryz.prog 38 #[.agg #[.slice a b.rings.length cap, .int .i64 b.flaw, .int .i64 b.tough], .agg #[.int .i64 l.press, .int .i64 l.force, .int .i64 l.speed, .int .i64 l.other]] w (NeedsP w b l) := by
  have hmf : ∀ (fn : Fn) (first cap : Array Value) (w : World), (Instr.makeFunc fn first cap).run Tryz.prog w = .ok (.func fn first cap) w := fun _ _ _ _ => rfl
  have h0 := h
  obtain ⟨v0, he, hr, hI⟩ := h
  cases he
  have hrr := hr
  obtain ⟨a', cap', he, -, ⟨-, hm⟩, -⟩ := hr
  cases he
  have hA2 : Below w.heap.size w ((w.alloc (.cells #[.slice a b.rings.length cap, .int .i64 b.flaw, .int .i64 b.tough] 24)).alloc (.cells #[.int .i64 l.press, .int .i64 l.force, .int .i64 l.speed, .int .i64 l.other] 33)) := (below_boxS w _).alloc (by simp) _
  have hB2 := (Blk.new w #[.slice a b.rings.length cap, .int .i64 b.flaw, .int .i64 b.tough] 24).alloc (.cells #[.int .i64 l.press, .int .i64 l.force, .int .i64 l.speed, .int .i64 l.other] 33)
  have hL2 := Blk.new (w.alloc (.cells #[.slice a b.rings.length cap, .int .i64 b.flaw, .int .i64 b.tough] 24)) #[.int .i64 l.press, .int .i64 l.force, .int .i64 l.speed, .int .i64 l.other] 33
  rw [World.size_alloc] at hL2
  have hmo := hok.most
  have hbe := fun V (e : Ext w V) => bears_any _ b V (h0.mono e) hok.flaw hok.tough
  refine (callsIn_wide (n := 9)).1 ?_
  refine callsIn_of_wp_marks Tryz.func38 rfl trivial ?_ rfl
  simp only [Tryz.ntmps38, List.size_toArray, List.length_cons, List.length_nil, Nat.reduceAdd, Nat.reduceSub, Array.replicate_succ, Array.replicate_zero, List.push_toArray, List.append_toArray, List.nil_append, List.cons_append]
  gi_wp2_with fail
  generalize (w.alloc (.cells #[.slice a b.rings.length cap, .int .i64 b.flaw, .int .i64 b.tough] 24)).alloc (.cells #[.int .i64 l.press, .int .i64 l.force, .int .i64 l.speed, .int .i64 l.other] 33) = W2 at *
  refine ⟨trivial, callsIn_wide.2 ?_⟩
  refine (hbe _ (ext_of_below hA2)).mono ?_
  rintro e w3 ⟨m, rfl, hm2, hmb, hb3⟩
  have hmr := rootF_eq hm2
  have hA3 := hA2.trans (hb3.mono hA2.size)
  have hA4 := hA3.alloc hA3.size (.cells #[.int .i64 m] 3)
  have hB4 := (hB2.below hb3 hB2.lt).alloc (.cells #[.int .i64 m] 3)
  have hL4 := (hL2.below hb3 hL2.lt).alloc (.cells #[.int .i64 m] 3)
  have hM4 := Blk.new w3 #[.int .i64 m] 3
  have HMR := Lib.hid hmr
  have hmk := run_make_int b.rings.length (by omega)
  have hB3 := hB2.below hb3 hB2.lt
  have c0 := hB3.cell 0 _ rfl
  have c1 := hB3.cell 1 _ rfl
  have c2 := hB3.cell 2 _ rfl
  have lB := hB3.lt
  have lB1 : w.heap.size < w3.heap.size + 1 := by omega
  have lB2 : w.heap.size < w3.heap.size + 1 + 1 := by omega
  clear hA2 hB2 hL2 hb3 hA3 hm2 hmr hbe hB3
  gi_wp2_with fail
  refine ⟨trivial, callsIn_wide.2 ?_⟩
  refine (calls_p (rings_in (.slice a b.rings.length cap) b _ 9)).mono ?_
  rintro e w' ⟨rfl, rfl⟩
  have hz4 : (w3.alloc (.cells #[.int .i64 m] 3)).heap.size = w3.heap.size + 1 := by simp
  gi_wp2_with fail
  have hsz3 : w3.heap.size < (w3.alloc (.cells #[.int .i64 m] 3)).heap.size := by simp
  generalize w3.alloc (.cells #[.int .i64 m] 3) = w2 at *
  rw [← hz4]
  clear hz4 lB1 lB2 c0 c1 c2 hmk
  have hb5 : Below w2.heap.size w2 (((w2.alloc (.cells (madeCells #[.int .i64 0] b.rings.length) 3)).alloc (.cells #[.slice (some ⟨w2.heap.size, 0, none⟩) b.rings.length b.rings.length] 36)).alloc (.cells #[.slice a b.rings.length cap, .int .i64 b.flaw, .int .i64 b.tough] 24)) := ((below_boxS w2 _).alloc (by simp) _).alloc (by simp only [World.size_alloc]; omega) _
  have hA5 := hA4.trans (hb5.mono hA4.size)
  have hrow : IntUpto (((w2.alloc (.cells (madeCells #[.int .i64 0] b.rings.length) 3)).alloc (.cells #[.slice (some ⟨w2.heap.size, 0, none⟩) b.rings.length b.rings.length] 36)).alloc (.cells #[.slice a b.rings.length cap, .int .i64 b.flaw, .int .i64 b.tough] 24)) w2.heap.size b.rings.length (needS b l) 0 := by
    obtain ⟨f, hf⟩ := rowIs_made1 w2 b.rings.length
    exact ⟨f, (hf.alloc _).alloc _, fun i _ h => absurd h (by omega)⟩
  have hall := (Blk.new (w2.alloc (.cells (madeCells #[.int .i64 0] b.rings.length) 3)) #[.slice (some ⟨w2.heap.size, 0, none⟩) b.rings.length b.rings.length] 36).alloc (.cells #[.slice a b.rings.length cap, .int .i64 b.flaw, .int .i64 b.tough] 24)
  have hit := Blk.new ((w2.alloc (.cells (madeCells #[.int .i64 0] b.rings.length) 3)).alloc (.cells #[.slice (some ⟨w2.heap.size, 0, none⟩) b.rings.length b.rings.length] 36)) #[.slice a b.rings.length cap, .int .i64 b.flaw, .int .i64 b.tough] 24
  have hL5 := hL4.below hb5 hL4.lt
  have hM5 := hM4.below hb5 hM4.lt
  have hz : (((w2.alloc (.cells (madeCells #[.int .i64 0] b.rings.length) 3)).alloc (.cells #[.slice (some ⟨w2.heap.size, 0, none⟩) b.rings.length b.rings.length] 36)).alloc (.cells #[.slice a b.rings.length cap, .int .i64 b.flaw, .int .i64 b.tough] 24)).heap.size = w2.heap.size + 3 := by simp
  replace hz := And.intro (Nat.le_of_eq hz) (Nat.le_of_eq hz.symm)
  simp only [World.size_alloc] at hall hit
  have hmf2 := Lib.hid hmf
  clear hmf
  generalize (((w2.alloc (.cells (madeCells #[.int .i64 0] b.rings.length) 3)).alloc (.cells #[.slice (some ⟨w2.heap.size, 0, none⟩) b.rings.length b.rings.length] 36)).alloc (.cells #[.slice a b.rings.length cap, .int .i64 b.flaw, .int .i64 b.tough] 24)) = W5 at *
  have hwz := hA4.size
  have hr5 : RRgs (vis (fun k => ¬ k = w2.heap.size) W5) (.slice a b.rings.length cap) b.rings := hrr.mono (ext_vis_all (ext_of_below hA5) (fun k hk => by omega))
  refine wpIn_range_p (fun k => k = w2.heap.size) rfl (by simp [Fence.wide]) (gf := 72) (lb := #[.pointer (some ⟨w2.heap.size + 1 + 1, 0, none⟩)]) rfl trivial (enters_of Tryz.func72 (by kernel_rfl) rfl)
    (ringIt_any _ Fence.wide _ trivial rfl rfl _ b _ W5 hr5 (by omega) hit) (fun k x hx => by obtain ⟨_, rfl⟩ := encR_ix hx; rfl)
    (fun k W => IntUpto W w2.heap.size b.rings.length (needS b l) k ∧ Blk W (w2.heap.size + 1) #[.slice (some ⟨w2.heap.size, 0, none⟩) b.rings.length b.rings.length] 36 ∧ BelS (fun j => j = w2.heap.size) W5.heap.size W5 W ∧ Below w.heap.size w W)
    (fun _ _ => False) (fun _ _ => False)
    (OwnFrom.and (Own.from (IntUpto.own _ _ _ _) _) (OwnFrom.and (Own.from (blk_own _ _ _) _) (OwnFrom.and (ownFrom_bel (Nat.le_refl _) (Nat.le_refl _)) (ownFrom_below (Nat.le_refl _) (by omega)))))
    (fun _ _ _ _ _ hs _ _ => hs.elim) (fun _ _ _ _ h => h.elim) ⟨hrow, hall, BelS.refl _ _ _, hA5⟩
    (fun x a' W => ∃ Bx vk vs, W5.heap.size ≤ Bx ∧ x = #[vk, .agg vs] ∧ Blk W Bx vs 63 ∧ a' = { tmps := #[.agg #[.slice a b.rings.length cap, .int .i64 b.flaw, .int .i64 b.tough], .agg #[.int .i64 l.press, .int .i64 l.force, .int .i64 l.speed, .int .i64 l.other], .pointer (some ⟨w.heap.size, 0, none⟩), .pointer (some ⟨w.heap.size + 1, 0, none⟩), .slice none 0 0, .pointer (some ⟨w3.heap.size, 0, none⟩), .pointer (some ⟨w2.heap.size + 1, 0, none⟩), vk, .pointer (some ⟨Bx, 0, none⟩), .agg #[.slice a b.rings.length cap, .int .i64 b.flaw, .int .i64 b.tough], .int .i64 m, .pointer (some ⟨w.heap.size, 0, none⟩), .slice a b.rings.length cap, .int .i64 b.rings.length, .slice (some ⟨w2.heap.size, 0, none⟩) b.rings.length b.rings.length, .agg #[.slice a b.rings.length cap, .int .i64 b.flaw, .int .i64 b.tough], .func (.func 72) #[] #[.pointer (some ⟨w2.heap.size + 1 + 1, 0, none⟩)], vk, .agg vs, undef, undef, undef, undef, undef, undef], defers := [] })
    (fun x a' s' X Y row hs hg hr => by
      obtain ⟨Bx, v0, vs, h1, h2, h3, h4⟩ := hs
      exact ⟨Bx, v0, vs, h1, h2, (blk_own (β := Unit) Bx _ (fun _ => vs)) () X Y row h3 hg (fun r e => (hr r e).2), h4⟩)
    ?assign ?body ?done ?stop ?panic
  case stop => exact fun D c W _ h => h.elim
  case panic => exact fun D ch W _ h => h.elim
  case assign =>
    rintro j k x W K hx hWs ⟨hrow, hall, hBS, hBel⟩ hK
    obtain ⟨hk, rfl⟩ := encR_ix hx
    clear hx
    generalize b.rings[k] = r at *
    simp only [rgCells] at hK ⊢
    have hsW : W5.heap.size ≤ W.heap.size := hWs
    gi_wp2
    exact hK _ _ ((KeepsOthers.alloc _ _).from _) (BelS.of_below ((below_boxS W _).mono hsW)) ⟨hrow.of_block (Below.heap_alloc _ _ _ (by omega)), hall.alloc _, hBS.trans (BelS.of_below ((below_boxS W _).mono hsW)), hBel.alloc hBel.size _⟩ ⟨W.heap.size, _, _, hsW, rfl, Blk.new _ _ _, rfl⟩
  case body =>
    rintro j k x a' W hx hWs ⟨hrow, hall, hBS, hBel⟩ ⟨Bx, v0, vs, hBx, he, hX, rfl⟩
    obtain ⟨hk, rfl⟩ := encR_ix hx
    simp only [Array.mk.injEq, List.cons.injEq, and_true, Value.agg.injEq] at he
    obtain ⟨rfl, rfl⟩ := he
    have hkL : k < (needS b l).length := by rw [needS_len]; exact hk
    have hLk : (needS b l)[k] = needF b.rings[k] l m := by rw [needS_at hkL hk, HMR.out]
    have hokr := hok.rings k hk
    have hLW := hBS.blk hL5 (by omega) (by omega)
    have hMW := hBS.blk hM5 (by omega) (by omega)
    have hstep := fun V (h : IntUpto V w2.heap.size b.rings.length (needS b l) k) => h.step hkL
    rw [hLk] at hstep
    generalize b.rings[k] = r at *
    have hX' : Blk W Bx #[.int .i64 r.radius.lo, .int .i64 r.radius.hi, .int .i64 r.height.lo, .int .i64 r.height.hi, .int .i64 r.share.lo, .int .i64 r.share.hi, .int .i64 r.factor.lo, .int .i64 r.factor.hi, .int .i64 r.hit.lo, .int .i64 r.hit.hi] 63 := hX
    have hth := fun V (hV : Below W.heap.size W V) => firstOr_any 81 #[.pointer (some ⟨Bx, 0, none⟩), .pointer (some ⟨w.heap.size + 1, 0, none⟩), .pointer (some ⟨w3.heap.size, 0, none⟩)] (needP r l m) 2000 V isFn_needed1 (by omega) (by omega) (fun x y a b c d => needP_mono hokr hl a b c d)
      (fun x h1 h2 V' hV' => needed1_any r l m _ _ _ x V' hokr hl ⟨h1, h2⟩ (((hC.mono (ext_of_below hBel)).mono (ext_of_below hV)).mono (ext_of_below hV')) ((hX'.below hV hX'.lt).below hV' (hX'.below hV hX'.lt).lt) ((hLW.below hV hLW.lt).below hV' (hLW.below hV hLW.lt).lt) ((hMW.below hV hMW.lt).below hV' (hMW.below hV hMW.lt).lt))
    have e0 := hall.cell 0 _ rfl
    have lA := hall.lt
    have i1 : (0 : Int) ≤ (k : Int) := Int.natCast_nonneg _
    have i2 : (k : Int) < (b.rings.length : Int) := by omega
    have HK := Lib.hid hk
    have HSV : Hid (∀ V, Below W.heap.size W V → (fun w' : World => w'.cell? ⟨w2.heap.size + 1, 0, none⟩ = some (.slice (some ⟨w2.heap.size, 0, none⟩) b.rings.length b.rings.length)) V) := Lib.hid (fun V hV => ext_of_below hV _ _ e0)
    have D0 : Below W.heap.size W W.drew := (Below.refl _ _).drew
    have HR := Lib.hid hrow
    have hmf := hmf2.out
    clear hx hX hX' hkL hLk hk hrow e0 hLW hMW
    simp only [rgCells]
    gi_wp2_with fail
    refine wpIn_region_till (fun w' : World => w'.cell? ⟨w2.heap.size + 1, 0, none⟩ = some (.slice (some ⟨w2.heap.size, 0, none⟩) b.rings.length b.rings.length)) 5 (by kernel_rfl) (by kernel_rfl) (fun ⟨_, _, h⟩ => h) (HSV.out _ D0) (fun hHeld => ?_)
    refine Till.take 0 (some 19) (v := ?_) rfl rfl (by kernel_rfl) (by kernel_rfl) (by kernel_rfl) (by kernel_rfl) (fun _ _ _ h => h) (Or.inl ⟨by rfl, ?_⟩) (by assumption) ?_
    rotate_left
    · (intro w hSw; (try dsimp only at hSw); go_simp; try with_reducible rfl)
    try simp only [Act.put, List.setIfInBounds_toArray, List.set_cons_zero, List.set_cons_succ]
    refine Till.take 1 (some 20) (v := ?_) rfl rfl (by kernel_rfl) (by kernel_rfl) (by kernel_rfl) (by kernel_rfl) (fun _ _ _ h => h) (Or.inl ⟨by rfl, ?_⟩) (by assumption) ?_
    rotate_left
    · (intro w hSw; (try dsimp only at hSw); go_simp; try with_reducible rfl)
    try simp only [Act.put, List.setIfInBounds_toArray, List.set_cons_zero, List.set_cons_succ]
    refine Till.take 2 (some 21) (v := ?_) rfl rfl (by kernel_rfl) (by kernel_rfl) (by kernel_rfl) (by kernel_rfl) (fun _ _ _ h => h) (Or.inl ⟨by rfl, ?_⟩) (by assumption) ?_
    rotate_left
    · (intro w hSw; (try dsimp only at hSw); go_simp; try with_reducible rfl)
    try simp only [Act.put, List.setIfInBounds_toArray, List.set_cons_zero, List.set_cons_succ]
    refine Till.one 3 rfl (by kernel_rfl) (fun K hK => ?_)
    go_simp
    go_at_call 80
    refine (hth _ D0).mono ?_
    rintro e8 w8 ⟨n, rfl, hn, hb8⟩
    have D1 := D0.trans (hb8.mono D0.size)
    have hh := HSV.out _ D1
    refine hK.out _ _ (fun _ => hh) (fun hHeld2 => ?_)
    clear hK K hth hb8 hmf
    try simp only [Act.put, List.setIfInBounds_toArray, List.set_cons_zero, List.set_cons_succ]
    refine Till.take 4 (some 23) (v := ?_) rfl rfl (by kernel_rfl) (by kernel_rfl) (by kernel_rfl) (by kernel_rfl) (fun _ _ _ h => h) (Or.inl ⟨by rfl, ?_⟩) (by assumption) ?_
    rotate_left
    · (intro w hSw; (try dsimp only at hSw); go_simp; try with_reducible rfl)
    try simp only [Act.put, List.setIfInBounds_toArray, List.set_cons_zero, List.set_cons_succ]
    have hnF : needF r l m = n := foF_eq hn
    rw [hnF] at hstep
    have lG := (Array.getElem?_eq_some_iff.1 (show W.heap[w2.heap.size]? = _ from HR.out.choose_spec.1.choose_spec.1)).1
    have hr8 : IntUpto w8 w2.heap.size b.rings.length (needS b l) k := HR.out.of_block (D1.block _ lG)
    have hs8 := hstep _ hr8
    obtain ⟨f, hf, -⟩ := hr8
    have HKo := HK.out
    have z0 := hf.cell (i := k) (by omega)
    have f0 := hf.frozen k
    have hB8 := hBel.trans (D1.mono hBel.size)
    have hwB : w.heap.size ≤ w2.heap.size := hA4.size
    have HS := Lib.hid hs8
    have HAF : Hid (Blk (w8.setCell ⟨w2.heap.size, k, none⟩ (.int .i64 n)) (w2.heap.size + 1) #[.slice (some ⟨w2.heap.size, 0, none⟩) b.rings.length b.rings.length] 36) := Lib.hid ((hall.below D1 lA).other _ _ (by simp))
    have HBF := Lib.hid (hB8.setCell (p := ⟨w2.heap.size, k, none⟩) hwB (.int .i64 n))
    have HKF : Hid (KeepsFrom W5.heap.size W (w8.setCell ⟨w2.heap.size, k, none⟩ (.int .i64 n))) :=
      Lib.hid ((keeps_below D1 (Nat.le_refl _)).trans ((KeepsOthers.setCell _ _ _).from _))
    have HBS : Hid (BelS (fun k => k = w2.heap.size) W5.heap.size W (w8.setCell ⟨w2.heap.size, k, none⟩ (.int .i64 n))) :=
      Lib.hid (BelS.set (S := fun k => k = w2.heap.size) (BelS.of_below (D1.mono hWs)) ⟨w2.heap.size, k, none⟩ _ (.inr rfl))
    have HBS2 := Lib.hid (hBS.trans HBS.out)
    clear hh hHeld hHeld2 D0 D1 HSV hall hBel hB8 hs8 hstep hf hC hrr HR hr5 hA5 hrow hit hb5 hBS hn hnF hA4 hB4 hL4 hM4 hL5 hM5 h0
    refine Till.one 5 rfl (by kernel_rfl) (fun K hK => ?_)
    go_simp
    refine hK.out _ _ (fun h => absurd rfl h) (fun _ => ?_)
    clear hK K
    refine Till.done (by kernel_rfl) ?_ _
    gi_wp2
    exact ⟨HKF.out, HBS.out, HS.out, HAF.out, HBS2.out, HBF.out⟩
  case done =>
    rintro D W hD ⟨hrow, hall, hBS, hBel⟩ hKD
    rw [encR_len] at hrow
    have hlen := needS_len b l
    have hPD : Below w.heap.size w (W.putObj D (.deferred none)) := hBel.trans (belowK_b (w := w) (Nat.le_refl _) W D _ _ (by omega) hKD rfl rfl)
    have hrP : IntUpto (W.putObj D (.deferred none)) w2.heap.size b.rings.length (needS b l) b.rings.length := hrow.of_block (World.putObj_heap_other (by omega))
    have hrd : RInts (vis (w.heap.size ≤ ·) (W.putObj D (.deferred none))) (.slice (some ⟨w2.heap.size, 0, none⟩) b.rings.length b.rings.length) (needS b l) :=
      IntUpto.reads (by rw [hlen]; exact hrP) hlen hwz (by omega) (fun x hx => by
        have := needS_bd hok hl x hx
        unfold I64
        omega)
    have e0 := hall.cell 0 _ rfl
    have HP := Lib.hid hPD
    have HR := Lib.hid hrd
    clear hPD hrd hrP hrow hall hBel hlen hBS
    gi_wp2
    refine ⟨by simp, .inl ⟨_, _, rfl, run_takeDeferred hKD, ?_⟩⟩
    refine ⟨_, results_tmp rfl _ _ _, ⟨.slice (some ⟨w2.heap.size, 0, none⟩) b.rings.length b.rings.length, rfl, HR.out, HP.out⟩⟩

end Go.Proofs.YtaldpalhckdcdaaGreatDoor
