/- The shifts of a furnace, told by a function that calls itself: its contract; no statement is proved here. -/
import Derived.Test.YtdffhkbncencgaaPlAt
import Derived.Test.YtdffhkbncencgaaRangeR
namespace Go.Proofs.Ytdffhkbncencgaa
open Go.RowKit Go.PlainAid
set_option linter.unusedVariables false
set_option linter.unusedSimpArgs false

theorem ownf_below {β : Type} {B : Nat} {J : β → World → Prop} (hJ : OwnFrom B J) {k : β} {X Y : World} (h : J k X) (hb : Below X.heap.size X Y) : J k Y := hJ k X Y none h ⟨hb.os, hb.tape, hb.output, hb.size, fun k hk _ => hb.block k hk⟩ (fun r e => by cases e)

/-- no article, then each one. -/
def artsI (s : Sn) : List Int := (List.range (s.arts.length + 1)).map fun (i : Nat) => (i : Int) - 1
theorem artsI_len (s : Sn) : (artsI s).length = s.arts.length + 1 := by simp [artsI]
theorem artsI_at {s : Sn} {i : Nat} (h : i < s.arts.length + 1) : (artsI s)[i]? = some ((i : Int) - 1) := by simp [artsI, List.getElem?_map, List.getElem?_range h]
def skipB (s : Sn) (m col a : Int) : Bool := decide (a ≠ -1) && (decide (rate s m a = 0) || decide (col ≠ -1) && decide (col ≠ colr s a))
/-- the shifts that begin with what a crew has, in order. -/
def tellL (s : Sn) (lo hi : Int) (ms : List Int) : List Int → List Int → List (List Int)
  | [], c => if hi < pullS s c ms then [] else if pullS s c ms < lo then [] else [c]
  | m :: rest, c => if hi < pullS s c ms then [] else (artsI s).flatMap fun a => if skipB s m (colS s c ms) a = true then [] else tellL s lo hi ms rest (c.set m.toNat a)

/-- what one who tells shifts answers: all were told, or a round wanted no more. -/
def TellR (S : Nat → Prop) (J : Option Nat → Nat → World → Prop) (Jx : World → Prop) (W0 : World) (base len : Nat) (r : Option Nat) (W1 : World) (e : Ending) (W' : World) : Prop :=
  (e = .returned (.bool true) ∧ (∃ r', (r' = r ∨ ∃ g, r' = some g ∧ W1.heap.size ≤ g) ∧ J r' (base + len) W') ∧ BelS (fun b => S b ∨ r = some b) W1.heap.size W1 W') ∨ (e = .returned (.bool false) ∧ Jx W' ∧ KeepsFrom W0.heap.size W1 W')
theorem keeps_r {S : Nat → Prop} {r : Option Nat} {B : Nat} {X Y : World} (h : BelS (fun b => S b ∨ r = some b) X.heap.size X Y) (hS : ∀ k, S k → k < B) (hr : ∀ g, r = some g → ∃ o : Obj, X.heap[g]? = some o ∧ o.isCells = true) : KeepsFrom B X Y := ⟨h.size, fun k o hB hk hc => by
  rw [h.block k (Array.getElem?_eq_some_iff.1 hk).1 (fun x => by
    rcases x with x | x
    · have := hS k x; omega
    · obtain ⟨o', h1, h2⟩ := hr k x
      rw [hk] at h1; cases h1; rw [hc] at h2; cases h2)]
  exact hk⟩
theorem flat_sub {α β : Type} {f : α → List β} {l : List α} {i : Nat} {a : α} (ha : l[i]? = some a) {j : Nat} {x : β} (hx : (f a)[j]? = some x) : (l.flatMap f)[((l.take i).flatMap f).length + j]? = some x := by
  have hi := (List.getElem?_eq_some_iff.1 ha).1
  have h1 : l = l.take i ++ a :: l.drop (i + 1) := by
    have := List.getElem?_eq_some_iff.1 ha
    obtain ⟨_, rfl⟩ := this
    rw [← List.drop_eq_getElem_cons hi, List.take_append_drop]
  rw [h1, List.flatMap_append, List.flatMap_cons]
  rw [show (List.take i (List.take i l ++ a :: List.drop (i + 1) l)) = l.take i by rw [List.take_append_of_le_length (by simp; omega), List.take_take, Nat.min_self]]
  rw [List.getElem?_append_right (Nat.le_add_right _ _), Nat.add_sub_cancel_left, List.getElem?_append_left (List.getElem?_eq_some_iff.1 hx).1]
  exact hx
theorem flat_next {α β : Type} {f : α → List β} {l : List α} {i : Nat} {a : α} (ha : l[i]? = some a) : (l.take (i + 1)).flatMap f = (l.take i).flatMap f ++ f a := by
  obtain ⟨hi, rfl⟩ := List.getElem?_eq_some_iff.1 ha
  rw [List.take_succ_eq_append_getElem hi, List.flatMap_append]; simp

attribute [local go_sem] Oper.semAt_some
attribute [local go_sem ↓] ex_ldc ex_ldw
set_option maxHeartbeats 8000000 in
set_option maxRecDepth 100000 in
theorem tell_nil (S : Nat → Prop) (s : Sn) (d : SA) (v7 : Value) (lo hi : Int) (am : Option Addr) (cm : Nat) (ms : List Int) (v2 : Value) (w : World) (hs : SnD (vis (fun k => ¬ S k) w) s d) (ok : OkS s) (hr : RInts (vis (fun k => ¬ S k) w) (.slice am ms.length cm) ms) (hm : MsOk s ms) (hl6 : ms.length ≤ 6) (hS : ∀ k, S k → k < w.heap.size)
    (l : Nat) (J : Option Nat → Nat → World → Prop) (Jx : World → Prop) (W0 : World) (hW0 : w.heap.size ≤ W0.heap.size) (encs : List (Array Value)) (hJ : ∀ r, OwnFrom W0.heap.size (J r))
    (hJr : ∀ r k X g, J r k X → r = some g → W0.heap.size ≤ g ∧ ∃ o : Obj, X.heap[g]? = some o ∧ o.isCells = true) (hJT : ∀ r k X (p : Addr) v, J r k X → W0.heap.size ≤ p.block → r ≠ some p.block → J r k (X.setCell p v))
    (hY : ∀ (n : Nat) (r : Option Nat) (k : Nat) (x : Array Value) (X : World), encs[k]? = some x → W0.heap.size ≤ X.heap.size → J r k X → YieldAt Fence.wide n Try.prog l x X (TellR S J Jx W0 k 1 r X)) :
    ∀ (first : Nat) (c : List Int) (base : Nat) (r : Option Nat) (W1 : World) (n : Nat), ms.drop first = [] → first ≤ ms.length → CrOk s c → BelS S w.heap.size w W1 → W0.heap.size ≤ W1.heap.size → J r base W1 → Hid (∀ j x, (tellL s lo hi ms [] c)[j]? = some x → encs[base + j]? = some #[.agg (crC x)]) →
      CallsIn Fence.wide n Try.prog 78 #[.agg #[.int .i64 s.days, .slice d.a1 s.arts.length d.c1, .slice d.a2 s.ovens.length d.c2, .slice d.a3 s.mks.length d.c3, .slice d.a4 s.jobs.length d.c4, .slice d.a5 s.cols.length d.c5, .slice d.a6 s.ods.length d.c6, v7], .agg #[.int .i64 lo, .int .i64 hi, .slice am ms.length cm, v2], .int .i64 first, .agg (crC c), .func (.yield l) #[] #[]] W1 (TellR S J Jx W0 base (tellL s lo hi ms [] c).length r W1) := by
  intro first c base r W1 n hfr hfl hc hBW hWs hj hL
  have hsW := SnD.mono hBW.ext hs
  have hrW := RInts.mono hBW.ext hr
  have hA0 : Below W1.heap.size W1 (((W1.alloc (.cells #[.int .i64 s.days, .slice d.a1 s.arts.length d.c1, .slice d.a2 s.ovens.length d.c2, .slice d.a3 s.mks.length d.c3, .slice d.a4 s.jobs.length d.c4, .slice d.a5 s.cols.length d.c5, .slice d.a6 s.ods.length d.c6, v7] 63)).alloc (.cells #[.int .i64 lo, .int .i64 hi, .slice am ms.length cm, v2] 69)).alloc (.cells (crC c) 71)) := ((below_box W1 _).alloc (by simp) _).alloc (by simp; omega) _
  have h5 := ((Blk.new W1 #[.int .i64 s.days, .slice d.a1 s.arts.length d.c1, .slice d.a2 s.ovens.length d.c2, .slice d.a3 s.mks.length d.c3, .slice d.a4 s.jobs.length d.c4, .slice d.a5 s.cols.length d.c5, .slice d.a6 s.ods.length d.c6, v7] 63).alloc (.cells #[.int .i64 lo, .int .i64 hi, .slice am ms.length cm, v2] 69)).alloc (.cells (crC c) 71)
  have h6 := (Blk.new (W1.alloc (.cells #[.int .i64 s.days, .slice d.a1 s.arts.length d.c1, .slice d.a2 s.ovens.length d.c2, .slice d.a3 s.mks.length d.c3, .slice d.a4 s.jobs.length d.c4, .slice d.a5 s.cols.length d.c5, .slice d.a6 s.ods.length d.c6, v7] 63)) #[.int .i64 lo, .int .i64 hi, .slice am ms.length cm, v2] 69).alloc (.cells (crC c) 71)
  have h8 := Blk.new ((W1.alloc (.cells #[.int .i64 s.days, .slice d.a1 s.arts.length d.c1, .slice d.a2 s.ovens.length d.c2, .slice d.a3 s.mks.length d.c3, .slice d.a4 s.jobs.length d.c4, .slice d.a5 s.cols.length d.c5, .slice d.a6 s.ods.length d.c6, v7] 63)).alloc (.cells #[.int .i64 lo, .int .i64 hi, .slice am ms.length cm, v2] 69)) (crC c) 71
  simp only [World.size_alloc] at h6 h8
  have hld5 := ld_blk h5 Try.underlying63 rfl (by rw [sz_works]; rfl)
  have hld8 := ld_blk h8 Try.underlying71 rfl (by rw [sz_crew]; rfl)
  have hrl : ∀ q, r = some q → W0.heap.size ≤ q ∧ q < W1.heap.size := fun q hq => by
    obtain ⟨h1, o, h2, -⟩ := hJr r base W1 q hj hq
    exact ⟨h1, (Array.getElem?_eq_some_iff.1 h2).1⟩
  refine callsIn_of_wp Try.func78 rfl trivial ?_ rfl
  simp only [Try.ntmps78, List.size_toArray, List.length_cons, List.length_nil, Nat.reduceAdd, Nat.reduceSub, Array.replicate_succ, Array.replicate_zero, List.push_toArray, List.append_toArray, List.nil_append, List.cons_append]
  gi_wp2_with fail
  refine ⟨trivial, (fun hd => by simp [Fence.wide] at hd), callsIn_wide.2 ?_⟩
  generalize (((W1.alloc (.cells #[.int .i64 s.days, .slice d.a1 s.arts.length d.c1, .slice d.a2 s.ovens.length d.c2, .slice d.a3 s.mks.length d.c3, .slice d.a4 s.jobs.length d.c4, .slice d.a5 s.cols.length d.c5, .slice d.a6 s.ods.length d.c6, v7] 63)).alloc (.cells #[.int .i64 lo, .int .i64 hi, .slice am ms.length cm, v2] 69)).alloc (.cells (crC c) 71)) = X0 at *
  refine (pull_any s d v7 lo hi am cm ms v2 c X0 (hsW.mono (ext_of_below hA0)) ok (hrW.mono (ext_of_below hA0)) hm hl6 hc).mono ?_
  rintro e X1 ⟨rfl, hb1⟩
  have hA1 := hA0.trans (hb1.mono hA0.size)
  replace h5 := h5.below hb1 h5.lt
  replace h6 := h6.below hb1 h6.lt
  replace h8 := h8.below hb1 h8.lt
  have hj1 := ownf_below (hJ r) hj (hA1)
  clear hld5 hld8 hb1 hA0 hj
  have e0 := h6.cell 0 _ rfl
  have e1 := h6.cell 1 _ rfl
  have e2 := h6.cell 2 _ rfl
  have hz8 := h8.lt
  by_cases hp : hi < pullS s c ms
  · have HL : Hid (TellR S J Jx W0 base (tellL s lo hi ms [] c).length r W1 (.returned (.bool true)) X1) := Lib.hid (by
      have : tellL s lo hi ms [] c = [] := by unfold tellL; rw [if_pos hp]
      rw [this]
      exact .inl ⟨rfl, ⟨r, .inl rfl, hj1⟩, BelS.of_below hA1⟩)
    generalize pullS s c ms = PU at *
    clear h5 h6 h8 hj1 hL hsW hrW
    gi_wp2
    go_ret
    exact HL.out
  · have hfe : first = ms.length := by
      have := congrArg List.length hfr
      rw [List.length_drop] at this
      simp at this; omega
    subst hfe
    have hq : ((ms.length : Int) == (ms.length : Int)) = true := beq_self_eq_true _
    by_cases hp2 : pullS s c ms < lo
    · have HL : Hid (TellR S J Jx W0 base (tellL s lo hi ms [] c).length r W1 (.returned (.bool true)) X1) := Lib.hid (by
        have : tellL s lo hi ms [] c = [] := by unfold tellL; rw [if_neg hp, if_pos hp2]
        rw [this]
        exact .inl ⟨rfl, ⟨r, .inl rfl, hj1⟩, BelS.of_below hA1⟩)
      generalize pullS s c ms = PU at *
      have hq2 : decide (PU < lo) = true := decide_eq_true hp2
      clear h5 h6 h8 hj1 hL hsW hrW hp2
      gi_wp2
      refine ⟨fun f e => (by cases e), ?_⟩
      gi_wp2
      go_ret
      exact HL.out
    · have he : tellL s lo hi ms [] c = [c] := by unfold tellL; rw [if_neg hp, if_neg hp2]
      rw [he] at hL
      have HE := Lib.hid he
      have hx := hL.out 0 c rfl
      have hld8 := ld_blk h8 Try.underlying71 rfl (by rw [sz_crew]; rfl)
      obtain ⟨fn, tmps, assign, body, hy, hR⟩ := hY (n - 1) r base _ X1 (by simpa using hx) (by omega) hj1
      have hAA := Lib.hid hA1
      have HRL := Lib.hid hrl
      generalize pullS s c ms = PU at *
      clear h5 h6 h8 hj1 hL hsW hrW he hx hY hA1 hrl
      have hq2 : decide (PU < lo) = false := decide_eq_false hp2
      gi_wp2_with fail
      refine ⟨(fun hd => by simp [Fence.wide] at hd), hR.mono ?_⟩
      rintro e W' (⟨rfl, ⟨r', h1, h2⟩, h3⟩ | ⟨rfl, h1, h2⟩)
      · have HL : Hid (TellR S J Jx W0 base (tellL s lo hi ms [] c).length r W1 (.returned (.bool true)) W') := Lib.hid (by rw [HE.out]; exact .inl ⟨rfl, ⟨r', h1.imp id (fun ⟨q, g1, g2⟩ => ⟨q, g1, by omega⟩), h2⟩, (BelS.of_below hAA.out).trans (h3.mono hAA.out.size)⟩)
        clear hy hR h1 h2 h3
        gi_wp2
        go_ret
        exact HL.out
      · have HL : Hid (TellR S J Jx W0 base (tellL s lo hi ms [] c).length r W1 (.returned (.bool false)) W') := Lib.hid (by rw [HE.out]; exact .inr ⟨rfl, h1, (keeps_below hAA.out (Nat.le_refl _)).trans h2⟩)
        clear hy hR h1 h2
        gi_wp2
        go_ret
        exact HL.out
end Go.Proofs.Ytdffhkbncencgaa
