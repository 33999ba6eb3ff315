/- The shifts of a furnace, told by a function that calls itself: one machine more; no statement is proved here. -/
import Derived.Test.YtdffhkbncencgaaPlTell
namespace Go.Proofs.Ytdffhkbncencgaa
open Go.RowKit Go.PlainAid
set_option linter.unusedVariables false
set_option linter.unusedSimpArgs false
theorem belS_drop {S : Nat → Prop} {r : Option Nat} {n : Nat} {W1 V : World} (h : BelS (fun b => S b ∨ r = some b) W1.heap.size W1 V) {B : Nat} (hB : B ≤ W1.heap.size) (hn : n ≤ B) (hS : ∀ k, S k → k < n) (hr : ∀ q, r = some q → B ≤ q) : BelS S n W1 V := ⟨h.os, h.tape, h.output, h.size, fun k hk hs => h.block k (by omega) (fun x => by
  rcases x with x | x
  · exact hs x
  · have := hr k x; omega)⟩
theorem belS_step {S : Nat → Prop} {r r' : Option Nat} {N : Nat} {Y V : World} (h : BelS (fun b => S b ∨ r' = some b) Y.heap.size Y V) (hN : N ≤ Y.heap.size) (hr : r' = r ∨ ∃ q, r' = some q ∧ N ≤ q) : BelS (fun b => S b ∨ r = some b) N Y V := ⟨h.os, h.tape, h.output, h.size, fun k hk hs => h.block k (by omega) (fun x => by
  rcases x with x | x
  · exact hs (.inl x)
  · rcases hr with rfl | ⟨q, hq, hqn⟩
    · exact hs (.inr x)
    · rw [x] at hq; cases hq; omega)⟩
theorem keeps_set {B k i : Nat} {X : World} {cs : Array Value} {t : TypeId} (h : Blk X k cs t) (v : Value) : KeepsFrom B X (X.setCell ⟨k, i, none⟩ v) := ⟨by simp, fun j o _ hj hc => by
  by_cases e : j = k
  · subst e
    unfold Blk at h
    rw [h] at hj
    cases hj
    cases hc
  · rw [Below.heap_setCell _ _ _ _ e]; exact hj⟩
attribute [local go_sem] Oper.semAt_some
attribute [local go_sem ↓] ex_ldc ex_ldw
set_option maxHeartbeats 8000000 in
set_option maxRecDepth 100000 in
theorem tell_cons (S : Nat → Prop) (s : Sn) (d : SA) (v7 : Value) (lo hi : Int) (am : Option Addr) (cm : Nat) (ms : List Int) (v2 : Value) (w : World) (hs : SnD (vis (fun k => ¬ S k) w) s d) (ok : OkS s) (hr : RInts (vis (fun k => ¬ S k) w) (.slice am ms.length cm) ms) (hm : MsOk s ms) (hl6 : ms.length ≤ 6) (hS : ∀ k, S k → k < w.heap.size)
    (l : Nat) (J : Option Nat → Nat → World → Prop) (Jx : World → Prop) (W0 : World) (hW0 : w.heap.size ≤ W0.heap.size) (encs : List (Array Value)) (hJ : ∀ r, OwnFrom W0.heap.size (J r))
    (hJr : ∀ r k X g, J r k X → r = some g → W0.heap.size ≤ g ∧ ∃ o : Obj, X.heap[g]? = some o ∧ o.isCells = true) (hJT : ∀ r k X (p : Addr) v, J r k X → W0.heap.size ≤ p.block → r ≠ some p.block → J r k (X.setCell p v))
    (hY : ∀ (n : Nat) (r : Option Nat) (k : Nat) (x : Array Value) (X : World), encs[k]? = some x → W0.heap.size ≤ X.heap.size → J r k X → YieldAt Fence.wide n Try.prog l x X (TellR S J Jx W0 k 1 r X))
    (m : Int) (rest : List Int) (ih : ∀ (first : Nat) (c : List Int) (base : Nat) (r : Option Nat) (W1 : World) (n : Nat), ms.drop first = rest → first ≤ ms.length → CrOk s c → BelS S w.heap.size w W1 → W0.heap.size ≤ W1.heap.size → J r base W1 → Hid (∀ j x, (tellL s lo hi ms rest c)[j]? = some x → encs[base + j]? = some #[.agg (crC x)]) →
      CallsIn Fence.wide n Try.prog 78 #[.agg #[.int .i64 s.days, .slice d.a1 s.arts.length d.c1, .slice d.a2 s.ovens.length d.c2, .slice d.a3 s.mks.length d.c3, .slice d.a4 s.jobs.length d.c4, .slice d.a5 s.cols.length d.c5, .slice d.a6 s.ods.length d.c6, v7], .agg #[.int .i64 lo, .int .i64 hi, .slice am ms.length cm, v2], .int .i64 first, .agg (crC c), .func (.yield l) #[] #[]] W1 (TellR S J Jx W0 base (tellL s lo hi ms rest c).length r W1)) :
    ∀ (first : Nat) (c : List Int) (base : Nat) (r : Option Nat) (W1 : World) (n : Nat), ms.drop first = (m :: rest) → first ≤ ms.length → CrOk s c → BelS S w.heap.size w W1 → W0.heap.size ≤ W1.heap.size → J r base W1 → Hid (∀ j x, (tellL s lo hi ms (m :: rest) c)[j]? = some x → encs[base + j]? = some #[.agg (crC x)]) →
      CallsIn Fence.wide n Try.prog 78 #[.agg #[.int .i64 s.days, .slice d.a1 s.arts.length d.c1, .slice d.a2 s.ovens.length d.c2, .slice d.a3 s.mks.length d.c3, .slice d.a4 s.jobs.length d.c4, .slice d.a5 s.cols.length d.c5, .slice d.a6 s.ods.length d.c6, v7], .agg #[.int .i64 lo, .int .i64 hi, .slice am ms.length cm, v2], .int .i64 first, .agg (crC c), .func (.yield l) #[] #[]] W1 (TellR S J Jx W0 base (tellL s lo hi ms (m :: rest) c).length r W1) := by
  intro first c base r W1 n hfr hfl hc hBW hWs hj hL
  have hsW := SnD.mono hBW.ext hs
  have hrW := RInts.mono hBW.ext hr
  have hA0 : Below W1.heap.size W1 (((W1.alloc (.cells #[.int .i64 s.days, .slice d.a1 s.arts.length d.c1, .slice d.a2 s.ovens.length d.c2, .slice d.a3 s.mks.length d.c3, .slice d.a4 s.jobs.length d.c4, .slice d.a5 s.cols.length d.c5, .slice d.a6 s.ods.length d.c6, v7] 63)).alloc (.cells #[.int .i64 lo, .int .i64 hi, .slice am ms.length cm, v2] 69)).alloc (.cells (crC c) 71)) := ((below_box W1 _).alloc (by simp) _).alloc (by simp; omega) _
  have h5 := ((Blk.new W1 #[.int .i64 s.days, .slice d.a1 s.arts.length d.c1, .slice d.a2 s.ovens.length d.c2, .slice d.a3 s.mks.length d.c3, .slice d.a4 s.jobs.length d.c4, .slice d.a5 s.cols.length d.c5, .slice d.a6 s.ods.length d.c6, v7] 63).alloc (.cells #[.int .i64 lo, .int .i64 hi, .slice am ms.length cm, v2] 69)).alloc (.cells (crC c) 71)
  have h6 := (Blk.new (W1.alloc (.cells #[.int .i64 s.days, .slice d.a1 s.arts.length d.c1, .slice d.a2 s.ovens.length d.c2, .slice d.a3 s.mks.length d.c3, .slice d.a4 s.jobs.length d.c4, .slice d.a5 s.cols.length d.c5, .slice d.a6 s.ods.length d.c6, v7] 63)) #[.int .i64 lo, .int .i64 hi, .slice am ms.length cm, v2] 69).alloc (.cells (crC c) 71)
  have h8 := Blk.new ((W1.alloc (.cells #[.int .i64 s.days, .slice d.a1 s.arts.length d.c1, .slice d.a2 s.ovens.length d.c2, .slice d.a3 s.mks.length d.c3, .slice d.a4 s.jobs.length d.c4, .slice d.a5 s.cols.length d.c5, .slice d.a6 s.ods.length d.c6, v7] 63)).alloc (.cells #[.int .i64 lo, .int .i64 hi, .slice am ms.length cm, v2] 69)) (crC c) 71
  simp only [World.size_alloc] at h6 h8
  have hld5 := ld_blk h5 Try.underlying63 rfl (by rw [sz_works]; rfl)
  have hld8 := ld_blk h8 Try.underlying71 rfl (by rw [sz_crew]; rfl)
  have hrl : ∀ q, r = some q → W0.heap.size ≤ q ∧ q < W1.heap.size := fun q hq => by
    obtain ⟨h1, o, h2, -⟩ := hJr r base W1 q hj hq
    exact ⟨h1, (Array.getElem?_eq_some_iff.1 h2).1⟩
  refine callsIn_of_wp Try.func78 rfl trivial ?_ rfl
  simp only [Try.ntmps78, List.size_toArray, List.length_cons, List.length_nil, Nat.reduceAdd, Nat.reduceSub, Array.replicate_succ, Array.replicate_zero, List.push_toArray, List.append_toArray, List.nil_append, List.cons_append]
  gi_wp2_with fail
  refine ⟨trivial, (fun hd => by simp [Fence.wide] at hd), callsIn_wide.2 ?_⟩
  generalize (((W1.alloc (.cells #[.int .i64 s.days, .slice d.a1 s.arts.length d.c1, .slice d.a2 s.ovens.length d.c2, .slice d.a3 s.mks.length d.c3, .slice d.a4 s.jobs.length d.c4, .slice d.a5 s.cols.length d.c5, .slice d.a6 s.ods.length d.c6, v7] 63)).alloc (.cells #[.int .i64 lo, .int .i64 hi, .slice am ms.length cm, v2] 69)).alloc (.cells (crC c) 71)) = X0 at *
  refine (pull_any s d v7 lo hi am cm ms v2 c X0 (hsW.mono (ext_of_below hA0)) ok (hrW.mono (ext_of_below hA0)) hm hl6 hc).mono ?_
  rintro e X1 ⟨rfl, hb1⟩
  have hA1 := hA0.trans (hb1.mono hA0.size)
  replace h5 := h5.below hb1 h5.lt
  replace h6 := h6.below hb1 h6.lt
  replace h8 := h8.below hb1 h8.lt
  have hj1 := ownf_below (hJ r) hj (hA1)
  clear hld5 hld8 hb1 hA0 hj
  have e0 := h6.cell 0 _ rfl
  have e1 := h6.cell 1 _ rfl
  have e2 := h6.cell 2 _ rfl
  have hz8 := h8.lt
  by_cases hp : hi < pullS s c ms
  · have HL : Hid (TellR S J Jx W0 base (tellL s lo hi ms (m :: rest) c).length r W1 (.returned (.bool true)) X1) := Lib.hid (by
      have : tellL s lo hi ms (m :: rest) c = [] := by unfold tellL; rw [if_pos hp]
      rw [this]
      exact .inl ⟨rfl, ⟨r, .inl rfl, hj1⟩, BelS.of_below hA1⟩)
    generalize pullS s c ms = PU at *
    clear h5 h6 h8 hj1 hL hsW hrW
    gi_wp2
    go_ret
    exact HL.out
  · have hfi : first < ms.length := by
      rcases Nat.lt_or_ge first ms.length with h | h
      · exact h
      · rw [List.drop_eq_nil_of_le h] at hfr; cases hfr
    have hfr2 := hfr
    rw [List.drop_eq_getElem_cons hfi] at hfr2
    obtain ⟨hm1, hm2⟩ := List.cons.inj hfr2
    clear hfr2
    have hmm := hm m (by rw [← hm1]; exact List.getElem_mem hfi)
    obtain ⟨mn, hmn⟩ := Int.eq_ofNat_of_zero_le hmm.1
    subst hmn
    have hnm := ok.nm
    have hna := ok.na
    have hmn6 : mn < 6 := by omega
    have hmnl : mn < s.mks.length := by omega
    have hq : ((first : Int) == (ms.length : Int)) = false := by rw [beq_eq_false_iff_ne]; omega
    have HT : Hid (tellL s lo hi ms ((mn : Int) :: rest) c = (artsI s).flatMap fun a => if skipB s mn (colS s c ms) a = true then [] else tellL s lo hi ms rest (c.set mn a)) := Lib.hid (by rw [tellL, if_neg hp]; simp only [Int.toNat_natCast])
    obtain ⟨am', cm', he, -, ⟨-, hml⟩, hl⟩ := id hrW
    simp only [Value.slice.injEq, true_and] at he
    obtain ⟨rfl, rfl⟩ := he
    obtain ⟨b1, o1, he1, q0, -⟩ := hl first hfi
    rw [hm1] at q0
    simp only [Nat.mul_one] at q0
    have hlb := cell_lt q0
    simp only at hlb
    have k0 := ext_of_below hA1 _ _ q0
    clear hl q0
    have e3 := h6.cell 3 _ rfl
    have j1 : (0 : Int) ≤ (first : Int) := Int.natCast_nonneg _
    have j2 : (first : Int) < (ms.length : Int) := by omega
    have HP := Lib.hid hp
    have hrW0 := Lib.hid (fun V (hV : Below X1.heap.size X1 V) => hrW.mono (ext_of_below (hA1.trans (hV.mono hA1.size))))
    have hsW0 := Lib.hid (fun V (hV : Below X1.heap.size X1 V) => hsW.mono (ext_of_below (hA1.trans (hV.mono hA1.size))))
    have HAA := Lib.hid hA1
    have hAz := hA1.size
    generalize pullS s c ms = PU at *
    subst he1
    gi_wp2_with fail
    have D0 : Below X1.heap.size X1 X1.drew := (Below.refl _ _).drew
    have HSV : Hid (∀ V, Below X1.heap.size X1 V → (fun w' : World => (w'.cell? ⟨W1.heap.size + 1, 0, none⟩ = some (.int .i64 lo) ∧ w'.cell? ⟨W1.heap.size + 1, 1, none⟩ = some (.int .i64 hi) ∧ w'.cell? ⟨W1.heap.size + 1, 2, none⟩ = some (.slice (some ⟨b1, o1, none⟩) ms.length cm) ∧ w'.cell? ⟨W1.heap.size + 1, 3, none⟩ = some v2) ∧ w'.cell? ⟨b1, o1 + first, none⟩ = some (.int .i64 mn) ∧ w'.rangeAt W1.heap.size 0 (#[.int .i64 s.days, .slice d.a1 s.arts.length d.c1, .slice d.a2 s.ovens.length d.c2, .slice d.a3 s.mks.length d.c3, .slice d.a4 s.jobs.length d.c4, .slice d.a5 s.cols.length d.c5, .slice d.a6 s.ods.length d.c6, v7]).toList ∧ w'.rangeAt (W1.heap.size + 1 + 1) 0 (crC c).toList) V) := Lib.hid (fun V hV => ⟨⟨(h6.below hV h6.lt).cell 0 _ rfl, (h6.below hV h6.lt).cell 1 _ rfl, (h6.below hV h6.lt).cell 2 _ rfl, (h6.below hV h6.lt).cell 3 _ rfl⟩, ext_of_below hV _ _ k0, (h5.below hV h5.lt).range, (h8.below hV h8.lt).range⟩)
    clear e0 e1 e2 e3 k0 hrW hsW hA1
    refine wpIn_region_till (fun w' : World => (w'.cell? ⟨W1.heap.size + 1, 0, none⟩ = some (.int .i64 lo) ∧ w'.cell? ⟨W1.heap.size + 1, 1, none⟩ = some (.int .i64 hi) ∧ w'.cell? ⟨W1.heap.size + 1, 2, none⟩ = some (.slice (some ⟨b1, o1, none⟩) ms.length cm) ∧ w'.cell? ⟨W1.heap.size + 1, 3, none⟩ = some v2) ∧ w'.cell? ⟨b1, o1 + first, none⟩ = some (.int .i64 mn) ∧ w'.rangeAt W1.heap.size 0 (#[.int .i64 s.days, .slice d.a1 s.arts.length d.c1, .slice d.a2 s.ovens.length d.c2, .slice d.a3 s.mks.length d.c3, .slice d.a4 s.jobs.length d.c4, .slice d.a5 s.cols.length d.c5, .slice d.a6 s.ods.length d.c6, v7]).toList ∧ w'.rangeAt (W1.heap.size + 1 + 1) 0 (crC c).toList) 99 (by kernel_rfl) (by kernel_rfl) (fun ⟨_, _, h⟩ => by rcases h with ⟨h, -⟩ | ⟨h, -⟩ <;> cases h) (HSV.out _ D0) (fun hHeld => ?_)
    generalize X1.drew = wd at *
    refine Till.take 0 (some 39) (v := ?_) rfl rfl (by kernel_rfl) (by kernel_rfl) (by kernel_rfl) (by kernel_rfl) (fun _ _ _ h => h) (Or.inl ⟨by rfl, ?_⟩) (by assumption) ?_
    rotate_left
    · (intro w hSw; (try dsimp only at hSw); go_simp; try with_reducible rfl)
    try simp only [Act.put, List.setIfInBounds_toArray, List.set_cons_zero, List.set_cons_succ]
    refine Till.take 1 (some 40) (v := ?_) rfl rfl (by kernel_rfl) (by kernel_rfl) (by kernel_rfl) (by kernel_rfl) (fun _ _ _ h => h) (Or.inl ⟨by rfl, ?_⟩) (by assumption) ?_
    rotate_left
    · (intro w hSw; (try dsimp only at hSw); go_simp; try with_reducible rfl)
    try simp only [Act.put, List.setIfInBounds_toArray, List.set_cons_zero, List.set_cons_succ]
    refine Till.take 2 (some 41) (v := ?_) rfl rfl (by kernel_rfl) (by kernel_rfl) (by kernel_rfl) (by kernel_rfl) (fun _ _ _ h => h) (Or.inl ⟨by rfl, ?_⟩) (by assumption) ?_
    rotate_left
    · (intro w hSw; (try dsimp only at hSw); go_simp; try with_reducible rfl)
    try simp only [Act.put, List.setIfInBounds_toArray, List.set_cons_zero, List.set_cons_succ]
    refine Till.take 3 (some 42) (v := ?_) rfl rfl (by kernel_rfl) (by kernel_rfl) (by kernel_rfl) (by kernel_rfl) (fun _ _ _ h => h) (Or.inl ⟨by rfl, ?_⟩) (by assumption) ?_
    rotate_left
    · (intro w hSw; (try dsimp only at hSw); go_simp; try with_reducible rfl)
    try simp only [Act.put, List.setIfInBounds_toArray, List.set_cons_zero, List.set_cons_succ]
    refine Till.take 4 (some 43) (v := ?_) rfl rfl (by kernel_rfl) (by kernel_rfl) (by kernel_rfl) (by kernel_rfl) (fun _ _ _ h => h) (Or.inl ⟨by rfl, ?_⟩) (by assumption) ?_
    rotate_left
    · (intro w hSw; (try dsimp only at hSw); go_simp; try with_reducible rfl)
    try simp only [Act.put, List.setIfInBounds_toArray, List.set_cons_zero, List.set_cons_succ]
    refine Till.take 5 (some 44) (v := .agg #[.int .i64 s.days, .slice d.a1 s.arts.length d.c1, .slice d.a2 s.ovens.length d.c2, .slice d.a3 s.mks.length d.c3, .slice d.a4 s.jobs.length d.c4, .slice d.a5 s.cols.length d.c5, .slice d.a6 s.ods.length d.c6, v7]) rfl rfl (by kernel_rfl) (by kernel_rfl) (by kernel_rfl) (by kernel_rfl) (fun _ _ _ h => h) (yieldsIf_load_mid rfl 63 (Operand.tmp 5) rfl (W1.heap.size) 0 rfl (#[.int .i64 s.days, .slice d.a1 s.arts.length d.c1, .slice d.a2 s.ovens.length d.c2, .slice d.a3 s.mks.length d.c3, .slice d.a4 s.jobs.length d.c4, .slice d.a5 s.cols.length d.c5, .slice d.a6 s.ods.length d.c6, v7]).toList _ (fun _ h => h.2.2.1) Try.underlying63 rfl (by rw [sz_works]; rfl)) (by assumption) ?_
    try simp only [Act.put, List.setIfInBounds_toArray, List.set_cons_zero, List.set_cons_succ]
    refine Till.take 6 (some 45) (v := ?_) rfl rfl (by kernel_rfl) (by kernel_rfl) (by kernel_rfl) (by kernel_rfl) (fun _ _ _ h => h) (Or.inl ⟨by rfl, ?_⟩) (by assumption) ?_
    rotate_left
    · (intro w hSw; (try dsimp only at hSw); go_simp; try with_reducible rfl)
    try simp only [Act.put, List.setIfInBounds_toArray, List.set_cons_zero, List.set_cons_succ]
    refine Till.take 7 (some 46) (v := .agg (crC c)) rfl rfl (by kernel_rfl) (by kernel_rfl) (by kernel_rfl) (by kernel_rfl) (fun _ _ _ h => h) (yieldsIf_load_mid rfl 71 (Operand.tmp 8) rfl (W1.heap.size + 1 + 1) 0 rfl ((crC c)).toList _ (fun _ h => h.2.2.2) Try.underlying71 rfl (by rw [sz_crew]; rfl)) (by assumption) ?_
    try simp only [Act.put, List.setIfInBounds_toArray, List.set_cons_zero, List.set_cons_succ]
    refine Till.one 8 rfl (by kernel_rfl) (fun K hK => ?_)
    go_simp
    go_at_call 85
    refine (colour_any s d v7 lo hi (some ⟨b1, o1, none⟩) cm ms v2 c _ (hsW0.out _ D0) ok (hrW0.out _ D0) hm hc).mono ?_
    rintro e X2 ⟨rfl, hb2⟩
    have D2 := D0.trans (hb2.mono D0.size)
    have hh2 := HSV.out _ D2
    refine hK.out _ _ (fun _ => hh2) (fun hHeld2 => ?_)
    clear hK K hb2
    try simp only [Act.put, List.setIfInBounds_toArray, List.set_cons_zero, List.set_cons_succ]
    refine Till.take 9 (some 12) (v := ?_) rfl rfl (by kernel_rfl) (by kernel_rfl) (by kernel_rfl) (by kernel_rfl) (fun _ _ _ h => h) (Or.inl ⟨by rfl, ?_⟩) (by assumption) ?_
    rotate_left
    · (intro w hSw; (try dsimp only at hSw); go_simp; try with_reducible rfl)
    try simp only [Act.put, List.setIfInBounds_toArray, List.set_cons_zero, List.set_cons_succ]
    refine Till.take 10 (some 13) (v := ?_) rfl rfl (by kernel_rfl) (by kernel_rfl) (by kernel_rfl) (by kernel_rfl) (fun _ _ _ h => h) (Or.inl ⟨by rfl, ?_⟩) (by assumption) ?_
    rotate_left
    · (intro w hSw; (try dsimp only at hSw); go_simp; try with_reducible rfl)
    try simp only [Act.put, List.setIfInBounds_toArray, List.set_cons_zero, List.set_cons_succ]
    refine Till.done (by kernel_rfl) ?_ _
    obtain ⟨col, hcol⟩ : ∃ col, colS s c ms = col := ⟨_, rfl⟩
    rw [hcol] at HT ⊢
    clear hcol
    obtain ⟨f, hf⟩ : ∃ f : Int → List (List Int), (fun a => if skipB s mn col a = true then [] else tellL s lo hi ms rest (c.set mn a)) = f := ⟨_, rfl⟩
    have hfa : ∀ a, f a = if skipB s mn col a = true then [] else tellL s lo hi ms rest (c.set mn a) := fun a => by rw [← hf]
    rw [hf] at HT
    rw [HT.out] at hL
    have HF := Lib.hid hfa
    have H5 := h5.below D2 h5.lt
    have H6 := h6.below D2 h6.lt
    have H8 := h8.below D2 h8.lt
    have hA2 := HAA.out.trans (D2.mono HAA.out.size)
    have hj2 := ownf_below (hJ r) hj1 D2
    have HS1 := Lib.hid (fun V (hV : BelS (fun b => S b ∨ r = some b) W1.heap.size W1 V) => SnD.mono (show Ext (vis (fun k => ¬ S k) w) V from BelS.ext (S := S) (hBW.trans (belS_drop hV hWs hW0 hS (fun q hq => (hrl q hq).1))) ) hs)
    have hz2 : W1.heap.size + 3 ≤ X2.heap.size := by have := H8.lt; omega
    clear hf hfa h5 h6 h8 hj1 D0 D2 hh2 hHeld hHeld2 hrW0 hsW0 HSV hz8
    have HG := Lib.hid (And.intro hS (And.intro hJ (And.intro hJr (And.intro hJT (And.intro ih hrl)))))
    clear hS hJ hJr hJT hY ih hrl
    gi_wp2
    gi_loopw [14] (fun i wr => ∃ (k : Nat) (a : Int) (c' : List Int) (r' : Option Nat), k ≤ s.arts.length + 1 ∧ i = .int .i64 a ∧ Hid (a = (k : Int) - 1) ∧ Hid (∀ v, c'.set mn v = c.set mn v) ∧ CrOk s c' ∧ Blk wr W1.heap.size #[.int .i64 s.days, .slice d.a1 s.arts.length d.c1, .slice d.a2 s.ovens.length d.c2, .slice d.a3 s.mks.length d.c3, .slice d.a4 s.jobs.length d.c4, .slice d.a5 s.cols.length d.c5, .slice d.a6 s.ods.length d.c6, v7] 63 ∧ Blk wr (W1.heap.size + 1) #[.int .i64 lo, .int .i64 hi, .slice (some ⟨b1, o1, none⟩) ms.length cm, v2] 69 ∧ Blk wr (W1.heap.size + 1 + 1) (crC c') 71 ∧ Hid (r' = r ∨ ∃ q, r' = some q ∧ W1.heap.size + 3 ≤ q) ∧ J r' (base + (((artsI s).take k).flatMap f).length) wr ∧ BelS (fun b => S b ∨ r = some b) W1.heap.size W1 wr ∧ KeepsFrom W0.heap.size W1 wr) (fun i _ => s.arts.length + 1 - (intOf i + 1).toNat)
    case atStart => exact ⟨0, -1, c, r, by omega, rfl, Lib.hid (by omega), Lib.hid (fun _ => rfl), hc, H5, H6, H8, Lib.hid (.inl rfl), by simpa using hj2, BelS.of_below hA2, keeps_below hA2 (Nat.le_refl _)⟩
    case round =>
      obtain ⟨k, a, c', r', hk, rfl, ha, hcc, hc', H5r, H6r, H8r, hrr, hjr, hB, hK⟩ := hrel
      have q1 := H5r.cell 1 _ rfl
      have haa := ha.out
      by_cases hlt : k < s.arts.length + 1
      · have hq1 : decide (a < (s.arts.length : Int)) = true := decide_eq_true (by omega)
        have hq1' : a < (s.arts.length : Int) := by omega
        have hat := artsI_at hlt
        rw [← haa] at hat
        have hkp : -1 ≤ a := by omega
        clear haa
        by_cases ha0 : a = -1
        · have hsk : skipB s mn col a = false := by unfold skipB; rw [decide_eq_false (by omega)]; rfl
          clear hq1'
          subst ha0
          have hfe : f (-1) = tellL s lo hi ms rest (c.set mn (-1)) := by rw [HF.out, if_neg (by rw [hsk]; decide)]
          obtain ⟨hS, hJ, hJr, hJT, ih, hrl⟩ := HG.out
          have hT1 : (((artsI s).take (k + 1)).flatMap f).length = (((artsI s).take k).flatMap f).length + (tellL s lo hi ms rest (c.set mn (-1))).length := by rw [flat_next hat, hfe, List.length_append]
          have cc := H8r.cell mn _ (crC_at c' hmn6)
          have cf := H8r.frozen mn
          have H8s : Blk (wr.setCell ⟨W1.heap.size + 1 + 1, mn, none⟩ (.int .i64 (-1))) (W1.heap.size + 1 + 1) (crC (c.set mn (-1))) 71 := by rw [← hcc.out (-1), ← crC_set c' hc'.1 hmn6]; exact H8r.set mn _
          have H5s := H5r.other ⟨W1.heap.size + 1 + 1, mn, none⟩ (.int .i64 (-1)) (by simp only; omega)
          have H6s := H6r.other ⟨W1.heap.size + 1 + 1, mn, none⟩ (.int .i64 (-1)) (by simp only; omega)
          have hrn : ∀ q, r' = some q → q < W1.heap.size ∨ W1.heap.size + 3 ≤ q := fun q hq => by
            rcases hrr.out with e | ⟨q', e, hq'⟩
            · rw [e] at hq; exact .inl (hrl q hq).2
            · rw [hq] at e; cases e; exact .inr hq'
          have hjs := hJT r' _ wr ⟨W1.heap.size + 1 + 1, mn, none⟩ (.int .i64 (-1)) hjr (by simp only; omega) (fun e => by have := hrn _ e; simp only at this; omega)
          have hBs := hB.set ⟨W1.heap.size + 1 + 1, mn, none⟩ (.int .i64 (-1)) (.inl (by simp only; omega))
          have hKs := hK.trans (keeps_set (B := W0.heap.size) (i := mn) H8r (.int .i64 (-1)))
          have hcs : CrOk s (c.set mn (-1)) := hc.set hmn6 (by omega)
          have HLs : Hid (∀ j x, (tellL s lo hi ms rest (c.set mn (-1)))[j]? = some x → encs[base + (((artsI s).take k).flatMap f).length + j]? = some #[.agg (crC x)]) := Lib.hid (fun j x hx => by
            have h1 := hL.out ((((artsI s).take k).flatMap f).length + j) x (flat_sub hat (by rw [hfe]; exact hx))
            rw [← Nat.add_assoc] at h1
            exact h1)
          have hld5 := ld_blk H5s Try.underlying63 rfl (by rw [sz_works]; rfl)
          have hld8 := ld_blk H8s Try.underlying71 rfl (by rw [sz_crew]; rfl)
          have g0 := H6s.cell 0 _ rfl
          have g1 := H6s.cell 1 _ rfl
          have g2 := H6s.cell 2 _ rfl
          have g3 := H6s.cell 3 _ rfl
          have HH := Lib.hid (And.intro H5s (And.intro H6s (And.intro H8s (And.intro hjs (And.intro hBs hKs)))))
          have HX := Lib.hid (And.intro hT1 (And.intro hrn hrr.out))
          clear H5s H6s H8s hjs hBs hKs hT1 hrn hfe hsk hat hjr hB hK H5r H6r hL hS hJ hJr hJT ih hrl
          gi_wp2_with fail
          clear cc cf hld5 hld8 g0 g1 g2 g3
          generalize (wr.setCell ⟨W1.heap.size + 1 + 1, mn, none⟩ (.int .i64 (-1))) = Y at *
          obtain ⟨H5s, H6s, H8s, hjs, hBs, hKs⟩ := HH.out
          obtain ⟨hS, hJ, hJr, hJT, ih, hrl⟩ := HG.out
          obtain ⟨hT1, hrn, hrr⟩ := HX.out
          clear HH HX H8r
          have hcall := ih (first + 1) (c.set mn (-1)) (base + (((artsI s).take k).flatMap f).length) r' Y (n - 1) hm2 (by omega) hcs (hBW.trans (belS_drop hBs hWs hW0 hS (fun q hq => (hrl q hq).1))) (by have := hBs.size; omega) hjs HLs
          rw [show ((first + 1 : Nat) : Int) = (first : Int) + 1 by omega] at hcall
          refine ⟨trivial, (fun hd => by simp [Fence.wide] at hd), hcall.mono ?_⟩
          clear hcall HLs
          have hYz : W1.heap.size + 3 ≤ Y.heap.size := by have := H8s.lt; omega
          rintro e W' (⟨rfl, ⟨r2, g1, g2⟩, g3⟩ | ⟨rfl, g1, g2⟩)
          · have hno : ∀ q, W1.heap.size ≤ q → q < W1.heap.size + 3 → ¬ (S q ∨ r' = some q) := fun q h1 h2 x => by
              rcases x with x | x
              · have := hS q x; omega
              · have := hrn q x; omega
            have H5n := g3.blk H5s (hno _ (by omega) (by omega)) H5s.lt
            have H6n := g3.blk H6s (hno _ (by omega) (by omega)) H6s.lt
            have H8n := g3.blk H8s (hno _ (by omega) (by omega)) H8s.lt
            have hr2 : Hid (r2 = r ∨ ∃ q, r2 = some q ∧ W1.heap.size + 3 ≤ q) := Lib.hid (by
              rcases g1 with e | ⟨q, e, hq⟩
              · rw [e]; exact hrr
              · exact .inr ⟨q, e, by omega⟩)
            have HJ := Lib.hid (show J r2 (base + (((artsI s).take (k + 1)).flatMap f).length) W' by rw [hT1, ← Nat.add_assoc]; exact g2)
            have HB := Lib.hid (hBs.trans (belS_step g3 (by omega) (hrr.imp id (fun ⟨q, e, h⟩ => ⟨q, e, by omega⟩))))
            have HK := Lib.hid (hKs.trans (keeps_r g3 (fun k hk => by have := hS k hk; omega) (fun q hq => (hJr r' _ Y q hjs hq).2)))
            have HA : Hid ((-1) + 1 = ((k + 1 : Nat) : Int) - 1) := Lib.hid (by have := ha.out; omega)
            have HCC : Hid (∀ v, (c.set mn (-1)).set mn v = c.set mn v) := Lib.hid (fun v => List.set_set ..)
            clear g1 g2 g3 hno H5s H6s H8s hjs hBs hKs hrn hrr hT1 hS hJ hJr hJT ih hrl
            gi_wp2
            go_roundw
            case rel => exact ⟨k + 1, (-1) + 1, _, r2, by omega, by go_num, HA, HCC, hcs, H5n, H6n, H8n, hr2, HJ.out, HB.out, HK.out⟩
            case measure => (have := ha.out; simp [intOf] <;> omega)
          · have HL : Hid (TellR S J Jx W0 base (tellL s lo hi ms ((mn : Int) :: rest) c).length r W1 (.returned (.bool false)) W') := Lib.hid (.inr ⟨rfl, g1, hKs.trans g2⟩)
            clear g1 g2 H5s H6s H8s hjs hBs hKs hrn hrr hT1 hS hJ hJr hJT ih hrl
            gi_wp2
            go_ret
            exact HL.out
        · have hqa : (a != -1) = true := by rw [bne_iff_ne]; exact ha0
          obtain ⟨pp, hpp⟩ := Int.eq_ofNat_of_zero_le (show 0 ≤ a by omega)
          have hpl : pp < s.arts.length := by omega
          have hsr := HS1.out wr hB
          have hmk := ok.mkr _ (List.getElem_mem hmnl)
          have hpr : pp < s.mks[mn].rates.length := by omega
          obtain ⟨x1, y1, he1, -, -, hla⟩ := id hsr.arts
          simp only [Value.slice.injEq, true_and] at he1
          obtain ⟨rfl, rfl⟩ := he1
          obtain ⟨b2, o2, he2, ⟨-, u1, -⟩, -⟩ := hla pp hpl
          obtain ⟨x3, y3, he3, -, -, hlm⟩ := id hsr.mks
          simp only [Value.slice.injEq, true_and] at he3
          obtain ⟨rfl, rfl⟩ := he3
          obtain ⟨b3, o3, he3, vv, ⟨-, u2, -⟩, -, hrr2, -⟩ := hlm mn hmnl
          obtain ⟨ar, cr, rfl, -, -, hlr⟩ := hrr2
          obtain ⟨b4, o4, he4, u3, -⟩ := hlr pp hpr
          simp only [Nat.mul_one] at u3
          have HR := rate_at (s := s) hmnl hpr
          have HC := colr_at (s := s) hpl
          have q3 := H5r.cell 3 _ rfl
          rw [he3] at q3
          rw [he2] at q1
          subst he4
          have j5 : (0 : Int) ≤ (mn : Int) := Int.natCast_nonneg _
          have j6 : (mn : Int) < (s.mks.length : Int) := by omega
          have j7 : (0 : Int) ≤ (pp : Int) := Int.natCast_nonneg _
          have j8 : (pp : Int) < (s.mks[mn].rates.length : Int) := by omega
          have j9 : (pp : Int) < (s.arts.length : Int) := by omega
          rw [← hpp] at HR HC
          have HQ : Hid (skipB s mn col a = (decide (s.mks[mn].rates[pp] = 0) || decide (col ≠ -1) && decide (col ≠ s.arts[pp].col))) := Lib.hid (by unfold skipB; rw [HR, HC, decide_eq_true (by omega), Bool.true_and])
          clear hla hlm hlr hmk HR HC hsr he2 he3
          generalize s.arts[pp].col = xc at *
          generalize s.mks[mn].rates[pp] = yr at *
          generalize s.mks[mn].rates.length = zl at *
          by_cases hy0 : yr = 0
          · have hsk : skipB s mn col a = true := by rw [HQ.out, decide_eq_true hy0]; rfl
            have hq2 : (yr == 0) = true := beq_iff_eq.2 hy0
            clear HQ hy0
            subst hpp
            have hfe : f (pp : Int) = [] := by rw [HF.out, if_pos hsk]
            have HT1 : Hid ((((artsI s).take (k + 1)).flatMap f).length = (((artsI s).take k).flatMap f).length) := Lib.hid (by rw [flat_next hat, hfe, List.append_nil])
            have HJ := Lib.hid (show J r' (base + (((artsI s).take (k + 1)).flatMap f).length) wr by rw [HT1.out]; exact hjr)
            have HB := Lib.hid hB
            have HK := Lib.hid hK
            have HA : Hid ((pp : Int) + 1 = ((k + 1 : Nat) : Int) - 1) := Lib.hid (by have := ha.out; omega)
            clear hsk hfe hat hB hK hjr HT1 hL
            gi_wp2
            go_roundw
            case rel => exact ⟨k + 1, (pp : Int) + 1, c', r', by omega, by go_num, HA, hcc, hc', H5r, H6r, H8r, hrr, HJ.out, HB.out, HK.out⟩
            case measure => (have := ha.out; simp [intOf] <;> omega)
          · have hq2 : (yr == 0) = false := by rw [beq_eq_false_iff_ne]; exact hy0
            by_cases hcn : col = -1
            · have hsk : skipB s mn col a = false := by rw [HQ.out, decide_eq_false hy0, decide_eq_false (p := col ≠ -1) (by omega)]; rfl
              have hq3 : (col != -1) = false := by rw [bne_eq_false_iff_eq]; exact hcn
              clear HQ hy0 hcn
              subst hpp
              have hfe : f (pp : Int) = tellL s lo hi ms rest (c.set mn (pp : Int)) := by rw [HF.out, if_neg (by rw [hsk]; decide)]
              obtain ⟨hS, hJ, hJr, hJT, ih, hrl⟩ := HG.out
              have hT1 : (((artsI s).take (k + 1)).flatMap f).length = (((artsI s).take k).flatMap f).length + (tellL s lo hi ms rest (c.set mn (pp : Int))).length := by rw [flat_next hat, hfe, List.length_append]
              have cc := H8r.cell mn _ (crC_at c' hmn6)
              have cf := H8r.frozen mn
              have H8s : Blk (wr.setCell ⟨W1.heap.size + 1 + 1, mn, none⟩ (.int .i64 (pp : Int))) (W1.heap.size + 1 + 1) (crC (c.set mn (pp : Int))) 71 := by rw [← hcc.out (pp : Int), ← crC_set c' hc'.1 hmn6]; exact H8r.set mn _
              have H5s := H5r.other ⟨W1.heap.size + 1 + 1, mn, none⟩ (.int .i64 (pp : Int)) (by simp only; omega)
              have H6s := H6r.other ⟨W1.heap.size + 1 + 1, mn, none⟩ (.int .i64 (pp : Int)) (by simp only; omega)
              have hrn : ∀ q, r' = some q → q < W1.heap.size ∨ W1.heap.size + 3 ≤ q := fun q hq => by
                rcases hrr.out with e | ⟨q', e, hq'⟩
                · rw [e] at hq; exact .inl (hrl q hq).2
                · rw [hq] at e; cases e; exact .inr hq'
              have hjs := hJT r' _ wr ⟨W1.heap.size + 1 + 1, mn, none⟩ (.int .i64 (pp : Int)) hjr (by simp only; omega) (fun e => by have := hrn _ e; simp only at this; omega)
              have hBs := hB.set ⟨W1.heap.size + 1 + 1, mn, none⟩ (.int .i64 (pp : Int)) (.inl (by simp only; omega))
              have hKs := hK.trans (keeps_set (B := W0.heap.size) (i := mn) H8r (.int .i64 (pp : Int)))
              have hcs : CrOk s (c.set mn (pp : Int)) := hc.set hmn6 (by omega)
              have HLs : Hid (∀ j x, (tellL s lo hi ms rest (c.set mn (pp : Int)))[j]? = some x → encs[base + (((artsI s).take k).flatMap f).length + j]? = some #[.agg (crC x)]) := Lib.hid (fun j x hx => by
                have h1 := hL.out ((((artsI s).take k).flatMap f).length + j) x (flat_sub hat (by rw [hfe]; exact hx))
                rw [← Nat.add_assoc] at h1
                exact h1)
              have hld5 := ld_blk H5s Try.underlying63 rfl (by rw [sz_works]; rfl)
              have hld8 := ld_blk H8s Try.underlying71 rfl (by rw [sz_crew]; rfl)
              have g0 := H6s.cell 0 _ rfl
              have g1 := H6s.cell 1 _ rfl
              have g2 := H6s.cell 2 _ rfl
              have g3 := H6s.cell 3 _ rfl
              have HH := Lib.hid (And.intro H5s (And.intro H6s (And.intro H8s (And.intro hjs (And.intro hBs hKs)))))
              have HX := Lib.hid (And.intro hT1 (And.intro hrn hrr.out))
              clear H5s H6s H8s hjs hBs hKs hT1 hrn hfe hsk hat hjr hB hK H5r H6r hL hS hJ hJr hJT ih hrl
              gi_wp2_with fail
              clear cc cf hld5 hld8 g0 g1 g2 g3
              generalize (wr.setCell ⟨W1.heap.size + 1 + 1, mn, none⟩ (.int .i64 (pp : Int))) = Y at *
              obtain ⟨H5s, H6s, H8s, hjs, hBs, hKs⟩ := HH.out
              obtain ⟨hS, hJ, hJr, hJT, ih, hrl⟩ := HG.out
              obtain ⟨hT1, hrn, hrr⟩ := HX.out
              clear HH HX H8r
              have hcall := ih (first + 1) (c.set mn (pp : Int)) (base + (((artsI s).take k).flatMap f).length) r' Y (n - 1) hm2 (by omega) hcs (hBW.trans (belS_drop hBs hWs hW0 hS (fun q hq => (hrl q hq).1))) (by have := hBs.size; omega) hjs HLs
              rw [show ((first + 1 : Nat) : Int) = (first : Int) + 1 by omega] at hcall
              refine ⟨trivial, (fun hd => by simp [Fence.wide] at hd), hcall.mono ?_⟩
              clear hcall HLs
              have hYz : W1.heap.size + 3 ≤ Y.heap.size := by have := H8s.lt; omega
              rintro e W' (⟨rfl, ⟨r2, g1, g2⟩, g3⟩ | ⟨rfl, g1, g2⟩)
              · have hno : ∀ q, W1.heap.size ≤ q → q < W1.heap.size + 3 → ¬ (S q ∨ r' = some q) := fun q h1 h2 x => by
                  rcases x with x | x
                  · have := hS q x; omega
                  · have := hrn q x; omega
                have H5n := g3.blk H5s (hno _ (by omega) (by omega)) H5s.lt
                have H6n := g3.blk H6s (hno _ (by omega) (by omega)) H6s.lt
                have H8n := g3.blk H8s (hno _ (by omega) (by omega)) H8s.lt
                have hr2 : Hid (r2 = r ∨ ∃ q, r2 = some q ∧ W1.heap.size + 3 ≤ q) := Lib.hid (by
                  rcases g1 with e | ⟨q, e, hq⟩
                  · rw [e]; exact hrr
                  · exact .inr ⟨q, e, by omega⟩)
                have HJ := Lib.hid (show J r2 (base + (((artsI s).take (k + 1)).flatMap f).length) W' by rw [hT1, ← Nat.add_assoc]; exact g2)
                have HB := Lib.hid (hBs.trans (belS_step g3 (by omega) (hrr.imp id (fun ⟨q, e, h⟩ => ⟨q, e, by omega⟩))))
                have HK := Lib.hid (hKs.trans (keeps_r g3 (fun k hk => by have := hS k hk; omega) (fun q hq => (hJr r' _ Y q hjs hq).2)))
                have HA : Hid ((pp : Int) + 1 = ((k + 1 : Nat) : Int) - 1) := Lib.hid (by have := ha.out; omega)
                have HCC : Hid (∀ v, (c.set mn (pp : Int)).set mn v = c.set mn v) := Lib.hid (fun v => List.set_set ..)
                clear g1 g2 g3 hno H5s H6s H8s hjs hBs hKs hrn hrr hT1 hS hJ hJr hJT ih hrl
                gi_wp2
                go_roundw
                case rel => exact ⟨k + 1, (pp : Int) + 1, _, r2, by omega, by go_num, HA, HCC, hcs, H5n, H6n, H8n, hr2, HJ.out, HB.out, HK.out⟩
                case measure => (have := ha.out; simp [intOf] <;> omega)
              · have HL : Hid (TellR S J Jx W0 base (tellL s lo hi ms ((mn : Int) :: rest) c).length r W1 (.returned (.bool false)) W') := Lib.hid (.inr ⟨rfl, g1, hKs.trans g2⟩)
                clear g1 g2 H5s H6s H8s hjs hBs hKs hrn hrr hT1 hS hJ hJr hJT ih hrl
                gi_wp2
                go_ret
                exact HL.out
            · have hq3 : (col != -1) = true := by rw [bne_iff_ne]; exact hcn
              by_cases hcx : col = xc
              · have hsk : skipB s mn col a = false := by rw [HQ.out, decide_eq_false hy0, decide_eq_false (p := col ≠ xc) (by omega)]; simp
                have hq4 : (col != xc) = false := by rw [bne_eq_false_iff_eq]; exact hcx
                clear HQ hy0 hcn hcx
                subst hpp
                have hfe : f (pp : Int) = tellL s lo hi ms rest (c.set mn (pp : Int)) := by rw [HF.out, if_neg (by rw [hsk]; decide)]
                obtain ⟨hS, hJ, hJr, hJT, ih, hrl⟩ := HG.out
                have hT1 : (((artsI s).take (k + 1)).flatMap f).length = (((artsI s).take k).flatMap f).length + (tellL s lo hi ms rest (c.set mn (pp : Int))).length := by rw [flat_next hat, hfe, List.length_append]
                have cc := H8r.cell mn _ (crC_at c' hmn6)
                have cf := H8r.frozen mn
                have H8s : Blk (wr.setCell ⟨W1.heap.size + 1 + 1, mn, none⟩ (.int .i64 (pp : Int))) (W1.heap.size + 1 + 1) (crC (c.set mn (pp : Int))) 71 := by rw [← hcc.out (pp : Int), ← crC_set c' hc'.1 hmn6]; exact H8r.set mn _
                have H5s := H5r.other ⟨W1.heap.size + 1 + 1, mn, none⟩ (.int .i64 (pp : Int)) (by simp only; omega)
                have H6s := H6r.other ⟨W1.heap.size + 1 + 1, mn, none⟩ (.int .i64 (pp : Int)) (by simp only; omega)
                have hrn : ∀ q, r' = some q → q < W1.heap.size ∨ W1.heap.size + 3 ≤ q := fun q hq => by
                  rcases hrr.out with e | ⟨q', e, hq'⟩
                  · rw [e] at hq; exact .inl (hrl q hq).2
                  · rw [hq] at e; cases e; exact .inr hq'
                have hjs := hJT r' _ wr ⟨W1.heap.size + 1 + 1, mn, none⟩ (.int .i64 (pp : Int)) hjr (by simp only; omega) (fun e => by have := hrn _ e; simp only at this; omega)
                have hBs := hB.set ⟨W1.heap.size + 1 + 1, mn, none⟩ (.int .i64 (pp : Int)) (.inl (by simp only; omega))
                have hKs := hK.trans (keeps_set (B := W0.heap.size) (i := mn) H8r (.int .i64 (pp : Int)))
                have hcs : CrOk s (c.set mn (pp : Int)) := hc.set hmn6 (by omega)
                have HLs : Hid (∀ j x, (tellL s lo hi ms rest (c.set mn (pp : Int)))[j]? = some x → encs[base + (((artsI s).take k).flatMap f).length + j]? = some #[.agg (crC x)]) := Lib.hid (fun j x hx => by
                  have h1 := hL.out ((((artsI s).take k).flatMap f).length + j) x (flat_sub hat (by rw [hfe]; exact hx))
                  rw [← Nat.add_assoc] at h1
                  exact h1)
                have hld5 := ld_blk H5s Try.underlying63 rfl (by rw [sz_works]; rfl)
                have hld8 := ld_blk H8s Try.underlying71 rfl (by rw [sz_crew]; rfl)
                have g0 := H6s.cell 0 _ rfl
                have g1 := H6s.cell 1 _ rfl
                have g2 := H6s.cell 2 _ rfl
                have g3 := H6s.cell 3 _ rfl
                have HH := Lib.hid (And.intro H5s (And.intro H6s (And.intro H8s (And.intro hjs (And.intro hBs hKs)))))
                have HX := Lib.hid (And.intro hT1 (And.intro hrn hrr.out))
                clear H5s H6s H8s hjs hBs hKs hT1 hrn hfe hsk hat hjr hB hK H5r H6r hL hS hJ hJr hJT ih hrl
                gi_wp2_with fail
                clear cc cf hld5 hld8 g0 g1 g2 g3
                generalize (wr.setCell ⟨W1.heap.size + 1 + 1, mn, none⟩ (.int .i64 (pp : Int))) = Y at *
                obtain ⟨H5s, H6s, H8s, hjs, hBs, hKs⟩ := HH.out
                obtain ⟨hS, hJ, hJr, hJT, ih, hrl⟩ := HG.out
                obtain ⟨hT1, hrn, hrr⟩ := HX.out
                clear HH HX H8r
                have hcall := ih (first + 1) (c.set mn (pp : Int)) (base + (((artsI s).take k).flatMap f).length) r' Y (n - 1) hm2 (by omega) hcs (hBW.trans (belS_drop hBs hWs hW0 hS (fun q hq => (hrl q hq).1))) (by have := hBs.size; omega) hjs HLs
                rw [show ((first + 1 : Nat) : Int) = (first : Int) + 1 by omega] at hcall
                refine ⟨trivial, (fun hd => by simp [Fence.wide] at hd), hcall.mono ?_⟩
                clear hcall HLs
                have hYz : W1.heap.size + 3 ≤ Y.heap.size := by have := H8s.lt; omega
                rintro e W' (⟨rfl, ⟨r2, g1, g2⟩, g3⟩ | ⟨rfl, g1, g2⟩)
                · have hno : ∀ q, W1.heap.size ≤ q → q < W1.heap.size + 3 → ¬ (S q ∨ r' = some q) := fun q h1 h2 x => by
                    rcases x with x | x
                    · have := hS q x; omega
                    · have := hrn q x; omega
                  have H5n := g3.blk H5s (hno _ (by omega) (by omega)) H5s.lt
                  have H6n := g3.blk H6s (hno _ (by omega) (by omega)) H6s.lt
                  have H8n := g3.blk H8s (hno _ (by omega) (by omega)) H8s.lt
                  have hr2 : Hid (r2 = r ∨ ∃ q, r2 = some q ∧ W1.heap.size + 3 ≤ q) := Lib.hid (by
                    rcases g1 with e | ⟨q, e, hq⟩
                    · rw [e]; exact hrr
                    · exact .inr ⟨q, e, by omega⟩)
                  have HJ := Lib.hid (show J r2 (base + (((artsI s).take (k + 1)).flatMap f).length) W' by rw [hT1, ← Nat.add_assoc]; exact g2)
                  have HB := Lib.hid (hBs.trans (belS_step g3 (by omega) (hrr.imp id (fun ⟨q, e, h⟩ => ⟨q, e, by omega⟩))))
                  have HK := Lib.hid (hKs.trans (keeps_r g3 (fun k hk => by have := hS k hk; omega) (fun q hq => (hJr r' _ Y q hjs hq).2)))
                  have HA : Hid ((pp : Int) + 1 = ((k + 1 : Nat) : Int) - 1) := Lib.hid (by have := ha.out; omega)
                  have HCC : Hid (∀ v, (c.set mn (pp : Int)).set mn v = c.set mn v) := Lib.hid (fun v => List.set_set ..)
                  clear g1 g2 g3 hno H5s H6s H8s hjs hBs hKs hrn hrr hT1 hS hJ hJr hJT ih hrl
                  gi_wp2
                  go_roundw
                  case rel => exact ⟨k + 1, (pp : Int) + 1, _, r2, by omega, by go_num, HA, HCC, hcs, H5n, H6n, H8n, hr2, HJ.out, HB.out, HK.out⟩
                  case measure => (have := ha.out; simp [intOf] <;> omega)
                · have HL : Hid (TellR S J Jx W0 base (tellL s lo hi ms ((mn : Int) :: rest) c).length r W1 (.returned (.bool false)) W') := Lib.hid (.inr ⟨rfl, g1, hKs.trans g2⟩)
                  clear g1 g2 H5s H6s H8s hjs hBs hKs hrn hrr hT1 hS hJ hJr hJT ih hrl
                  gi_wp2
                  go_ret
                  exact HL.out
              · have hsk : skipB s mn col a = true := by rw [HQ.out, decide_eq_true (p := col ≠ -1) hcn, decide_eq_true (p := col ≠ xc) hcx]; simp
                have hq4 : (col != xc) = true := by rw [bne_iff_ne]; exact hcx
                clear HQ hy0 hcn hcx
                subst hpp
                have hfe : f (pp : Int) = [] := by rw [HF.out, if_pos hsk]
                have HT1 : Hid ((((artsI s).take (k + 1)).flatMap f).length = (((artsI s).take k).flatMap f).length) := Lib.hid (by rw [flat_next hat, hfe, List.append_nil])
                have HJ := Lib.hid (show J r' (base + (((artsI s).take (k + 1)).flatMap f).length) wr by rw [HT1.out]; exact hjr)
                have HB := Lib.hid hB
                have HK := Lib.hid hK
                have HA : Hid ((pp : Int) + 1 = ((k + 1 : Nat) : Int) - 1) := Lib.hid (by have := ha.out; omega)
                clear hsk hfe hat hB hK hjr HT1 hL
                gi_wp2
                go_roundw
                case rel => exact ⟨k + 1, (pp : Int) + 1, c', r', by omega, by go_num, HA, hcc, hc', H5r, H6r, H8r, hrr, HJ.out, HB.out, HK.out⟩
                case measure => (have := ha.out; simp [intOf] <;> omega)
      · obtain rfl : k = s.arts.length + 1 := by omega
        have HL : Hid (TellR S J Jx W0 base (tellL s lo hi ms ((mn : Int) :: rest) c).length r W1 (.returned (.bool true)) wr) := Lib.hid (by
          rw [HT.out]
          rw [show (artsI s).take (s.arts.length + 1) = artsI s from List.take_of_length_le (by rw [artsI_len]; omega)] at hjr
          exact .inl ⟨rfl, ⟨r', hrr.out.imp id (fun ⟨q, e, h⟩ => ⟨q, e, by omega⟩), hjr⟩, hB⟩)
        have hq1 : decide (a < (s.arts.length : Int)) = false := decide_eq_false (by omega)
        clear hjr hB hK hcc hL
        gi_wp2
        go_ret
        exact HL.out
end Go.Proofs.Ytdffhkbncencgaa
