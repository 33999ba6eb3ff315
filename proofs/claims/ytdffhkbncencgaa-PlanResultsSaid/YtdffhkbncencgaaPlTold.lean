/- The iterator over a furnace's shifts: its contract; no statement is proved here. -/
import Derived.Test.YtdffhkbncencgaaPlTelc
namespace Go.Proofs.Ytdffhkbncencgaa
open Go.RowKit Go.PlainAid
set_option linter.unusedVariables false
set_option linter.unusedSimpArgs false

set_option maxRecDepth 100000 in
theorem told_any (s : Sn) (d : SA) (v7 : Value) (lo hi : Int) (am : Option Addr) (cm : Nat) (n : Nat) (v2 : Value) (w : World) : Calls Try.prog 57 #[.agg #[.int .i64 s.days, .slice d.a1 s.arts.length d.c1, .slice d.a2 s.ovens.length d.c2, .slice d.a3 s.mks.length d.c3, .slice d.a4 s.jobs.length d.c4, .slice d.a5 s.cols.length d.c5, .slice d.a6 s.ods.length d.c6, v7], .agg #[.int .i64 lo, .int .i64 hi, .slice am n cm, v2]] w fun e w' =>
    e = .returned (.func (.func 77) #[] #[.pointer (some ⟨w.heap.size, 0, none⟩), .pointer (some ⟨w.heap.size + 1, 0, none⟩)]) ∧ w' = (w.alloc (.cells #[.int .i64 s.days, .slice d.a1 s.arts.length d.c1, .slice d.a2 s.ovens.length d.c2, .slice d.a3 s.mks.length d.c3, .slice d.a4 s.jobs.length d.c4, .slice d.a5 s.cols.length d.c5, .slice d.a6 s.ods.length d.c6, v7] 63)).alloc (.cells #[.int .i64 lo, .int .i64 hi, .slice am n cm, v2] 69) := by
  have hmf : ∀ (fn : Fn) (first cap : Array Value) (w : World), (Instr.makeFunc fn first cap).run Try.prog w = .ok (.func fn first cap) w := fun _ _ _ _ => rfl
  go_enter Try.func57, Try.ntmps57
  go_wp2
  go_ret
  exact ⟨rfl, rfl⟩

def encT (s : Sn) (lo hi : Int) (ms : List Int) : List (Array Value) := (tellL s lo hi ms ms idleC).map fun c => #[.agg (crC c)]

attribute [local go_sem] Oper.semAt_some
attribute [local go_sem ↓] ex_ldc ex_ldw
set_option maxHeartbeats 4000000 in
set_option maxRecDepth 100000 in
theorem toldIt_any (S : Nat → Prop) (s : Sn) (d : SA) (v7 : Value) (lo hi : Int) (am : Option Addr) (cm : Nat) (ms : List Int) (v2 : Value) (n : Nat) (w : World) (B1 B2 : Nat) (hs : SnD (vis (fun k => ¬ S k) w) s d) (ok : OkS s) (hr : RInts (vis (fun k => ¬ S k) w) (.slice am ms.length cm) ms) (hm : MsOk s ms) (hl6 : ms.length ≤ 6) (hS : ∀ k, S k → k < w.heap.size)
    (h1 : Blk w B1 #[.int .i64 s.days, .slice d.a1 s.arts.length d.c1, .slice d.a2 s.ovens.length d.c2, .slice d.a3 s.mks.length d.c3, .slice d.a4 s.jobs.length d.c4, .slice d.a5 s.cols.length d.c5, .slice d.a6 s.ods.length d.c6, v7] 63) (h2 : Blk w B2 #[.int .i64 lo, .int .i64 hi, .slice am ms.length cm, v2] 69) (n1 : ¬ S B1) (n2 : ¬ S B2) :
    SeqR S Fence.wide n Try.prog 77 #[.pointer (some ⟨B1, 0, none⟩), .pointer (some ⟨B2, 0, none⟩)] (encT s lo hi ms) w := by
  intro l J Jx W hW hJ hJx hJr hJT hY h0
  have hY2 : ∀ (n : Nat) (r : Option Nat) (k : Nat) (x : Array Value) (X : World), (encT s lo hi ms)[k]? = some x → W.heap.size ≤ X.heap.size → J r k X → YieldAt Fence.wide n Try.prog l x X (TellR S J Jx W k 1 r X) := fun m r k x X hx hX hj => by
    obtain ⟨fn, tmps, assign, body, hy, hR⟩ := hY r k x X hx hX hj
    exact ⟨fn, tmps, assign, body, hy, hR.1, fun c cs _ => hR.2 c cs (room_wide _)⟩
  have g1 := hW.blk h1 n1 h1.lt
  have g2 := hW.blk h2 n2 h2.lt
  have hWs := hW.size
  clear hY
  refine callsIn_of_wp Try.func77 rfl trivial ?_ rfl
  simp only [Try.ntmps77, List.size_toArray, List.length_cons, List.length_nil, Nat.reduceAdd, Nat.reduceSub, Array.replicate_succ, Array.replicate_zero, List.push_toArray, List.append_toArray, List.nil_append, List.cons_append]
  gi_wp2_with fail
  have D0 : Below W.heap.size W W.drew := (Below.refl _ _).drew
  have HSV : Hid (∀ V, Below W.heap.size W V → (fun w' : World => (w'.cell? ⟨B2, 0, none⟩ = some (.int .i64 lo) ∧ w'.cell? ⟨B2, 1, none⟩ = some (.int .i64 hi) ∧ w'.cell? ⟨B2, 2, none⟩ = some (.slice am ms.length cm) ∧ w'.cell? ⟨B2, 3, none⟩ = some v2) ∧ w'.rangeAt B1 0 (#[.int .i64 s.days, .slice d.a1 s.arts.length d.c1, .slice d.a2 s.ovens.length d.c2, .slice d.a3 s.mks.length d.c3, .slice d.a4 s.jobs.length d.c4, .slice d.a5 s.cols.length d.c5, .slice d.a6 s.ods.length d.c6, v7]).toList) V) := Lib.hid (fun V hV => ⟨⟨(g2.below hV g2.lt).cell 0 _ rfl, (g2.below hV g2.lt).cell 1 _ rfl, (g2.below hV g2.lt).cell 2 _ rfl, (g2.below hV g2.lt).cell 3 _ rfl⟩, (g1.below hV g1.lt).range⟩)
  refine wpIn_region_till (fun w' : World => (w'.cell? ⟨B2, 0, none⟩ = some (.int .i64 lo) ∧ w'.cell? ⟨B2, 1, none⟩ = some (.int .i64 hi) ∧ w'.cell? ⟨B2, 2, none⟩ = some (.slice am ms.length cm) ∧ w'.cell? ⟨B2, 3, none⟩ = some v2) ∧ w'.rangeAt B1 0 (#[.int .i64 s.days, .slice d.a1 s.arts.length d.c1, .slice d.a2 s.ovens.length d.c2, .slice d.a3 s.mks.length d.c3, .slice d.a4 s.jobs.length d.c4, .slice d.a5 s.cols.length d.c5, .slice d.a6 s.ods.length d.c6, v7]).toList) 4 (by kernel_rfl) (by kernel_rfl) (fun ⟨_, _, h⟩ => by cases h.1) (HSV.out _ D0) (fun hHeld => ?_)
  generalize W.drew = wd at *
  refine Till.take 0 (some 4) (v := .agg #[.int .i64 s.days, .slice d.a1 s.arts.length d.c1, .slice d.a2 s.ovens.length d.c2, .slice d.a3 s.mks.length d.c3, .slice d.a4 s.jobs.length d.c4, .slice d.a5 s.cols.length d.c5, .slice d.a6 s.ods.length d.c6, v7]) rfl rfl (by kernel_rfl) (by kernel_rfl) (by kernel_rfl) (by kernel_rfl) (fun _ _ _ h => h) (yieldsIf_load_mid rfl 63 (Operand.tmp 1) rfl B1 0 rfl (#[.int .i64 s.days, .slice d.a1 s.arts.length d.c1, .slice d.a2 s.ovens.length d.c2, .slice d.a3 s.mks.length d.c3, .slice d.a4 s.jobs.length d.c4, .slice d.a5 s.cols.length d.c5, .slice d.a6 s.ods.length d.c6, v7]).toList _ (fun _ h => h.2) Try.underlying63 rfl (by rw [sz_works]; rfl)) (by assumption) ?_
  try simp only [Act.put, List.setIfInBounds_toArray, List.set_cons_zero, List.set_cons_succ]
  refine Till.take 1 (some 5) (v := ?_) rfl rfl (by kernel_rfl) (by kernel_rfl) (by kernel_rfl) (by kernel_rfl) (fun _ _ _ h => h) (Or.inl ⟨by rfl, ?_⟩) (by assumption) ?_
  rotate_left
  · (intro w hSw; (try dsimp only at hSw); go_simp; try with_reducible rfl)
  try simp only [Act.put, List.setIfInBounds_toArray, List.set_cons_zero, List.set_cons_succ]
  refine Till.take 3 (some 7) (v := ?_) rfl rfl (by kernel_rfl) (by kernel_rfl) (by kernel_rfl) (by kernel_rfl) (fun _ _ _ h => h) (Or.inl ⟨by rfl, ?_⟩) (by assumption) ?_
  rotate_left
  · (intro w hSw; (try dsimp only at hSw); go_simp; try with_reducible rfl)
  try simp only [Act.put, List.setIfInBounds_toArray, List.set_cons_zero, List.set_cons_succ]
  refine Till.one 2 rfl (by kernel_rfl) (fun K hK => ?_)
  go_simp
  go_at_call 79
  refine (idle_any _).mono ?_
  rintro e X1 ⟨rfl, hb1⟩
  have D1 := D0.trans (hb1.mono D0.size)
  have hh1 := HSV.out _ D1
  refine hK.out _ _ (fun _ => hh1) (fun hHeld1 => ?_)
  clear hK K hb1
  try simp only [Act.put, List.setIfInBounds_toArray, List.set_cons_zero, List.set_cons_succ]
  refine Till.one 4 rfl (by kernel_rfl) (fun K hK => ?_)
  go_simp
  go_at_call 78
  have hB1 : BelS S w.heap.size w X1 := hW.trans (BelS.of_below (D1.mono hWs))
  have hj1 := ownf_below (hJ none) h0 D1
  have hind : ∀ (rest : List Int) (first : Nat) (c : List Int) (base : Nat) (r : Option Nat) (W1 : World) (n : Nat), ms.drop first = rest → first ≤ ms.length → CrOk s c → BelS S w.heap.size w W1 → W.heap.size ≤ W1.heap.size → J r base W1 → Hid (∀ j x, (tellL s lo hi ms rest c)[j]? = some x → (encT s lo hi ms)[base + j]? = some #[.agg (crC x)]) →
      CallsIn Fence.wide n Try.prog 78 #[.agg #[.int .i64 s.days, .slice d.a1 s.arts.length d.c1, .slice d.a2 s.ovens.length d.c2, .slice d.a3 s.mks.length d.c3, .slice d.a4 s.jobs.length d.c4, .slice d.a5 s.cols.length d.c5, .slice d.a6 s.ods.length d.c6, v7], .agg #[.int .i64 lo, .int .i64 hi, .slice am ms.length cm, v2], .int .i64 first, .agg (crC c), .func (.yield l) #[] #[]] W1 (TellR S J Jx W base (tellL s lo hi ms rest c).length r W1) := by
    intro rest
    induction rest with
    | nil => exact tell_nil S s d v7 lo hi am cm ms v2 w hs ok hr hm hl6 hS l J Jx W hWs (encT s lo hi ms) hJ hJr hJT hY2
    | cons m rest ih => exact tell_cons S s d v7 lo hi am cm ms v2 w hs ok hr hm hl6 hS l J Jx W hWs (encT s lo hi ms) hJ hJr hJT hY2 m rest ih
  have hcall := callsIn_wide.1 (hind ms 0 idleC 0 none X1 0 rfl (Nat.zero_le _) (CrOk.idle s) hB1 D1.size hj1 (Lib.hid (fun j x hx => by rw [Nat.zero_add]; unfold encT; rw [List.getElem?_map, hx]; rfl)))
  refine hcall.mono ?_
  have hel : (encT s lo hi ms).length = (tellL s lo hi ms ms idleC).length := by unfold encT; rw [List.length_map]
  rintro e X2 (⟨rfl, ⟨r', -, hj2⟩, hb2⟩ | ⟨rfl, hx, hk⟩)
  · have HL : Hid ((∃ r, J r (encT s lo hi ms).length X2) ∨ Jx X2) := Lib.hid (.inl ⟨r', by rw [hel]; simpa using hj2⟩)
    refine hK.out _ _ (fun h => absurd rfl h) (fun _ => ?_)
    clear hK K hj2 hb2 hcall hind
    try simp only [Act.put, List.setIfInBounds_toArray, List.set_cons_zero, List.set_cons_succ]
    refine Till.done (by kernel_rfl) ?_ _
    gi_wp2
    go_end0
    exact ⟨rfl, by have h := HL.out; rw [hel] at h; exact h⟩
  · have HL : Hid ((∃ r, J r (encT s lo hi ms).length X2) ∨ Jx X2) := Lib.hid (.inr hx)
    refine hK.out _ _ (fun h => absurd rfl h) (fun _ => ?_)
    clear hK K hx hk hcall hind
    try simp only [Act.put, List.setIfInBounds_toArray, List.set_cons_zero, List.set_cons_succ]
    refine Till.done (by kernel_rfl) ?_ _
    gi_wp2
    go_end0
    exact ⟨rfl, by have h := HL.out; rw [hel] at h; exact h⟩
end Go.Proofs.Ytdffhkbncencgaa
