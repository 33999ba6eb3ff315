/- Whether a list of crews holds a crew: slices.Index and slices.Contains at that type; no statement is proved here. -/
import Derived.Test.YtdffhkbncencgaaPlMarks
namespace Go.Proofs.Ytdffhkbncencgaa
open Go.RowKit Go.PlainAid
set_option linter.unusedVariables false
set_option linter.unusedSimpArgs false

/-- two crews are the same, as the language compares them. -/
def crEq (c x : List Int) : Bool := g c 0 == g x 0 && (g c 1 == g x 1 && (g c 2 == g x 2 && (g c 3 == g x 3 && (g c 4 == g x 4 && g c 5 == g x 5))))
theorem sz_i64 : (Try.prog.info? 3).map (·.size) = some 1 := by kernel_rfl
theorem run_eq_crew (c x : List Int) (W : World) : (Op.equalIn 10000 71 (.agg #[.int .i64 (g c 0), .int .i64 (g c 1), .int .i64 (g c 2), .int .i64 (g c 3), .int .i64 (g c 4), .int .i64 (g c 5)]) (.agg #[.int .i64 (g x 0), .int .i64 (g x 1), .int .i64 (g x 2), .int .i64 (g x 3), .int .i64 (g x 4), .int .i64 (g x 5)])).run Try.prog W = .ok (crEq c x) W := by
  obtain ⟨i, hi, hz⟩ := Option.map_eq_some_iff.1 sz_i64
  rw [show (10000 : Nat) = 9999 + 1 from rfl, Op.equalIn]
  unfold crEq
  generalize g c 0 = c0, g c 1 = c1, g c 2 = c2, g c 3 = c3, g c 4 = c4, g c 5 = c5
  simp [go_sem, Try.underlying71, List.range', hi, hz]
  by_cases h0 : c0 = g x 0 <;> by_cases h1 : c1 = g x 1 <;> by_cases h2 : c2 = g x 2 <;> by_cases h3 : c3 = g x 3 <;> by_cases h4 : c4 = g x 4 <;> by_cases h5 : c5 = g x 5 <;> simp [h0, h1, h2, h3, h4, h5]

def IdxC (w : World) (l : List (List Int)) (c : List Int) (e : Ending) (w' : World) : Prop := ∃ i : Int, e = .returned (.int .i64 i) ∧ (0 ≤ i ↔ l.any (crEq c) = true) ∧ (-1 ≤ i ∧ i ≤ l.length) ∧ Below w.heap.size w w'

attribute [local go_sem] run_eq_crew
set_option maxHeartbeats 4000000 in
set_option maxRecDepth 100000 in
theorem idxCrew_any (v : Value) (l : List (List Int)) (c : List Int) (w : World) (hv : RCrs w v l) : Calls Try.prog 82 #[v, .agg (crC c)] w (IdxC w l c) := by
  obtain ⟨a, cap, rfl, -, ⟨-, hm⟩, hl⟩ := hv
  unfold crC
  go_enter Try.func82, Try.ntmps82
  have h0 := Blk.new w (crC c) 71
  have hb0 := below_box w (.cells (crC c) 71)
  unfold crC at h0 hb0
  go_wp2
  go_loopw [8] (fun i wr => ∃ k : Nat, k ≤ l.length ∧ i = .int .i64 k ∧ Hid (∀ j (h : j < l.length), j < k → crEq c l[j] = false) ∧ Blk wr w.heap.size #[.int .i64 (g c 0), .int .i64 (g c 1), .int .i64 (g c 2), .int .i64 (g c 3), .int .i64 (g c 4), .int .i64 (g c 5)] 71 ∧ Below w.heap.size w wr) (fun i _ => l.length - (intOf i).toNat)
  case atStart => exact ⟨0, Nat.zero_le _, rfl, fun j _ h => absurd h (by omega), h0, hb0⟩
  case round =>
    obtain ⟨k, hk, rfl, hno, hX, hB⟩ := hrel
    by_cases hlt : k < l.length
    · obtain ⟨b1, o1, rfl, -, q0⟩ := hl k hlt
      have x0 := hX.cell 0 _ rfl
      have x1 := hX.cell 1 _ rfl
      have x2 := hX.cell 2 _ rfl
      have x3 := hX.cell 3 _ rfl
      have x4 := hX.cell 4 _ rfl
      have x5 := hX.cell 5 _ rfl
      have k0 := ext_of_below hB _ _ (q0 0 (by omega))
      have k1 := ext_of_below hB _ _ (q0 1 (by omega))
      have k2 := ext_of_below hB _ _ (q0 2 (by omega))
      have k3 := ext_of_below hB _ _ (q0 3 (by omega))
      have k4 := ext_of_below hB _ _ (q0 4 (by omega))
      have k5 := ext_of_below hB _ _ (q0 5 (by omega))
      simp only [Nat.add_zero] at k0
      have i1 : (0 : Int) ≤ (k : Int) := Int.natCast_nonneg _
      have i2 : (k : Int) < (l.length : Int) := by omega
      have HK : Hid (∀ r, crEq c l[k] = r → r = false → ∀ j (h : j < l.length), j < k + 1 → crEq c l[j] = false) := Lib.hid (fun r h1 h2 j hj hjk => by
        by_cases e : j = k
        · subst e; rw [h1, h2]
        · exact hno.out j hj (by omega))
      have HY : Hid (crEq c l[k] = true → l.any (crEq c) = true) := Lib.hid (fun hp => List.any_eq_true.2 ⟨l[k], List.getElem_mem hlt, hp⟩)
      clear hl q0 h0 hb0 hno
      generalize l[k] = x at *
      have HB := Lib.hid hB
      have HX := Lib.hid hX
      clear hB hX
      cases hp : crEq c x with
      | true =>
        have HY2 := Lib.hid (HY.out hp)
        clear HK HY
        go_wp2
        go_quiet (fail)
        go_wp2
        go_ret
        exact ⟨k, rfl, ⟨fun _ => HY2.out, fun _ => by omega⟩, ⟨by omega, by omega⟩, bdrewN HB.out⟩
      | false =>
        have HN := Lib.hid (HK.out _ hp rfl)
        clear HK HY
        go_wp2
        go_quiet (fail)
        go_wp2
        go_roundw
        case rel => exact ⟨k + 1, by omega, by go_num, HN, by have := HX.out; unfold Blk at this ⊢; simpa using this, bdrewN HB.out⟩
        case measure => simp [intOf]; omega
    · obtain rfl : k = l.length := by omega
      have HN : Hid (l.any (crEq c) = false) := Lib.hid (by
        rw [List.any_eq_false]
        intro x hx
        obtain ⟨j, hj, rfl⟩ := List.getElem_of_mem hx
        rw [hno.out j hj hj]
        decide)
      have HB := Lib.hid hB
      clear hl hB hno hX h0 hb0
      go_wp2
      go_ret
      exact ⟨-1, rfl, ⟨fun h => by omega, fun h => by rw [HN.out] at h; cases h⟩, ⟨by omega, by omega⟩, HB.out⟩
def ContC (w : World) (l : List (List Int)) (c : List Int) (e : Ending) (w' : World) : Prop := e = .returned (.bool (l.any (crEq c))) ∧ Below w.heap.size w w'
set_option maxHeartbeats 4000000 in
set_option maxRecDepth 100000 in
theorem contCrew_any (v : Value) (l : List (List Int)) (c : List Int) (w : World) (hv : RCrs w v l) : Calls Try.prog 61 #[v, .agg (crC c)] w (ContC w l c) := by
  have h0 := Blk.new w (crC c) 71
  have hb0 := below_box w (.cells (crC c) 71)
  have hi := idxCrew_any v l c _ (hv.mono (ext_of_below hb0))
  obtain ⟨a, cap, rfl, -, ⟨-, hm⟩, hl⟩ := hv
  clear hl
  unfold crC at h0 hb0 hi ⊢
  go_enter Try.func61, Try.ntmps61
  have x0 := h0.cell 0 _ rfl
  have x1 := h0.cell 1 _ rfl
  have x2 := h0.cell 2 _ rfl
  have x3 := h0.cell 3 _ rfl
  have x4 := h0.cell 4 _ rfl
  have x5 := h0.cell 5 _ rfl
  go_wp2_with fail
  refine hi.mono ?_
  rintro e w1 ⟨n, rfl, hn, hnm, hb⟩
  have HN := Lib.hid hn
  have HB := Lib.hid (hb0.trans (hb.mono hb0.size))
  clear hi hn hb h0 hb0 x0 x1 x2 x3 x4 x5
  by_cases h0 : 0 ≤ n
  · go_wp2
    go_ret
    exact ⟨ret_bool (HN.out.1 h0).symm, HB.out⟩
  · have HF : Hid (l.any (crEq c) = false) := Lib.hid (by cases h : l.any (crEq c) with | false => rfl | true => exact absurd (HN.out.2 h) h0)
    go_wp2
    go_ret
    exact ⟨ret_bool (by rw [HF.out]; simpa using h0), HB.out⟩
end Go.Proofs.Ytdffhkbncencgaa
