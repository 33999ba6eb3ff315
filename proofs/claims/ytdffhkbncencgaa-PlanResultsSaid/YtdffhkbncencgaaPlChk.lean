/- The program's Check; two lists of lists compared by the laws: SameLists; no statement is proved here. -/
import Derived.Test.YtdffhkbncencgaaPlWorks
import Derived.Test.YtdffhkbncencgaaPlSim
import Derived.Deep.QuietTactic
import Derived.BigQuiet
namespace Go.Proofs.Ytdffhkbncencgaa
open Go.RowKit Go.PlainAid
set_option linter.unusedVariables false
set_option linter.unusedSimpArgs false

set_option maxHeartbeats 8000000 in
set_option maxRecDepth 100000 in
theorem Check_any (s : Sn) (d : SA) (w : World) (h : SnD w s d) : Calls Try.prog 16 #[.agg #[.int .i64 s.days, .slice d.a1 s.arts.length d.c1, .slice d.a2 s.ovens.length d.c2, .slice d.a3 s.mks.length d.c3, .slice d.a4 s.jobs.length d.c4, .slice d.a5 s.cols.length d.c5, .slice d.a6 s.ods.length d.c6]] w fun e w' => e = .returned (.int .i64 (worksE s)) ∧ Below w.heap.size w w' := by
  have hA := below_box w (.cells #[.int .i64 s.days, .slice d.a1 s.arts.length d.c1, .slice d.a2 s.ovens.length d.c2, .slice d.a3 s.mks.length d.c3, .slice d.a4 s.jobs.length d.c4, .slice d.a5 s.cols.length d.c5, .slice d.a6 s.ods.length d.c6] 28)
  have h0 := Blk.new w #[.int .i64 s.days, .slice d.a1 s.arts.length d.c1, .slice d.a2 s.ovens.length d.c2, .slice d.a3 s.mks.length d.c3, .slice d.a4 s.jobs.length d.c4, .slice d.a5 s.cols.length d.c5, .slice d.a6 s.ods.length d.c6] 28
  go_enter Try.func16, Try.ntmps16
  go_wp2_with fail
  generalize hWe : w.alloc (.cells #[.int .i64 s.days, .slice d.a1 s.arts.length d.c1, .slice d.a2 s.ovens.length d.c2, .slice d.a3 s.mks.length d.c3, .slice d.a4 s.jobs.length d.c4, .slice d.a5 s.cols.length d.c5, .slice d.a6 s.ods.length d.c6] 28) = W at *
  refine (worksOf_any s d W (h.mono (ext_of_below hA))).mono ?_
  rintro e W1 ⟨hr, hb1⟩
  have hA1 := hA.trans (hb1.mono hA.size)
  replace h0 := h0.below hb1 h0.lt
  rcases hr with ⟨hE, rfl⟩ | ⟨hE, v7, rfl, ho⟩
  · generalize hre : worksE s = r at *
    have HRE := Lib.hid hre
    clear hre
    have hr : (r != 0) = true := by simpa using hE
    have HB2 := Lib.hid (hA1.alloc hA1.size (.cells #[.int .i64 0, .slice none 0 0, .slice none 0 0, .slice none 0 0, .slice none 0 0, .slice none 0 0, .slice none 0 0, .slice none 0 0] 63))
    clear h hb1 hA h0 hA1 hE hWe
    go_wp2
    go_ret
    exact ⟨by rw [HRE.out]; rfl, HB2.out⟩
  · obtain ⟨a7, c7, rfl⟩ := ho.shape
    have gA := Lib.hid (hA1.alloc hA1.size (.cells #[.int .i64 s.days, .slice d.a1 s.arts.length d.c1, .slice d.a2 s.ovens.length d.c2, .slice d.a3 s.mks.length d.c3, .slice d.a4 s.jobs.length d.c4, .slice d.a5 s.cols.length d.c5, .slice d.a6 s.ods.length d.c6, .slice a7 (ovL s).length c7] 63))
    have HE := Lib.hid hE
    clear hb1 hA h0 hA1 ho hE h
    go_wp2
    go_ret
    exact ⟨by rw [HE.out]; rfl, gA.out⟩

theorem dropL_eq_at {a b : List (List Int)} {k : Nat} (h1 : k < a.length) (h2 : k < b.length) : a.drop k = b.drop k ↔ a[k] = b[k] ∧ a.drop (k + 1) = b.drop (k + 1) := by
  rw [List.drop_eq_getElem_cons h1, List.drop_eq_getElem_cons h2, List.cons_eq_cons]
set_option maxHeartbeats 8000000 in
set_option maxRecDepth 100000 in
theorem sameLists_any (v1 v2 : Value) (a b : List (List Int)) (w : World) (h1 : RRows w v1 a) (h2 : RRows w v2 b) : Calls Try.prog 18 #[v1, v2] w (BoolD (decide (a = b)) w) := by
  obtain ⟨pa, ka, rfl, -, ⟨-, la⟩, hal⟩ := h1
  obtain ⟨pb, kb, rfl, -, ⟨-, lb⟩, hbl⟩ := h2
  by_cases hl : a.length = b.length
  case neg =>
    have HP : Hid (decide (a = b) = false) := Lib.hid (decide_eq_false (fun e => hl (by rw [e])))
    have hq : ((a.length : Int) != (b.length : Int)) = true := by simp; omega
    clear hal hbl
    generalize a.length = la at *
    generalize b.length = lb at *
    go_enter Try.func18, Try.ntmps18
    go_wp2
    go_ret
    exact ⟨by rw [HP.out]; rfl, 0, rfl⟩
  have hq : ((a.length : Int) != (b.length : Int)) = false := by simp; omega
  have HL := Lib.hid hl
  obtain ⟨lbn, hlb⟩ : ∃ n, b.length = n := ⟨_, rfl⟩
  have HLB := Lib.hid hlb
  rw [hlb] at hq
  rw [show (Value.slice pb b.length kb) = .slice pb lbn kb by rw [hlb]]
  clear hl hlb
  go_enter Try.func18, Try.ntmps18
  go_wp2
  go_loopw [5] (fun i wr => ∃ (k n : Nat), k ≤ a.length ∧ i = .int .i64 k ∧ Hid (wr = w.drewN n) ∧ Hid (decide (a = b) = decide (a.drop k = b.drop k))) (fun i _ => a.length - (intOf i).toNat)
  case atStart => exact ⟨0, 0, Nat.zero_le _, rfl, Lib.hid rfl, Lib.hid (by simp)⟩
  case round =>
    obtain ⟨k, n, hk, rfl, hw, hd⟩ := hrel
    by_cases hlt : k < a.length
    · have hlt2 : k < b.length := by rw [← HL.out]; exact hlt
      obtain ⟨b1, o1, rfl, vx, q1, r1⟩ := hal k hlt
      obtain ⟨b2, o2, rfl, vy, q2, r2⟩ := hbl k hlt2
      simp only [Nat.mul_one] at q1 q2
      have hbw : Below w.heap.size w wr := by rw [hw.out]; exact below_drewN (Below.refl _ _) _
      replace q1 := ext_of_below hbw _ _ q1
      replace q2 := ext_of_below hbw _ _ q2
      have j1 : (0 : Int) ≤ (k : Int) := Int.natCast_nonneg _
      have j2 : (k : Int) < (a.length : Int) := by omega
      have j3 : (k : Int) < (lbn : Int) := by have := HL.out; have := HLB.out; omega
      have hda := dropL_eq_at hlt hlt2
      have hd0 := hd.out
      have hC : ∀ m, Calls Try.prog 27 #[vx, vy] (wr.drewN m) fun e w' => e = .returned (.bool (decide (a[k] = b[k]))) ∧ ∃ q, w' = (wr.drewN m).drewN q := fun m => sameInts_any vx vy _ _ _ (r1.mono (ext_of_below (below_drewN hbw m))) (r2.mono (ext_of_below (below_drewN hbw m)))
      clear hal hbl hd r1 r2 hbw
      generalize a[k] = x at *
      generalize b[k] = y at *
      by_cases hxy : x = y
      · subst hxy
        have HD : Hid (decide (a = b) = decide (a.drop (k + 1) = b.drop (k + 1))) := Lib.hid (by rw [hd0]; simp only [hda, true_and])
        simp only [decide_true] at hC
        have HC := Lib.hid hC
        clear hda hd0 hC
        go_wp2_with fail
        go_quiet ((go_at_call 27; exact Calls.quiet_of (HC.out _)))
        go_wp2
        go_roundw
        case rel => exact ⟨k + 1, _, by omega, by go_num, Lib.hid (by rw [hw.out]; exact World.drewN_drewN _ _ _), HD⟩
        case measure => simp [intOf]; omega
      · have HD : Hid (decide (a = b) = false) := Lib.hid (by rw [hd0]; exact decide_eq_false (fun e => hxy (hda.1 e).1))
        simp only [decide_eq_false hxy] at hC
        have HC := Lib.hid hC
        clear hda hd0 hC hxy
        go_wp2_with fail
        go_quiet ((go_at_call 27; exact Calls.quiet_of (HC.out _)))
        go_wp2
        go_ret
        exact ⟨by rw [HD.out]; rfl, _, by rw [hw.out]; exact World.drewN_drewN _ _ _⟩
    · obtain rfl : k = a.length := by omega
      have HD : Hid (decide (a = b) = true) := Lib.hid (by rw [hd.out, HL.out, List.drop_length, ← HL.out, List.drop_length]; simp)
      clear hal hbl hd
      go_wp2
      go_ret
      exact ⟨by rw [HD.out]; rfl, n, hw.out⟩
end Go.Proofs.Ytdffhkbncencgaa
