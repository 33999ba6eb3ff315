/- Euclid's way to the lowest terms, by the program and by the specification; no statement is proved here. -/
import Derived.Test.YtmmlocjiegkjeaaGreatDoorSRef
import Derived.Test.YtmmlocjiegkjeaaGreatDoorLeM
import Derived.BigQuiet
import Derived.StillTailTactics
namespace Go.Proofs.YtmmlocjiegkjeaaGreatDoor
open Go.RowKit Go.PlainAid
set_option linter.unusedVariables false
set_option linter.unusedSimpArgs false
theorem below_drewN6 {B n : Nat} {a w : World} (h : Below B a w) : Below B a (w.drewN n) := ⟨h.os, h.tape, h.output, h.size, h.block⟩
theorem blk_drewN6 {k n : Nat} {cs : Array Value} {t : TypeId} {w : World} (h : Blk w k cs t) : Blk (w.drewN n) k cs t := h

def EucI (n d a b : Int) : Prop := (0 ≤ a ∧ a ≤ 10000) ∧ (0 ≤ b ∧ b ≤ 10000) ∧ Nat.gcd a.toNat b.toNat = Nat.gcd n.toNat d.toNat

theorem quo_low {n a : Int} (hn : 0 ≤ n ∧ n ≤ 10000) (ha : 1 ≤ a) : wrap64 (n.tdiv a) = n / a := by
  rw [Int.tdiv_eq_ediv_of_nonneg hn.1]
  have h1 := Int.ediv_nonneg hn.1 (show 0 ≤ a by omega)
  have h2 := Int.ediv_le_self a hn.1
  exact wrap_id _ (by unfold I64; omega)

set_option maxHeartbeats 1000000 in
set_option maxRecDepth 100000 in
theorem rlowest_any (n d : Int) (w : World) (hq : QOk (n, d)) :
    Calls Tryz.prog 56 #[.int .i64 n, .int .i64 d] w fun e w' => e = .returned (.agg #[.int .i64 (lowQ (n, d)).1, .int .i64 (lowQ (n, d)).2]) ∧ Below w.heap.size w w' := by
  have hA := below_boxS w (.cells #[.int .i64 0, .int .i64 0] 78)
  have hB := Blk.new w #[.int .i64 0, .int .i64 0] 78
  obtain ⟨n1, n2, d1, d2⟩ := hq
  simp only at n1 n2 d1 d2
  have hl := lowQ_ok (q := (n, d)) n1 d1
  go_enter Tryz.func56, Tryz.ntmps56
  go_wp2
  generalize w.alloc (.cells #[.int .i64 0, .int .i64 0] 78) = W0 at *
  go_loopw [5, 6] (fun va vb wr => ∃ (a b : Int), va = .int .i64 a ∧ vb = .int .i64 b ∧ Hid (EucI n d a b) ∧ Blk wr w.heap.size #[.int .i64 0, .int .i64 0] 78 ∧ Below w.heap.size w wr) (fun _ b _ => (intOf b).toNat)
  case atStart => exact ⟨n, d, rfl, rfl, ⟨by omega, by omega, rfl⟩, hB, hA⟩
  case round =>
    obtain ⟨a, b, rfl, rfl, hg, hBr, hb⟩ := hrel
    obtain ⟨g1, g2, g3⟩ := hg.out
    clear hB hA
    by_cases hb0 : b = 0
    · subst hb0
      have ha : a = gq (n, d) := euc_end g1.1 g3
      have hag := hl.g1
      rw [← ha] at hag
      have hne : ¬ a = 0 := by omega
      have q1 := quo_low (n := n) (a := a) ⟨n1, n2⟩ hag
      have q2 := quo_low (n := d) (a := a) (by omega) hag
      have e1 : n / a = (lowQ (n, d)).1 := by rw [ha]; rfl
      have e2 : d / a = (lowQ (n, d)).2 := by rw [ha]; rfl
      rw [e1] at q1
      rw [e2] at q2
      have HE := Lib.hid e1
      clear e1 e2 ha hg g1 g2 g3 hl hag
      have c0 := hBr.cell 0 _ rfl
      have c1 := hBr.cell 1 _ rfl
      have f0 := hBr.frozen 0
      have f1 := hBr.frozen 1
      have HF : Hid (Blk ((wr.setCell ⟨w.heap.size, 0, none⟩ (.int .i64 (wrap64 (n.tdiv a)))).setCell ⟨w.heap.size, 1, none⟩ (.int .i64 (wrap64 (d.tdiv a)))).drew w.heap.size #[.int .i64 (wrap64 (n.tdiv a)), .int .i64 (wrap64 (d.tdiv a))] 78) := Lib.hid (by
        have := (hBr.set 0 (.int .i64 (wrap64 (n.tdiv a)))).set 1 (.int .i64 (wrap64 (d.tdiv a)))
        have h2 : Blk ((wr.setCell ⟨w.heap.size, 0, none⟩ (.int .i64 (wrap64 (n.tdiv a)))).setCell ⟨w.heap.size, 1, none⟩ (.int .i64 (wrap64 (d.tdiv a)))) w.heap.size #[.int .i64 (wrap64 (n.tdiv a)), .int .i64 (wrap64 (d.tdiv a))] 78 := by simpa using this
        exact h2)
      have HB : Hid (Below w.heap.size w ((wr.setCell ⟨w.heap.size, 0, none⟩ (.int .i64 (wrap64 (n.tdiv a)))).setCell ⟨w.heap.size, 1, none⟩ (.int .i64 (wrap64 (d.tdiv a)))).drew) := Lib.hid ((hb.setCell (p := ⟨w.heap.size, 0, none⟩) (by simp) (.int .i64 (wrap64 (n.tdiv a)))).setCell (p := ⟨w.heap.size, 1, none⟩) (by simp) (.int .i64 (wrap64 (d.tdiv a)))).drew
      have Q1 := Lib.hid q1
      have Q2 := Lib.hid q2
      clear hBr hb q1 q2
      go_wp2_with fail
      go_still_tail 7, (by kernel_rfl)
      go_wp2
      generalize ((wr.setCell ⟨w.heap.size, 0, none⟩ (.int .i64 (wrap64 (n.tdiv a)))).setCell ⟨w.heap.size, 1, none⟩ (.int .i64 (wrap64 (d.tdiv a)))).drew = F at *
      have r0 := HF.out.cell 0 _ rfl
      have r1 := HF.out.cell 1 _ rfl
      refine ⟨rfl, .agg #[.int .i64 (wrap64 (n.tdiv a)), .int .i64 (wrap64 (d.tdiv a))], ?_, by rw [Q1.out, Q2.out], HB.out⟩
      simp only [List.getElem_toArray, List.getElem_cons_zero, List.getElem_cons_succ] at r0 r1
      simp [results, Tryz.results56, go_sem, r0, r1]
    · have hbb : (b != 0) = true := by simpa using hb0
      obtain ⟨s1, s2, s3, s4⟩ := euc_step (a := a) (b := b) (by omega) (by omega)
      have HN : Hid (EucI n d b (a % b)) := Lib.hid ⟨by omega, by omega, by rw [s4]; exact g3⟩
      go_wp2_with fail
      go_quiet (fail)
      go_wp2
      go_roundw
      case rel => exact ⟨b, a % b, rfl, rfl, HN, blk_drewN6 hBr, below_drewN6 hb⟩
      case measure => simp [intOf, s1]; omega

end Go.Proofs.YtmmlocjiegkjeaaGreatDoor
