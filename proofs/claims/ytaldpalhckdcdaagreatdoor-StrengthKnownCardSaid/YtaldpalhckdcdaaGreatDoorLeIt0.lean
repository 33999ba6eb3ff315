/- Euclid's way to the lowest terms, by the program and by the specification; no statement is proved here. -/
import Derived.Test.YtaldpalhckdcdaaGreatDoorSRef
import Derived.Test.YtaldpalhckdcdaaGreatDoorLeM
import Derived.BigQuiet
import Derived.StillTailTactics
import Derived.Test.YtaldpalhckdcdaaGreatDoorRingIt
namespace Go.Proofs.YtaldpalhckdcdaaGreatDoor
open Go.RowKit Go.PlainAid
set_option linter.unusedVariables false
set_option linter.unusedSimpArgs false
theorem below_drewN6 {B n : Nat} {a w : World} (h : Below B a w) : Below B a (w.drewN n) := ⟨h.os, h.tape, h.output, h.size, h.block⟩
theorem blk_drewN6 {k n : Nat} {cs : Array Value} {t : TypeId} {w : World} (h : Blk w k cs t) : Blk (w.drewN n) k cs t := h

def EucI (n d a b : Int) : Prop := (0 ≤ a ∧ a ≤ 10000) ∧ (0 ≤ b ∧ b ≤ 10000) ∧ Nat.gcd a.toNat b.toNat = Nat.gcd n.toNat d.toNat

theorem quo_low {n a : Int} (hn : 0 ≤ n ∧ n ≤ 10000) (ha : 1 ≤ a) : wrap64 (n.tdiv a) = n / a := by
  rw [Int.tdiv_eq_ediv_of_nonneg hn.1]
  have h1 := Int.ediv_nonneg hn.1 (show 0 ≤ a by omega)
  have h2 := Int.ediv_le_self a hn.1
  exact wrap_id _ (by unfold I64; omega)

set_option maxHeartbeats 1000000 in
set_option maxRecDepth 100000 in
theorem ratio_any (n d : Int) (w : World) (hq : QOk (n, d)) :
    Calls Tryz.prog 46 #[.agg #[.int .i64 n, .int .i64 d]] w fun e w' => e = .returned (.agg #[.int .i64 (lowQ (n, d)).1, .int .i64 (lowQ (n, d)).2]) ∧ Below w.heap.size w w' := by
  have hA : Below w.heap.size w ((w.alloc (.cells #[.int .i64 n, .int .i64 d] 96)).alloc (.cells #[.int .i64 0, .int .i64 0] 47)) := (below_boxS w _).alloc (by simp) _
  have hX := (Blk.new w #[.int .i64 n, .int .i64 d] 96).alloc (.cells #[.int .i64 0, .int .i64 0] 47)
  have hB := Blk.new (w.alloc (.cells #[.int .i64 n, .int .i64 d] 96)) #[.int .i64 0, .int .i64 0] 47
  rw [World.size_alloc] at hB
  obtain ⟨n1, n2, d1, d2⟩ := hq
  simp only at n1 n2 d1 d2
  have hl := lowQ_ok (q := (n, d)) n1 d1
  go_enter Tryz.func46, Tryz.ntmps46
  go_wp2_with fail
  generalize (w.alloc (.cells #[.int .i64 n, .int .i64 d] 96)).alloc (.cells #[.int .i64 0, .int .i64 0] 47) = W0 at *
  have x0 := hX.cell 0 _ rfl
  have x1 := hX.cell 1 _ rfl
  go_quiet (fail)
  have hX1 := blk_drewN6 (n := nq) hX
  have hB1 := blk_drewN6 (n := nq) hB
  have hA1 := below_drewN6 (n := nq) hA
  generalize W0.drewN nq = W1 at *
  clear x0 x1 hX hB hA
  go_wp2
  go_loopw [3, 4] (fun va vb wr => ∃ (a b : Int), va = .int .i64 a ∧ vb = .int .i64 b ∧ Hid (EucI n d a b) ∧ Blk wr w.heap.size #[.int .i64 n, .int .i64 d] 96 ∧ Blk wr (w.heap.size + 1) #[.int .i64 0, .int .i64 0] 47 ∧ Below w.heap.size w wr) (fun _ b _ => (intOf b).toNat)
  case atStart => exact ⟨n, d, rfl, rfl, ⟨by omega, by omega, rfl⟩, hX1, hB1, hA1⟩
  case round =>
    obtain ⟨a, b, rfl, rfl, hg, hXr, hBr, hb⟩ := hrel
    obtain ⟨g1, g2, g3⟩ := hg.out
    clear hX1 hB1 hA1
    by_cases hb0 : b = 0
    · subst hb0
      have ha : a = gq (n, d) := euc_end g1.1 g3
      have hag := hl.g1
      rw [← ha] at hag
      have hne : ¬ a = 0 := by omega
      have q1 := quo_low (n := n) (a := a) ⟨n1, n2⟩ hag
      have q2 := quo_low (n := d) (a := a) (by omega) hag
      have e1 : n / a = (lowQ (n, d)).1 := by rw [ha]; rfl
      have e2 : d / a = (lowQ (n, d)).2 := by rw [ha]; rfl
      rw [e1] at q1
      rw [e2] at q2
      clear e1 e2 ha hg g1 g2 g3 hl hag
      have x0 := hXr.cell 0 _ rfl
      have x1 := hXr.cell 1 _ rfl
      have c0 := hBr.cell 0 _ rfl
      have c1 := hBr.cell 1 _ rfl
      have f0 := hBr.frozen 0
      have f1 := hBr.frozen 1
      have HF : Hid (Blk ((wr.setCell ⟨w.heap.size + 1, 0, none⟩ (.int .i64 (wrap64 (n.tdiv a)))).setCell ⟨w.heap.size + 1, 1, none⟩ (.int .i64 (wrap64 (d.tdiv a)))).drew (w.heap.size + 1) #[.int .i64 (wrap64 (n.tdiv a)), .int .i64 (wrap64 (d.tdiv a))] 47) := Lib.hid (by
        have := (hBr.set 0 (.int .i64 (wrap64 (n.tdiv a)))).set 1 (.int .i64 (wrap64 (d.tdiv a)))
        have h2 : Blk ((wr.setCell ⟨w.heap.size + 1, 0, none⟩ (.int .i64 (wrap64 (n.tdiv a)))).setCell ⟨w.heap.size + 1, 1, none⟩ (.int .i64 (wrap64 (d.tdiv a)))) (w.heap.size + 1) #[.int .i64 (wrap64 (n.tdiv a)), .int .i64 (wrap64 (d.tdiv a))] 47 := by simpa using this
        exact h2)
      have HB : Hid (Below w.heap.size w ((wr.setCell ⟨w.heap.size + 1, 0, none⟩ (.int .i64 (wrap64 (n.tdiv a)))).setCell ⟨w.heap.size + 1, 1, none⟩ (.int .i64 (wrap64 (d.tdiv a)))).drew) := Lib.hid ((hb.setCell (p := ⟨w.heap.size + 1, 0, none⟩) (by simp) (.int .i64 (wrap64 (n.tdiv a)))).setCell (p := ⟨w.heap.size + 1, 1, none⟩) (by simp) (.int .i64 (wrap64 (d.tdiv a)))).drew
      have Q1 := Lib.hid q1
      have Q2 := Lib.hid q2
      clear hBr hb q1 q2 hXr
      go_wp2_with fail
      go_still_tail 9, (by kernel_rfl)
      go_wp2
      generalize ((wr.setCell ⟨w.heap.size + 1, 0, none⟩ (.int .i64 (wrap64 (n.tdiv a)))).setCell ⟨w.heap.size + 1, 1, none⟩ (.int .i64 (wrap64 (d.tdiv a)))).drew = F at *
      have r0 := HF.out.cell 0 _ rfl
      have r1 := HF.out.cell 1 _ rfl
      refine ⟨rfl, .agg #[.int .i64 (wrap64 (n.tdiv a)), .int .i64 (wrap64 (d.tdiv a))], ?_, by rw [Q1.out, Q2.out], HB.out⟩
      simp only [List.getElem_toArray, List.getElem_cons_zero, List.getElem_cons_succ] at r0 r1
      simp [results, Tryz.results46, go_sem, r0, r1]
    · have hbb : (b != 0) = true := by simpa using hb0
      obtain ⟨s1, s2, s3, s4⟩ := euc_step (a := a) (b := b) (by omega) (by omega)
      have HN : Hid (EucI n d b (a % b)) := Lib.hid ⟨by omega, by omega, by rw [s4]; exact g3⟩
      go_wp2_with fail
      go_quiet (fail)
      go_wp2
      go_roundw
      case rel => exact ⟨b, a % b, rfl, rfl, HN, blk_drewN6 hXr, blk_drewN6 hBr, below_drewN6 hb⟩
      case measure => simp [intOf, s1]; omega

end Go.Proofs.YtaldpalhckdcdaaGreatDoor

namespace Go.Proofs.YtaldpalhckdcdaaGreatDoor
open Go.RowKit Go.PlainAid
set_option linter.unusedVariables false
set_option linter.unusedSimpArgs false
attribute [local go_sem] Oper.semAt_some fp_round fp_depth
theorem fp_pieces : Fp.fn 86 := ⟨_, Tryz.func86⟩
theorem fp_pieces1 : Fp.fn 101 := ⟨_, Tryz.func101⟩

set_option maxRecDepth 100000 in
theorem pieces_in (v0 : Value) (l : Lr) (w : World) (k : Nat) : CallsIn Fp k Tryz.prog 86 #[.agg #[v0, .int .i64 l.factor]] w fun e w' =>
    e = .returned (.func (.func 101) #[] #[.pointer (some ⟨w.heap.size, 0, none⟩)]) ∧ w' = w.alloc (.cells #[v0, .int .i64 l.factor] 44) := by
  have hmf : ∀ (fn : Fn) (first cap : Array Value) (w : World), (Instr.makeFunc fn first cap).run Tryz.prog w = .ok (.func fn first cap) w := fun _ _ _ _ => rfl
  refine callsIn_of_wp Tryz.func86 rfl fp_pieces ?_ rfl
  simp only [Tryz.ntmps86, List.size_toArray, List.length_cons, List.length_nil, Nat.reduceAdd, Nat.reduceSub, Array.replicate_succ, Array.replicate_zero, List.push_toArray, List.append_toArray, List.nil_append, List.cons_append]
  gi_wp2
  go_ret
  exact ⟨rfl, rfl⟩

def pcV (x y : Sp) : Value := .agg #[.int .i64 x.lo, .int .i64 x.hi, .int .i64 y.lo, .int .i64 y.hi]
def encP (ks : List Sp) : List (Array Value) := (List.range (ks.length - 1)).map fun i => #[pcV (kn ks i) (kn ks (i + 1))]
theorem encP_len (ks : List Sp) : (encP ks).length = ks.length - 1 := by simp [encP]
theorem encP_at {ks : List Sp} {k : Nat} (h : k + 1 < ks.length) : (encP ks)[k]? = some #[pcV (kn ks k) (kn ks (k + 1))] := by
  simp [encP, List.getElem?_map, List.getElem?_range (show k < ks.length - 1 by omega)]
theorem encP_ix {ks : List Sp} {k : Nat} {x : Array Value} (h : (encP ks)[k]? = some x) : k + 1 < ks.length ∧ x = #[pcV (kn ks k) (kn ks (k + 1))] := by
  have hk : k < ks.length - 1 := by
    have := (List.getElem?_eq_some_iff.1 h).1
    rw [encP_len] at this; exact this
  have hk' : k + 1 < ks.length := by omega
  exact ⟨hk', by rw [encP_at hk'] at h; exact (Option.some.inj h).symm⟩

end Go.Proofs.YtaldpalhckdcdaaGreatDoor
