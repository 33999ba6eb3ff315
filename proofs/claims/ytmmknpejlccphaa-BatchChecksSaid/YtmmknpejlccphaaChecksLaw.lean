/- BatchChecks, the law's own call; no statement is proved here. -/
import Derived.Test.YtmmknpejlccphaaRPub
namespace Go.Proofs.Ytmmknpejlccphaa
open Go.RowKit Go.PlainAid
set_option linter.unusedVariables false

set_option maxHeartbeats 2000000 in
set_option maxRecDepth 100000 in
theorem checksLaw_any (vb : Value) (b : Bat) (w : World) (h : RBat w vb b) :
    Calls Try.prog 3 #[vb] w (TrueB w) := by
  obtain ⟨a0, k0, a1, k1, a2, k2, a3, k3, rfl⟩ := h.agg
  have hA := below_box w (.cells #[.slice a0 b.oxides.length k0, .slice a1 b.mats.length k1, .slice a2 b.shares.length k2, .slice a3 b.props.length k3, .int .i64 b.redox.lo, .int .i64 b.redox.hi, .int .i64 b.wanted] 29)
  have hB := Blk.new w #[.slice a0 b.oxides.length k0, .slice a1 b.mats.length k1, .slice a2 b.shares.length k2, .slice a3 b.props.length k3, .int .i64 b.redox.lo, .int .i64 b.redox.hi, .int .i64 b.wanted] 29
  go_enter Try.func3, Try.ntmps3
  go_wp2_with fail
  generalize w.alloc (.cells #[.slice a0 b.oxides.length k0, .slice a1 b.mats.length k1, .slice a2 b.shares.length k2, .slice a3 b.props.length k3, .int .i64 b.redox.lo, .int .i64 b.redox.hi, .int .i64 b.wanted] 29) = W at *
  refine (great_any _ b _ (h.mono (ext_of_below hA))).mono ?_
  rintro e w1 ⟨t, rfl, hb1⟩
  have hA1 := hA.trans (hb1.mono hA.size)
  have hB1 := hB.below hb1 hB.lt
  clear hA hB hb1
  cases t with
  | true =>
    clear hB1
    go_wp2_with fail
    refine (lives_any _).mono ?_
    rintro e wl ⟨rfl, hbl⟩
    have hAl := hA1.trans (hbl.mono hA1.size)
    clear hbl hA1
    go_wp2
    go_ret
    exact ⟨rfl, hAl⟩
  | false =>
  have f0 := hB1.cell 0 (.slice a0 b.oxides.length k0) rfl
  have f1 := hB1.cell 1 (.slice a1 b.mats.length k1) rfl
  have f2 := hB1.cell 2 (.slice a2 b.shares.length k2) rfl
  have f3 := hB1.cell 3 (.slice a3 b.props.length k3) rfl
  have f4 := hB1.cell 4 (.int .i64 b.redox.lo) rfl
  have f5 := hB1.cell 5 (.int .i64 b.redox.hi) rfl
  have f6 := hB1.cell 6 (.int .i64 b.wanted) rfl
  go_wp2_with fail
  refine (pubLines_any _ b _ (h.mono (ext_of_below hA1))).mono ?_
  rintro e w2 ⟨vx, rfl, hvx, hb2⟩
  have hA2 := hA1.trans (hb2.mono hA1.size)
  have hB2 := hB1.below hb2 hB1.lt
  clear f0 f1 f2 f3 f4 f5 f6 hB1 hA1 hb2
  have f0 := hB2.cell 0 (.slice a0 b.oxides.length k0) rfl
  have f1 := hB2.cell 1 (.slice a1 b.mats.length k1) rfl
  have f2 := hB2.cell 2 (.slice a2 b.shares.length k2) rfl
  have f3 := hB2.cell 3 (.slice a3 b.props.length k3) rfl
  have f4 := hB2.cell 4 (.int .i64 b.redox.lo) rfl
  have f5 := hB2.cell 5 (.int .i64 b.redox.hi) rfl
  have f6 := hB2.cell 6 (.int .i64 b.wanted) rfl
  go_wp2_with fail
  refine (rpubLines_any _ b _ (h.mono (ext_of_below hA2))).mono ?_
  rintro e w3 ⟨vy, rfl, hvy, hb3⟩
  have hA3 := hA2.trans (hb3.mono hA2.size)
  have hB3 := hB2.below hb3 hB2.lt
  have hvx3 := hvx.mono (ext_of_below hb3)
  clear f0 f1 f2 f3 f4 f5 f6 hB2 hA2 hb3 hvx
  have f0 := hB3.cell 0 (.slice a0 b.oxides.length k0) rfl
  have f1 := hB3.cell 1 (.slice a1 b.mats.length k1) rfl
  have f2 := hB3.cell 2 (.slice a2 b.shares.length k2) rfl
  have f3 := hB3.cell 3 (.slice a3 b.props.length k3) rfl
  have f4 := hB3.cell 4 (.int .i64 b.redox.lo) rfl
  have f5 := hB3.cell 5 (.int .i64 b.redox.hi) rfl
  have f6 := hB3.cell 6 (.int .i64 b.wanted) rfl
  generalize pubLinesB b = pq at *
  obtain ⟨l, n⟩ := pq
  obtain ⟨pa, ka, rfl, -, ⟨-, la⟩, hal⟩ := id hvx3
  obtain ⟨pb, kb, rfl, -, ⟨-, lb⟩, hbl⟩ := id hvy
  simp only at la lb hal hbl
  have hRB := (h.mono (ext_of_below hA3)).mono (ext_of_below (Below.refl w3.heap.size w3).drew)
  have hI : Below w3.heap.size w3 w3.drew := (Below.refl _ _).drew
  go_wp2_with fail
  generalize hcb : checkB b = cb at *
  have HCB := Lib.hid hcb
  clear hcb
  go_region_held3 (fun w' => w'.cell? ⟨w.heap.size, 0, none⟩ = some (.slice a0 b.oxides.length k0) ∧ w'.cell? ⟨w.heap.size, 1, none⟩ = some (.slice a1 b.mats.length k1) ∧ w'.cell? ⟨w.heap.size, 2, none⟩ = some (.slice a2 b.shares.length k2) ∧ w'.cell? ⟨w.heap.size, 3, none⟩ = some (.slice a3 b.props.length k3) ∧ w'.cell? ⟨w.heap.size, 4, none⟩ = some (.int .i64 b.redox.lo) ∧ w'.cell? ⟨w.heap.size, 5, none⟩ = some (.int .i64 b.redox.hi) ∧ w'.cell? ⟨w.heap.size, 6, none⟩ = some (.int .i64 b.wanted))
    (first | go_keep | (exact keep7 (by assumption) (by assumption)))
    (first
    | (go_at_call 17; (with_reducible refine (check_any _ b _ hRB).mono ?_); rintro e wA ⟨rfl, hbA⟩; rw [HCB.out])
    | (go_at_call 18; (with_reducible refine (rcheck_any _ b _ (hRB.mono (ext_of_below hbA))).mono ?_); rintro e wB ⟨rfl, hbB⟩; rw [HCB.out]))
  have hbAB : Below w3.heap.size w3 wB := ((Below.refl w3.heap.size w3).drew.trans (hbA.mono (Nat.le_refl _))).trans (hbB.mono hbA.size)
  have hA4 := hA3.trans (hbAB.mono hA3.size)
  have hvx4 := hvx3.mono (ext_of_below hbAB)
  have hvy4 := hvy.mono (ext_of_below hbAB)
  clear f0 f1 f2 f3 f4 f5 f6 hB3 hA3 hvx3 hvy hbA hbB hRB hI hal hbl hbAB
  obtain ⟨pa2, ka2, ea, -, -, hal⟩ := id hvx4
  obtain ⟨pb2, kb2, eb, -, -, hbl⟩ := id hvy4
  simp only [Value.slice.injEq, true_and] at ea eb
  obtain ⟨rfl, rfl⟩ := ea
  obtain ⟨rfl, rfl⟩ := eb
  go_wp2_with fail
  go_loopw [7] (fun i wr => ∃ (k : Nat), k ≤ l.length ∧ i = .int .i64 k ∧ Below wB.heap.size wB wr) (fun i _ => l.length - (intOf i).toNat)
  case atStart => exact ⟨0, Nat.zero_le _, rfl, Below.refl _ _⟩
  case round =>
    obtain ⟨k, hk, rfl, hb⟩ := hrel
    have hA5 := hA4.trans (hb.mono hA4.size)
    by_cases hlt : k < l.length
    · obtain ⟨b1, o1, rfl, c1, u1, q1, q2, hc1, rfl, -⟩ := hal k hlt
      obtain ⟨b2, o2, rfl, c2, u2, s1, s2, hc2, rfl, -⟩ := hbl k hlt
      obtain ⟨pc1, kc1, rfl, -, -, -⟩ := id hc1
      obtain ⟨pc2, kc2, rfl, -, -, -⟩ := id hc2
      simp only at q1 q2 s1 s2
      replace q1 := ext_of_below hb _ _ q1
      replace q2 := ext_of_below hb _ _ q2
      replace s1 := ext_of_below hb _ _ s1
      replace s2 := ext_of_below hb _ _ s2
      have hd1 := hc1.mono (ext_of_below hb)
      have hd2 := hc2.mono (ext_of_below hb)
      have j1 : (0 : Int) ≤ (k : Int) := Int.natCast_nonneg _
      have j2 : (k : Int) < (l.length : Int) := by omega
      clear hal hbl hc1 hc2 hvx4 hvy4 h
      generalize l[k] = x at *
      have hsi := fun n => sameInts_eq _ _ x.fs (wr.drewN n) (hd1.mono (ext_drewN wr n)) (hd2.mono (ext_drewN wr n))
      have HSI := Lib.hid hsi
      clear hsi hd1 hd2
      go_wp2_with fail
      go_quiet ((go_at_call 19; exact Calls.quiet_of (HSI.out _)))
      go_wp2
      go_roundw
      case rel => exact ⟨k + 1, by omega, by go_num, grown_drewN hb⟩
      case measure => simp [intOf]; omega
    · clear hal hbl
      go_wp2_with fail
      refine (lives_any _).mono ?_
      rintro e wl ⟨rfl, hbl⟩
      have hAl := hA5.trans (hbl.mono hA5.size)
      clear hbl hA5
      go_wp2
      go_ret
      exact ⟨rfl, hAl⟩

end Go.Proofs.Ytmmknpejlccphaa
