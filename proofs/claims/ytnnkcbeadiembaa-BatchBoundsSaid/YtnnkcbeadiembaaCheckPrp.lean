/- The properties of a batch; no statement is proved here. -/
import Derived.Test.YtnnkcbeadiembaaCheckMat
namespace Go.Proofs.Ytnnkcbeadiembaa
open Go.RowKit Go.PlainAid
set_option linter.unusedVariables false

def prpB (n : Int) (p : Prp) : Int := if (allBetweenB p.coefs n (-10000) 10000 && withinB p.target (-10000) 10000) = false then 1 else 0
def prpsB (l : List Prp) (n : Int) : Int := if 6 < l.length then 3 else seqB Prp.name (prpB n) [] l

set_option maxRecDepth 100000 in
theorem checkProperties_any (a0 : Option Addr) (n0 cap0 : Nat) (v1 v2 v3 x4 x5 x6 : Value) (l : List Prp) (w : World) (h : RPrps w v3 l) :
    Calls Try.prog 61 #[.agg #[.slice a0 n0 cap0, v1, v2, v3, x4, x5, x6]] w fun e w' => e = .returned (.int .i64 (prpsB l n0)) ∧ Below w.heap.size w w' := by
  have hR := h
  obtain ⟨a, kap, rfl, hc1, ⟨hc2, hm⟩, hl⟩ := h
  have hA := below_box w (.cells #[.slice a0 n0 cap0, v1, v2, .slice a l.length kap, x4, x5, x6] 29)
  by_cases h12 : 6 < l.length
  · have he : prpsB l n0 = 3 := by simp [prpsB, h12]
    rw [he]; clear he hl
    go_enter Try.func61, Try.ntmps61
    go_wp2
    go_ret
    exact ⟨rfl, hA⟩
  have he : prpsB l n0 = seqB Prp.name (prpB n0) [] l := by simp [prpsB, h12]
  rw [he]; clear he
  have h2 : decide ((6 : Int) < (l.length : Int)) = false := decide_eq_false (by omega)
  have hB := Blk.new w #[.slice a0 n0 cap0, v1, v2, .slice a l.length kap, x4, x5, x6] 29
  have hsz : w.heap.size + 1 ≤ (w.alloc (.cells #[.slice a0 n0 cap0, v1, v2, .slice a l.length kap, x4, x5, x6] 29)).heap.size := by simp
  have hR0 := hR.mono (ext_of_below hA)
  go_enter Try.func61, Try.ntmps61
  go_wp2
  generalize w.alloc (.cells #[.slice a0 n0 cap0, v1, v2, .slice a l.length kap, x4, x5, x6] 29) = W at *
  go_loopw [12] (fun i wr => ∃ (k : Nat), k ≤ l.length ∧ i = .int .i64 k ∧ Hid (seqB Prp.name (prpB n0) [] l = seqB Prp.name (prpB n0) (l.take k) (l.drop k)) ∧ Below W.heap.size W wr) (fun i _ => l.length - (intOf i).toNat)
  case atStart => exact ⟨0, Nat.zero_le _, rfl, rfl, Below.refl _ _⟩
  case round =>
    obtain ⟨k, hk, rfl, hx, hb⟩ := hrel
    have hfinB := hA.trans (hb.mono (by omega))
    have hsz2 := hb.size
    clear h2 h12
    by_cases hlt : k < l.length
    · have hst := Lib.hid (seqB_step Prp.name (prpB n0) l k hlt)
      have hRr := hR0.mono (ext_of_below hb)
      obtain ⟨b, off, rfl, c, ⟨g0, g1, g2, g3⟩, hc, hs⟩ := (hl k hlt)
      have hbl := cell_lt g0
      simp only at g0 g1 g2 g3 hbl
      have hlt2 : w.heap.size < wr.heap.size := by omega
      have hcS := hc
      obtain ⟨ac, kc, rfl, -, -, -⟩ := hcS
      have hCr := hc.mono (ext_of_below hfinB)
      obtain ⟨hcc, hzz⟩ := bcell hfinB
      have hBr := hB.below hb (by omega)
      have e0 : wr.cell? ⟨w.heap.size, 0, none⟩ = some (.slice a0 n0 cap0) := hBr.cell 0 _ rfl
      have e1 : wr.cell? ⟨w.heap.size, 3, none⟩ = some (.slice (some ⟨b, off, none⟩) l.length kap) := hBr.cell 3 _ rfl
      clear hl hc hB hA hR hR0
      generalize l[k] = s at *
      clear hsz hsz2
      go_wp2_with fail
      refine (isName_any s.name _ hs.1).mono ?_
      rintro e w1 ⟨rfl, rfl⟩
      have hAm := below_box wr (.cells #[.string s.name, .slice ac s.coefs.length kc, .int .i64 s.target.lo, .int .i64 s.target.hi] 60)
      have hBm := Blk.new wr #[.string s.name, .slice ac s.coefs.length kc, .int .i64 s.target.lo, .int .i64 s.target.hi] 60
      cases hn : nameB s.name with
      | false =>
        have hfin := hx.out.trans hst.out
        rw [if_pos hn] at hfin
        have HF := Lib.hid hfin
        clear hfin hn
        go_wp2
        go_ret
        exact ⟨ret_int HF.out.symm, hfinB.trans (hAm.mono (by omega))⟩
      | true =>
        go_wp2_with fail
        refine (containsFunc_prp _ isFn_samePrp _ (fun m => eqS m.name s.name) _ (l.take k) _ (RPrps.mono (ext_of_below hAm) (hRr.take k hk)) (tells_prp _ _ _ _ (hBm.cell 0 _ rfl))).mono ?_
        rintro e w1 ⟨rfl, hb1⟩
        have hW1 := hAm.trans (hb1.mono (by simp))
        have hBm1 := hBm.below hb1 (by simp)
        cases hs1 : (l.take k).any (fun m => eqS m.name s.name) with
        | true =>
          have hfin := hx.out.trans hst.out
          rw [if_neg (by simp [hn]), if_pos hs1] at hfin
          have HF := Lib.hid hfin
          clear hfin hn hs1
          go_wp2
          go_ret
          exact ⟨ret_int HF.out.symm, hfinB.trans (hW1.mono (by omega))⟩
        | false =>
          have hfin := hx.out.trans hst.out
          rw [if_neg (by simp [hn]), if_neg (by simp [hs1])] at hfin
          have HF := Lib.hid hfin
          have d1 : w1.cell? ⟨wr.heap.size, 1, none⟩ = some (.slice ac s.coefs.length kc) := hBm1.cell 1 _ rfl
          have f0 : w1.cell? ⟨w.heap.size, 0, none⟩ = some (.slice a0 n0 cap0) := (ext_of_below hW1) _ _ e0
          clear hfin hn hs1 hb1 hBm hAm e0 e1 g0 g1 g2 g3 hcc hzz
          go_wp2_with fail
          refine (allBetween_any _ s.coefs n0 _ _ _ (hCr.mono (ext_of_below hW1))).mono ?_
          rintro e w2 ⟨rfl, hb2⟩
          have hW2 := hfinB.trans ((hW1.mono (Nat.le_refl _)).trans (hb2.mono hW1.size) |>.mono (by omega))
          have hW2' := hb.trans ((hW1.mono (Nat.le_refl _)).trans (hb2.mono hW1.size) |>.mono hb.size)
          have hBm2 := hBm1.below hb2 hBm1.lt
          have q2 : w2.cell? ⟨wr.heap.size, 2, none⟩ = some (.int .i64 s.target.lo) := hBm2.cell 2 _ rfl
          have q3 : w2.cell? ⟨wr.heap.size, 3, none⟩ = some (.int .i64 s.target.hi) := hBm2.cell 3 _ rfl
          clear hb2 hW1 hCr hb hBm1 hBm2
          cases hz : allBetweenB s.coefs n0 (-10000) 10000 with
          | false =>
            have hp : prpB n0 s = 1 := by simp [prpB, hz]
            have hfin := HF.out
            rw [if_neg (by rw [hp]; decide), hp] at hfin
            have HX := Lib.hid hfin
            clear hfin HF hx hst hp
            go_wp2
            go_ret
            exact ⟨ret_int HX.out.symm, hW2⟩
          | true =>
            go_wp2_with fail
            refine (withinS s.target _ _ _).mono ?_
            rintro e w3 ⟨rfl, hb3⟩
            have hW3 := hW2.trans (hb3.mono hW2.size)
            have hW3' := hW2'.trans (hb3.mono hW2'.size)
            clear hb3 hW2 hW2'
            cases hz2 : withinB s.target (-10000) 10000 with
            | false =>
              have hp : prpB n0 s = 1 := by simp [prpB, hz2]
              have hfin := HF.out
              rw [if_neg (by rw [hp]; decide), hp] at hfin
              have HX := Lib.hid hfin
              clear hfin HF hx hst hp
              go_wp2
              go_ret
              exact ⟨ret_int HX.out.symm, hW3⟩
            | true =>
              have hp : prpB n0 s = 0 := by simp [prpB, hz, hz2]
              have hfin := HF.out
              rw [if_pos hp] at hfin
              have HX := Lib.hid hfin
              clear hfin HF hx hst hp
              go_wp2
              go_roundw
              case rel => exact ⟨k + 1, by omega, by go_num, HX, hW3'⟩
              case measure => simp [intOf]; omega
    · have hfin := hx.out
      rw [seqB_end _ _ _ _ (by omega)] at hfin
      have HF := Lib.hid hfin
      clear hfin hx hl
      go_wp2
      go_ret
      exact ⟨ret_int HF.out.symm, hfinB⟩

end Go.Proofs.Ytnnkcbeadiembaa
