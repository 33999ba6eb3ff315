/- A material's numbers; no statement is proved here. -/
import Derived.Test.YtpkggjfaefkiiaaWithin
namespace Go.Proofs.Ytpkggjfaefkiiaa
open Go.RowKit Go.PlainAid
set_option linter.unusedVariables false

def numB (m : Mat) (n : Int) : Int :=
  if (betweenB m.price 0 10000 && betweenB m.redox (-1000) 1000) = false then 1
  else if (betweenB m.least 0 10000 && betweenB m.most m.least 10000 && betweenB m.step 1 10000) = false then 1
  else if allWithinB m.content n 0 1000 = false then 1
  else if 1000 < (tot m.content).lo then 12 else 0

theorem field_lo (x y : Value) (w : World) : Sem.run Try.prog (Instr.field 27 (.agg #[x, y]) 0) w = .ok x w := by kernel_rfl
theorem field_hi (x y : Value) (w : World) : Sem.run Try.prog (Instr.field 27 (.agg #[x, y]) 1) w = .ok y w := by kernel_rfl

theorem below_box (w : World) (a : Obj) : Below w.heap.size w (w.alloc a) := by go_grown

set_option maxRecDepth 100000 in
theorem checkNumbers_any (m : Mat) (c : Value) (n : Int) (w : World) (h : RSps w c m.content) :
    Calls Try.prog 105 #[.agg #[.string m.name, .int .i64 m.price, .int .i64 m.redox, .int .i64 m.least, .int .i64 m.most, .int .i64 m.step, c], .int .i64 n] w fun e w' => e = .returned (.int .i64 (numB m n)) ∧ Below w.heap.size w w' := by
  have hA := below_box w (.cells #[.string m.name, .int .i64 m.price, .int .i64 m.redox, .int .i64 m.least, .int .i64 m.most, .int .i64 m.step, c] 68)
  have hB := Blk.new w #[.string m.name, .int .i64 m.price, .int .i64 m.redox, .int .i64 m.least, .int .i64 m.most, .int .i64 m.step, c] 68
  go_enter Try.func105, Try.ntmps105
  go_wp2_with fail
  refine (betweenN _ _ _ _).mono ?_
  rintro e w1 ⟨rfl, rfl⟩
  cases h1 : betweenB m.price 0 10000 with
  | false => go_wp2; go_ret; exact ⟨ret_int (by simp [numB, h1]), hA⟩
  | true =>
  go_wp2_with fail
  refine (betweenN _ _ _ _).mono ?_
  rintro e w1 ⟨rfl, rfl⟩
  cases h2 : betweenB m.redox (-1000) 1000 with
  | false => go_wp2; go_ret; exact ⟨ret_int (by simp [numB, h2]), hA⟩
  | true =>
  go_wp2_with fail
  refine (betweenN _ _ _ _).mono ?_
  rintro e w1 ⟨rfl, rfl⟩
  cases h3 : betweenB m.least 0 10000 with
  | false => go_wp2; go_ret; exact ⟨ret_int (by simp [numB, h1, h2, h3]), hA⟩
  | true =>
  go_wp2_with fail
  refine (betweenN _ _ _ _).mono ?_
  rintro e w1 ⟨rfl, rfl⟩
  cases h4 : betweenB m.most m.least 10000 with
  | false => go_wp2; go_ret; exact ⟨ret_int (by simp [numB, h1, h2, h3, h4]), hA⟩
  | true =>
  go_wp2_with fail
  refine (betweenN _ _ _ _).mono ?_
  rintro e w1 ⟨rfl, rfl⟩
  cases h5 : betweenB m.step 1 10000 with
  | false => go_wp2; go_ret; exact ⟨ret_int (by simp [numB, h1, h2, h3, h4, h5]), hA⟩
  | true =>
  go_wp2_with fail
  refine (allWithin_any c m.content n 0 1000 _ (h.mono (ext_of_below hA))).mono ?_
  rintro e w1 ⟨rfl, hb1⟩
  have hA1 := hA.trans (hb1.mono (by simp))
  have B1 := hB.below hb1 (by simp)
  have c6 : w1.cell? ⟨w.heap.size, 6, none⟩ = some c := B1.cell 6 _ rfl
  clear hb1 hB hA B1
  cases h6 : allWithinB m.content n 0 1000 with
  | false => go_wp2; go_ret; exact ⟨ret_int (by simp [numB, h1, h2, h3, h4, h5, h6]), hA1⟩
  | true =>
  go_wp2_with fail
  refine (total_any c m.content _ (h.mono (ext_of_below hA1))).mono ?_
  rintro e w2 ⟨rfl, hb2⟩
  have hA2 := hA1.trans (hb2.mono hA1.size)
  clear hb2 hA1
  have hfd := fun w => field_lo (.int .i64 (tot m.content).lo) (.int .i64 (tot m.content).hi) w
  by_cases h7 : 1000 < (tot m.content).lo
  · go_wp2; go_ret; exact ⟨ret_int (by simp [numB, h1, h2, h3, h4, h5, h6, h7]), hA2⟩
  · go_wp2; go_ret; exact ⟨ret_int (by simp [numB, h1, h2, h3, h4, h5, h6, h7]), hA2⟩

theorem checkNumbers_v (m : Mat) (v : Value) (n : Int) (w : World) (h : VMat w v m) :
    Calls Try.prog 105 #[v, .int .i64 n] w fun e w' => e = .returned (.int .i64 (numB m n)) ∧ Below w.heap.size w w' := by
  obtain ⟨c, rfl, h1, _⟩ := h
  exact checkNumbers_any m c n w h1

end Go.Proofs.Ytpkggjfaefkiiaa

namespace Go.Proofs.Ytpkggjfaefkiiaa
open Go.RowKit Go.PlainAid
set_option linter.unusedVariables false

def matsB (l : List Mat) (n : Int) : Int := if 12 < l.length then 3 else if l.length = 0 then 1 else seqB Mat.name (fun m => numB m n) [] l

theorem same_mat (m : Mat) (v : Value) (p : Nat) (x : ByteArray) (w : World) (h : VMat w v m) (h1 : w.cell? ⟨p, 0, none⟩ = some (.string x)) :
    Calls Try.prog 104 #[v, .pointer (some ⟨p, 0, none⟩)] w fun e w' => e = .returned (.bool (eqS m.name x)) ∧ Below w.heap.size w w' := by
  obtain ⟨c, rfl, h2, _⟩ := h
  have b1 := cell_lt h1
  simp only at b1
  clear h2
  go_enter Try.func104, Try.ntmps104
  go_wp2
  go_ret
  exact ⟨rfl, by go_grown⟩

theorem isFn_sameMat : IsFn 104 := fun xs w => by kernel_rfl

theorem same_prp (m : Prp) (v : Value) (p : Nat) (x : ByteArray) (w : World) (h : VPrp w v m) (h1 : w.cell? ⟨p, 0, none⟩ = some (.string x)) :
    Calls Try.prog 109 #[v, .pointer (some ⟨p, 0, none⟩)] w fun e w' => e = .returned (.bool (eqS m.name x)) ∧ Below w.heap.size w w' := by
  obtain ⟨c, rfl, h2, _⟩ := h
  have b1 := cell_lt h1
  simp only at b1
  clear h2
  go_enter Try.func109, Try.ntmps109
  go_wp2
  go_ret
  exact ⟨rfl, by go_grown⟩

theorem isFn_samePrp : IsFn 109 := fun xs w => by kernel_rfl

theorem tells_mat (l : List Mat) (p : Nat) (x : ByteArray) (w : World) (h1 : w.cell? ⟨p, 0, none⟩ = some (.string x)) :
    Tells 104 #[.pointer (some ⟨p, 0, none⟩)] VMat w l (fun m => eqS m.name x) :=
  fun m v w1 _ hv hb => same_mat m v p x w1 (hv.mono (ext_of_below hb)) (ext_of_below hb _ _ h1)

theorem tells_prp (l : List Prp) (p : Nat) (x : ByteArray) (w : World) (h1 : w.cell? ⟨p, 0, none⟩ = some (.string x)) :
    Tells 109 #[.pointer (some ⟨p, 0, none⟩)] VPrp w l (fun m => eqS m.name x) :=
  fun m v w1 _ hv hb => same_prp m v p x w1 (hv.mono (ext_of_below hb)) (ext_of_below hb _ _ h1)

set_option maxRecDepth 100000 in
theorem checkMaterials_any (a0 : Option Addr) (n0 cap0 : Nat) (v1 v2 v3 x4 x5 x6 : Value) (l : List Mat) (w : World) (h : RMats w v1 l) (hn0 : n0 ≤ 140737488351232) :
    Calls Try.prog 51 #[.agg #[.slice a0 n0 cap0, v1, v2, v3, x4, x5, x6]] w fun e w' => e = .returned (.int .i64 (matsB l n0)) ∧ Below w.heap.size w w' := by
  have hR := h
  obtain ⟨a, kap, rfl, hc1, ⟨hc2, hm⟩, hl⟩ := h
  have hA := below_box w (.cells #[.slice a0 n0 cap0, .slice a l.length kap, v2, v3, x4, x5, x6] 29)
  by_cases h12 : 12 < l.length
  · have he : matsB l n0 = 3 := by simp [matsB, h12]
    rw [he]; clear he hl
    go_enter Try.func51, Try.ntmps51
    go_wp2
    go_ret
    exact ⟨rfl, hA⟩
  by_cases h0 : l.length = 0
  · have he : matsB l n0 = 1 := by simp [matsB, h0]
    rw [he]; clear he hl
    have h1 : ((l.length : Int) == 0) = true := by simp [h0]
    clear h0
    go_enter Try.func51, Try.ntmps51
    go_wp2
    go_ret
    exact ⟨rfl, hA⟩
  have he : matsB l n0 = seqB Mat.name (fun m => numB m n0) [] l := by simp [matsB, h12, h0]
  rw [he]; clear he
  have h1 : ((l.length : Int) == 0) = false := by simp [h0]
  have h2 : decide ((12 : Int) < (l.length : Int)) = false := decide_eq_false (by omega)
  clear h0
  have hB := Blk.new w #[.slice a0 n0 cap0, .slice a l.length kap, v2, v3, x4, x5, x6] 29
  have hsz : w.heap.size + 1 ≤ (w.alloc (.cells #[.slice a0 n0 cap0, .slice a l.length kap, v2, v3, x4, x5, x6] 29)).heap.size := by simp
  have hR0 := hR.mono (ext_of_below hA)
  go_enter Try.func51, Try.ntmps51
  go_wp2
  generalize w.alloc (.cells #[.slice a0 n0 cap0, .slice a l.length kap, v2, v3, x4, x5, x6] 29) = W at *
  go_loopw [17] (fun i wr => ∃ (k : Nat), k ≤ l.length ∧ i = .int .i64 k ∧ Hid (seqB Mat.name (fun m => numB m n0) [] l = seqB Mat.name (fun m => numB m n0) (l.take k) (l.drop k)) ∧ Below W.heap.size W wr) (fun i _ => l.length - (intOf i).toNat)
  case atStart => exact ⟨0, Nat.zero_le _, rfl, rfl, Below.refl _ _⟩
  case round =>
    obtain ⟨k, hk, rfl, hx, hb⟩ := hrel
    have hfinB := hA.trans (hb.mono (by omega))
    have hsz2 := hb.size
    clear h1 h2 h12
    by_cases hlt : k < l.length
    · have hst := Lib.hid (seqB_step Mat.name (fun m => numB m n0) l k hlt)
      have hRr := hR0.mono (ext_of_below hb)
      obtain ⟨b, off, rfl, c, ⟨g0, g1, g2, g3, g4, g5, g6⟩, hc, hs⟩ := (hl k hlt)
      have hbl := cell_lt g0
      simp only at g0 g1 g2 g3 g4 g5 g6 hbl
      have hlt2 : w.heap.size < wr.heap.size := by omega
      have hcS := hc
      obtain ⟨ac, kc, rfl, -, -, -⟩ := hcS
      have hV : VMat wr (.agg #[.string l[k].name, .int .i64 l[k].price, .int .i64 l[k].redox, .int .i64 l[k].least, .int .i64 l[k].most, .int .i64 l[k].step, .slice ac l[k].content.length kc]) l[k] := ⟨_, rfl, hc.mono (ext_of_below hfinB), hs⟩
      obtain ⟨hcc, hzz⟩ := bcell hfinB
      have hBr := hB.below hb (by omega)
      have e0 : wr.cell? ⟨w.heap.size, 0, none⟩ = some (.slice a0 n0 cap0) := hBr.cell 0 _ rfl
      have e1 : wr.cell? ⟨w.heap.size, 1, none⟩ = some (.slice (some ⟨b, off, none⟩) l.length kap) := hBr.cell 1 _ rfl
      clear hl hc hB hA hR hR0
      generalize l[k] = s at *
      clear hsz hsz2
      go_wp2_with fail
      refine (isName_any s.name _ hs.1).mono ?_
      rintro e w1 ⟨rfl, rfl⟩
      have hAm := below_box wr (.cells #[.string s.name, .int .i64 s.price, .int .i64 s.redox, .int .i64 s.least, .int .i64 s.most, .int .i64 s.step, .slice ac s.content.length kc] 68)
      have hBm := Blk.new wr #[.string s.name, .int .i64 s.price, .int .i64 s.redox, .int .i64 s.least, .int .i64 s.most, .int .i64 s.step, .slice ac s.content.length kc] 68
      cases hn : nameB s.name with
      | false =>
        have hfin := hx.out.trans hst.out
        rw [if_pos hn] at hfin
        have HF := Lib.hid hfin
        clear hfin hn
        go_wp2
        go_ret
        exact ⟨ret_int HF.out.symm, hfinB.trans (hAm.mono (by omega))⟩
      | true =>
        go_wp2_with fail
        refine (containsFunc_mat _ isFn_sameMat _ (fun m => eqS m.name s.name) _ (l.take k) _ (RMats.mono (ext_of_below hAm) (hRr.take k hk)) (tells_mat _ _ _ _ (hBm.cell 0 _ rfl))).mono ?_
        rintro e w1 ⟨rfl, hb1⟩
        have hW1 := hAm.trans (hb1.mono (by simp))
        have hBm1 := hBm.below hb1 (by simp)
        cases hs1 : (l.take k).any (fun m => eqS m.name s.name) with
        | true =>
          have hfin := hx.out.trans hst.out
          rw [if_neg (by simp [hn]), if_pos hs1] at hfin
          have HF := Lib.hid hfin
          clear hfin hn hs1
          go_wp2
          go_ret
          exact ⟨ret_int HF.out.symm, hfinB.trans (hW1.mono (by omega))⟩
        | false =>
          have hfin := hx.out.trans hst.out
          rw [if_neg (by simp [hn]), if_neg (by simp [hs1])] at hfin
          have HF := Lib.hid hfin
          have d0 : w1.cell? ⟨wr.heap.size, 0, none⟩ = some (.string s.name) := hBm1.cell 0 _ rfl
          have d1 : w1.cell? ⟨wr.heap.size, 1, none⟩ = some (.int .i64 s.price) := hBm1.cell 1 _ rfl
          have d2 : w1.cell? ⟨wr.heap.size, 2, none⟩ = some (.int .i64 s.redox) := hBm1.cell 2 _ rfl
          have d3 : w1.cell? ⟨wr.heap.size, 3, none⟩ = some (.int .i64 s.least) := hBm1.cell 3 _ rfl
          have d4 : w1.cell? ⟨wr.heap.size, 4, none⟩ = some (.int .i64 s.most) := hBm1.cell 4 _ rfl
          have d5 : w1.cell? ⟨wr.heap.size, 5, none⟩ = some (.int .i64 s.step) := hBm1.cell 5 _ rfl
          have d6 : w1.cell? ⟨wr.heap.size, 6, none⟩ = some (.slice ac s.content.length kc) := hBm1.cell 6 _ rfl
          have f0 : w1.cell? ⟨w.heap.size, 0, none⟩ = some (.slice a0 n0 cap0) := (ext_of_below hW1) _ _ e0
          clear hfin hn hs1 hBm1 hb1 hBm hAm e0 e1 g0 g1 g2 g3 g4 g5 g6 hcc hzz
          go_wp2_with fail
          refine (checkNumbers_v s _ n0 _ (hV.mono (ext_of_below hW1))).mono ?_
          rintro e w2 ⟨rfl, hb2⟩
          have hW2 := hfinB.trans ((hW1.mono (Nat.le_refl _)).trans (hb2.mono hW1.size) |>.mono (by omega))
          have hW2' := hb.trans ((hW1.mono (Nat.le_refl _)).trans (hb2.mono hW1.size) |>.mono hb.size)
          clear hb2 hW1 hV hb
          by_cases hz : numB s n0 = 0
          · have hfin := HF.out
            rw [if_pos hz] at hfin
            have HX := Lib.hid hfin
            clear hfin HF hx hst
            go_wp2
            go_roundw
            case rel => exact ⟨k + 1, by omega, by go_num, HX, hW2'⟩
            case measure => simp [intOf]; omega
          · have hfin := HF.out
            rw [if_neg hz] at hfin
            have HX := Lib.hid hfin
            have hz' : (numB s n0 != 0) = true := by simp [hz]
            clear hfin HF hx hst hz
            go_wp2
            go_ret
            exact ⟨ret_int HX.out.symm, hW2⟩
    · have hfin := hx.out
      rw [seqB_end _ _ _ _ (by omega)] at hfin
      have HF := Lib.hid hfin
      clear hfin hx hl
      go_wp2
      go_ret
      exact ⟨ret_int HF.out.symm, hfinB⟩

end Go.Proofs.Ytpkggjfaefkiiaa

namespace Go.Proofs.Ytpkggjfaefkiiaa
open Go.RowKit Go.PlainAid
set_option linter.unusedVariables false

def prpB (n : Int) (p : Prp) : Int := if (allBetweenB p.coefs n (-10000) 10000 && withinB p.target (-10000) 10000) = false then 1 else 0
def prpsB (l : List Prp) (n : Int) : Int := if 6 < l.length then 3 else seqB Prp.name (prpB n) [] l

set_option maxRecDepth 100000 in
theorem checkProperties_any (a0 : Option Addr) (n0 cap0 : Nat) (v1 v2 v3 x4 x5 x6 : Value) (l : List Prp) (w : World) (h : RPrps w v3 l) :
    Calls Try.prog 53 #[.agg #[.slice a0 n0 cap0, v1, v2, v3, x4, x5, x6]] w fun e w' => e = .returned (.int .i64 (prpsB l n0)) ∧ Below w.heap.size w w' := by
  have hR := h
  obtain ⟨a, kap, rfl, hc1, ⟨hc2, hm⟩, hl⟩ := h
  have hA := below_box w (.cells #[.slice a0 n0 cap0, v1, v2, .slice a l.length kap, x4, x5, x6] 29)
  by_cases h12 : 6 < l.length
  · have he : prpsB l n0 = 3 := by simp [prpsB, h12]
    rw [he]; clear he hl
    go_enter Try.func53, Try.ntmps53
    go_wp2
    go_ret
    exact ⟨rfl, hA⟩
  have he : prpsB l n0 = seqB Prp.name (prpB n0) [] l := by simp [prpsB, h12]
  rw [he]; clear he
  have h2 : decide ((6 : Int) < (l.length : Int)) = false := decide_eq_false (by omega)
  have hB := Blk.new w #[.slice a0 n0 cap0, v1, v2, .slice a l.length kap, x4, x5, x6] 29
  have hsz : w.heap.size + 1 ≤ (w.alloc (.cells #[.slice a0 n0 cap0, v1, v2, .slice a l.length kap, x4, x5, x6] 29)).heap.size := by simp
  have hR0 := hR.mono (ext_of_below hA)
  go_enter Try.func53, Try.ntmps53
  go_wp2
  generalize w.alloc (.cells #[.slice a0 n0 cap0, v1, v2, .slice a l.length kap, x4, x5, x6] 29) = W at *
  go_loopw [12] (fun i wr => ∃ (k : Nat), k ≤ l.length ∧ i = .int .i64 k ∧ Hid (seqB Prp.name (prpB n0) [] l = seqB Prp.name (prpB n0) (l.take k) (l.drop k)) ∧ Below W.heap.size W wr) (fun i _ => l.length - (intOf i).toNat)
  case atStart => exact ⟨0, Nat.zero_le _, rfl, rfl, Below.refl _ _⟩
  case round =>
    obtain ⟨k, hk, rfl, hx, hb⟩ := hrel
    have hfinB := hA.trans (hb.mono (by omega))
    have hsz2 := hb.size
    clear h2 h12
    by_cases hlt : k < l.length
    · have hst := Lib.hid (seqB_step Prp.name (prpB n0) l k hlt)
      have hRr := hR0.mono (ext_of_below hb)
      obtain ⟨b, off, rfl, c, ⟨g0, g1, g2, g3⟩, hc, hs⟩ := (hl k hlt)
      have hbl := cell_lt g0
      simp only at g0 g1 g2 g3 hbl
      have hlt2 : w.heap.size < wr.heap.size := by omega
      have hcS := hc
      obtain ⟨ac, kc, rfl, -, -, -⟩ := hcS
      have hCr := hc.mono (ext_of_below hfinB)
      obtain ⟨hcc, hzz⟩ := bcell hfinB
      have hBr := hB.below hb (by omega)
      have e0 : wr.cell? ⟨w.heap.size, 0, none⟩ = some (.slice a0 n0 cap0) := hBr.cell 0 _ rfl
      have e1 : wr.cell? ⟨w.heap.size, 3, none⟩ = some (.slice (some ⟨b, off, none⟩) l.length kap) := hBr.cell 3 _ rfl
      clear hl hc hB hA hR hR0
      generalize l[k] = s at *
      clear hsz hsz2
      go_wp2_with fail
      refine (isName_any s.name _ hs.1).mono ?_
      rintro e w1 ⟨rfl, rfl⟩
      have hAm := below_box wr (.cells #[.string s.name, .slice ac s.coefs.length kc, .int .i64 s.target.lo, .int .i64 s.target.hi] 70)
      have hBm := Blk.new wr #[.string s.name, .slice ac s.coefs.length kc, .int .i64 s.target.lo, .int .i64 s.target.hi] 70
      cases hn : nameB s.name with
      | false =>
        have hfin := hx.out.trans hst.out
        rw [if_pos hn] at hfin
        have HF := Lib.hid hfin
        clear hfin hn
        go_wp2
        go_ret
        exact ⟨ret_int HF.out.symm, hfinB.trans (hAm.mono (by omega))⟩
      | true =>
        go_wp2_with fail
        refine (containsFunc_prp _ isFn_samePrp _ (fun m => eqS m.name s.name) _ (l.take k) _ (RPrps.mono (ext_of_below hAm) (hRr.take k hk)) (tells_prp _ _ _ _ (hBm.cell 0 _ rfl))).mono ?_
        rintro e w1 ⟨rfl, hb1⟩
        have hW1 := hAm.trans (hb1.mono (by simp))
        have hBm1 := hBm.below hb1 (by simp)
        cases hs1 : (l.take k).any (fun m => eqS m.name s.name) with
        | true =>
          have hfin := hx.out.trans hst.out
          rw [if_neg (by simp [hn]), if_pos hs1] at hfin
          have HF := Lib.hid hfin
          clear hfin hn hs1
          go_wp2
          go_ret
          exact ⟨ret_int HF.out.symm, hfinB.trans (hW1.mono (by omega))⟩
        | false =>
          have hfin := hx.out.trans hst.out
          rw [if_neg (by simp [hn]), if_neg (by simp [hs1])] at hfin
          have HF := Lib.hid hfin
          have d1 : w1.cell? ⟨wr.heap.size, 1, none⟩ = some (.slice ac s.coefs.length kc) := hBm1.cell 1 _ rfl
          have f0 : w1.cell? ⟨w.heap.size, 0, none⟩ = some (.slice a0 n0 cap0) := (ext_of_below hW1) _ _ e0
          clear hfin hn hs1 hb1 hBm hAm e0 e1 g0 g1 g2 g3 hcc hzz
          go_wp2_with fail
          refine (allBetween_any _ s.coefs n0 _ _ _ (hCr.mono (ext_of_below hW1))).mono ?_
          rintro e w2 ⟨rfl, hb2⟩
          have hW2 := hfinB.trans ((hW1.mono (Nat.le_refl _)).trans (hb2.mono hW1.size) |>.mono (by omega))
          have hW2' := hb.trans ((hW1.mono (Nat.le_refl _)).trans (hb2.mono hW1.size) |>.mono hb.size)
          have hBm2 := hBm1.below hb2 hBm1.lt
          have q2 : w2.cell? ⟨wr.heap.size, 2, none⟩ = some (.int .i64 s.target.lo) := hBm2.cell 2 _ rfl
          have q3 : w2.cell? ⟨wr.heap.size, 3, none⟩ = some (.int .i64 s.target.hi) := hBm2.cell 3 _ rfl
          clear hb2 hW1 hCr hb hBm1 hBm2
          cases hz : allBetweenB s.coefs n0 (-10000) 10000 with
          | false =>
            have hp : prpB n0 s = 1 := by simp [prpB, hz]
            have hfin := HF.out
            rw [if_neg (by rw [hp]; decide), hp] at hfin
            have HX := Lib.hid hfin
            clear hfin HF hx hst hp
            go_wp2
            go_ret
            exact ⟨ret_int HX.out.symm, hW2⟩
          | true =>
            go_wp2_with fail
            refine (withinS s.target _ _ _).mono ?_
            rintro e w3 ⟨rfl, hb3⟩
            have hW3 := hW2.trans (hb3.mono hW2.size)
            have hW3' := hW2'.trans (hb3.mono hW2'.size)
            clear hb3 hW2 hW2'
            cases hz2 : withinB s.target (-10000) 10000 with
            | false =>
              have hp : prpB n0 s = 1 := by simp [prpB, hz2]
              have hfin := HF.out
              rw [if_neg (by rw [hp]; decide), hp] at hfin
              have HX := Lib.hid hfin
              clear hfin HF hx hst hp
              go_wp2
              go_ret
              exact ⟨ret_int HX.out.symm, hW3⟩
            | true =>
              have hp : prpB n0 s = 0 := by simp [prpB, hz, hz2]
              have hfin := HF.out
              rw [if_pos hp] at hfin
              have HX := Lib.hid hfin
              clear hfin HF hx hst hp
              go_wp2
              go_roundw
              case rel => exact ⟨k + 1, by omega, by go_num, HX, hW3'⟩
              case measure => simp [intOf]; omega
    · have hfin := hx.out
      rw [seqB_end _ _ _ _ (by omega)] at hfin
      have HF := Lib.hid hfin
      clear hfin hx hl
      go_wp2
      go_ret
      exact ⟨ret_int HF.out.symm, hfinB⟩

end Go.Proofs.Ytpkggjfaefkiiaa

namespace Go.Proofs.Ytpkggjfaefkiiaa
open Go.RowKit Go.PlainAid
set_option linter.unusedVariables false

def checkB (b : Bat) : Int :=
  if oxB b.oxides ≠ 0 then oxB b.oxides
  else if matsB b.mats b.oxides.length ≠ 0 then matsB b.mats b.oxides.length
  else if allWithinB b.shares b.oxides.length 0 1000 = false then 1
  else if prpsB b.props b.oxides.length ≠ 0 then prpsB b.props b.oxides.length
  else if (withinB b.redox (-10000) 10000 && betweenB b.wanted 1 10000) = false then 1 else 0

set_option maxRecDepth 100000 in
theorem check_any (v : Value) (b : Bat) (w : World) (h : RBat w v b) :
    Calls Try.prog 17 #[v] w fun e w' => e = .returned (.int .i64 (checkB b)) ∧ Below w.heap.size w w' := by
  obtain ⟨v0, v1, v2, v3, rfl, h0, h1, h2, h3, i1, i2, i3⟩ := h
  have h0S := h0
  have h1S := h1
  have h2S := h2
  have h3S := h3
  obtain ⟨a0, k0, rfl, -, ⟨-, l0⟩, -⟩ := h0S
  obtain ⟨a1, k1, rfl, -, ⟨-, l1⟩, -⟩ := h1S
  obtain ⟨a2, k2, rfl, -, ⟨-, l2⟩, -⟩ := h2S
  obtain ⟨a3, k3, rfl, -, ⟨-, l3⟩, -⟩ := h3S
  have hA := below_box w (.cells #[.slice a0 b.oxides.length k0, .slice a1 b.mats.length k1, .slice a2 b.shares.length k2, .slice a3 b.props.length k3, .int .i64 b.redox.lo, .int .i64 b.redox.hi, .int .i64 b.wanted] 29)
  have hB := Blk.new w #[.slice a0 b.oxides.length k0, .slice a1 b.mats.length k1, .slice a2 b.shares.length k2, .slice a3 b.props.length k3, .int .i64 b.redox.lo, .int .i64 b.redox.hi, .int .i64 b.wanted] 29
  have H0 := h0.mono (ext_of_below hA)
  go_enter Try.func17, Try.ntmps17
  go_wp2_with fail
  refine (checkOxides_any _ b.oxides _ H0).mono ?_
  rintro e w1 ⟨rfl, rfl⟩
  clear H0 h0
  by_cases e1 : oxB b.oxides = 0
  case neg =>
    have e1' : (oxB b.oxides != 0) = true := by simp [e1]
    have hfin := Lib.hid (show checkB b = oxB b.oxides by simp [checkB, e1])
    clear hB e1
    go_wp2
    go_ret
    exact ⟨ret_int hfin.out.symm, hA⟩
  have e1' : (oxB b.oxides != 0) = false := by simp [e1]
  have E1 := Lib.hid e1
  clear e1
  go_wp2_with fail
  refine (checkMaterials_any a0 _ k0 _ _ _ _ _ _ b.mats _ (h1.mono (ext_of_below hA)) l0).mono ?_
  rintro e w1 ⟨rfl, hb⟩
  have hA1 := hA.trans (hb.mono (by simp))
  have hB1 := hB.below hb (by simp)
  clear hb hB hA h1
  by_cases e2 : matsB b.mats b.oxides.length = 0
  case neg =>
    have e2' : (matsB b.mats b.oxides.length != 0) = true := by simp [e2]
    have hfin := Lib.hid (show checkB b = matsB b.mats b.oxides.length by simp [checkB, E1.out, e2])
    clear hB1 e2
    go_wp2
    go_ret
    exact ⟨ret_int hfin.out.symm, hA1⟩
  have e2' : (matsB b.mats b.oxides.length != 0) = false := by simp [e2]
  have E2 := Lib.hid e2
  clear e2
  have c0 : w1.cell? ⟨w.heap.size, 0, none⟩ = some (.slice a0 b.oxides.length k0) := hB1.cell 0 _ rfl
  have c2 : w1.cell? ⟨w.heap.size, 2, none⟩ = some (.slice a2 b.shares.length k2) := hB1.cell 2 _ rfl
  go_wp2_with fail
  refine (allWithin_any _ b.shares _ _ _ _ (h2.mono (ext_of_below hA1))).mono ?_
  rintro e w2 ⟨rfl, hb⟩
  have hA2 := hA1.trans (hb.mono hA1.size)
  have hB2 := hB1.below hb hB1.lt
  clear hb hB1 hA1 h2 c0 c2 e1' e2'
  cases e3 : allWithinB b.shares b.oxides.length 0 1000 with
  | false =>
    have hfin := Lib.hid (show checkB b = 1 by simp [checkB, E1.out, E2.out, e3])
    clear hB2
    go_wp2
    go_ret
    exact ⟨ret_int hfin.out.symm, hA2⟩
  | true =>
  have E3 := Lib.hid e3
  clear e3
  have c0 : w2.cell? ⟨w.heap.size, 0, none⟩ = some (.slice a0 b.oxides.length k0) := hB2.cell 0 _ rfl
  have c1 : w2.cell? ⟨w.heap.size, 1, none⟩ = some (.slice a1 b.mats.length k1) := hB2.cell 1 _ rfl
  have c2 : w2.cell? ⟨w.heap.size, 2, none⟩ = some (.slice a2 b.shares.length k2) := hB2.cell 2 _ rfl
  have c3 : w2.cell? ⟨w.heap.size, 3, none⟩ = some (.slice a3 b.props.length k3) := hB2.cell 3 _ rfl
  have c4 : w2.cell? ⟨w.heap.size, 4, none⟩ = some (.int .i64 b.redox.lo) := hB2.cell 4 _ rfl
  have c5 : w2.cell? ⟨w.heap.size, 5, none⟩ = some (.int .i64 b.redox.hi) := hB2.cell 5 _ rfl
  have c6 : w2.cell? ⟨w.heap.size, 6, none⟩ = some (.int .i64 b.wanted) := hB2.cell 6 _ rfl
  go_wp2_with fail
  refine (checkProperties_any a0 _ k0 _ _ _ _ _ _ b.props _ (h3.mono (ext_of_below hA2))).mono ?_
  rintro e w3 ⟨rfl, hb⟩
  have hA3 := hA2.trans (hb.mono hA2.size)
  have hB3 := hB2.below hb hB2.lt
  clear hb hB2 hA2 h3 c0 c1 c2 c3 c4 c5 c6
  by_cases e4 : prpsB b.props b.oxides.length = 0
  case neg =>
    have e4' : (prpsB b.props b.oxides.length != 0) = true := by simp [e4]
    have hfin := Lib.hid (show checkB b = prpsB b.props b.oxides.length by simp [checkB, E1.out, E2.out, E3.out, e4])
    clear hB3 e4
    go_wp2
    go_ret
    exact ⟨ret_int hfin.out.symm, hA3⟩
  have e4' : (prpsB b.props b.oxides.length != 0) = false := by simp [e4]
  have E4 := Lib.hid e4
  clear e4
  have c4 : w3.cell? ⟨w.heap.size, 4, none⟩ = some (.int .i64 b.redox.lo) := hB3.cell 4 _ rfl
  have c5 : w3.cell? ⟨w.heap.size, 5, none⟩ = some (.int .i64 b.redox.hi) := hB3.cell 5 _ rfl
  go_wp2_with fail
  refine (withinS b.redox _ _ _).mono ?_
  rintro e w4 ⟨rfl, hb⟩
  have hA4 := hA3.trans (hb.mono hA3.size)
  have hB4 := hB3.below hb hB3.lt
  clear hb hB3 hA3 c4 c5 e4'
  cases e5 : withinB b.redox (-10000) 10000 with
  | false =>
    have hfin := Lib.hid (show checkB b = 1 by simp [checkB, E1.out, E2.out, E3.out, E4.out, e5])
    clear hB4
    go_wp2
    go_ret
    exact ⟨ret_int hfin.out.symm, hA4⟩
  | true =>
  have c6 : w4.cell? ⟨w.heap.size, 6, none⟩ = some (.int .i64 b.wanted) := hB4.cell 6 _ rfl
  go_wp2_with fail
  refine (betweenN b.wanted _ _ _).mono ?_
  rintro e w5 ⟨rfl, rfl⟩
  cases e6 : betweenB b.wanted 1 10000 with
  | false =>
    have hfin := Lib.hid (show checkB b = 1 by simp [checkB, E1.out, E2.out, E3.out, E4.out, e6])
    clear hB4 c6
    go_wp2
    go_ret
    exact ⟨ret_int hfin.out.symm, hA4⟩
  | true =>
    have hfin := Lib.hid (show checkB b = 0 by simp [checkB, E1.out, E2.out, E3.out, E4.out, e5, e6])
    clear hB4 c6
    go_wp2
    go_ret
    exact ⟨ret_int hfin.out.symm, hA4⟩

def recB (b : Bat) (r : List Int) : Int := if allBetweenB r b.mats.length 0 10000 = true then 0 else 1

theorem checkRecipe_any (v rv : Value) (b : Bat) (r : List Int) (w : World) (h : RBat w v b) (hr : RInts w rv r) :
    Calls Try.prog 110 #[v, rv] w fun e w' => e = .returned (.int .i64 (recB b r)) ∧ Below w.heap.size w w' := by
  obtain ⟨v0, v1, v2, v3, rfl, h0, h1, h2, h3, i1, i2, i3⟩ := h
  obtain ⟨a0, k0, rfl, -, ⟨-, l0⟩, -⟩ := h0
  obtain ⟨a1, k1, rfl, -, ⟨-, l1⟩, -⟩ := h1
  obtain ⟨a2, k2, rfl, -, ⟨-, l2⟩, -⟩ := h2
  obtain ⟨a3, k3, rfl, -, ⟨-, l3⟩, -⟩ := h3
  have hA := below_box w (.cells #[.slice a0 b.oxides.length k0, .slice a1 b.mats.length k1, .slice a2 b.shares.length k2, .slice a3 b.props.length k3, .int .i64 b.redox.lo, .int .i64 b.redox.hi, .int .i64 b.wanted] 29)
  go_enter Try.func110, Try.ntmps110
  go_wp2_with fail
  refine (allBetween_any rv r _ _ _ _ (hr.mono (ext_of_below hA))).mono ?_
  rintro e w1 ⟨rfl, hb⟩
  have hA1 := hA.trans (hb.mono (by simp))
  clear hb hA
  cases e1 : allBetweenB r b.mats.length 0 10000 with
  | false =>
    have hfin := Lib.hid (show recB b r = 1 by simp [recB, e1])
    go_wp2
    go_ret
    exact ⟨ret_int hfin.out.symm, hA1⟩
  | true =>
    have hfin := Lib.hid (show recB b r = 0 by simp [recB, e1])
    go_wp2
    go_ret
    exact ⟨ret_int hfin.out.symm, hA1⟩

def bothB (b : Bat) (r : List Int) : Int := if checkB b ≠ 0 then checkB b else recB b r

theorem RBat.agg {w : World} {v : Value} {b : Bat} (h : RBat w v b) : ∃ a0 k0 a1 k1 a2 k2 a3 k3, v = .agg #[.slice a0 b.oxides.length k0, .slice a1 b.mats.length k1, .slice a2 b.shares.length k2, .slice a3 b.props.length k3, .int .i64 b.redox.lo, .int .i64 b.redox.hi, .int .i64 b.wanted] := by
  obtain ⟨v0, v1, v2, v3, rfl, h0, h1, h2, h3, i1, i2, i3⟩ := h
  obtain ⟨a0, k0, rfl, -, ⟨-, l0⟩, -⟩ := h0
  obtain ⟨a1, k1, rfl, -, ⟨-, l1⟩, -⟩ := h1
  obtain ⟨a2, k2, rfl, -, ⟨-, l2⟩, -⟩ := h2
  obtain ⟨a3, k3, rfl, -, ⟨-, l3⟩, -⟩ := h3
  exact ⟨a0, k0, a1, k1, a2, k2, a3, k3, rfl⟩

set_option maxRecDepth 100000 in
theorem checkBoth_any (v rv : Value) (b : Bat) (r : List Int) (w : World) (h : RBat w v b) (hr : RInts w rv r) :
    Calls Try.prog 61 #[v, rv] w fun e w' => e = .returned (.int .i64 (bothB b r)) ∧ Below w.heap.size w w' := by
  obtain ⟨a0, k0, a1, k1, a2, k2, a3, k3, rfl⟩ := h.agg
  have hA := below_box w (.cells #[.slice a0 b.oxides.length k0, .slice a1 b.mats.length k1, .slice a2 b.shares.length k2, .slice a3 b.props.length k3, .int .i64 b.redox.lo, .int .i64 b.redox.hi, .int .i64 b.wanted] 29)
  have hB := Blk.new w #[.slice a0 b.oxides.length k0, .slice a1 b.mats.length k1, .slice a2 b.shares.length k2, .slice a3 b.props.length k3, .int .i64 b.redox.lo, .int .i64 b.redox.hi, .int .i64 b.wanted] 29
  go_enter Try.func61, Try.ntmps61
  go_wp2_with fail
  refine (check_any _ b _ (h.mono (ext_of_below hA))).mono ?_
  rintro e w1 ⟨rfl, hb⟩
  have hA1 := hA.trans (hb.mono (by simp))
  have hB1 := hB.below hb (by simp)
  clear hb hA hB
  by_cases e1 : checkB b = 0
  case neg =>
    have e1' : (checkB b != 0) = true := by simp [e1]
    have hfin := Lib.hid (show bothB b r = checkB b by simp [bothB, e1])
    clear hB1 e1
    go_wp2
    go_ret
    exact ⟨ret_int hfin.out.symm, hA1⟩
  have e1' : (checkB b != 0) = false := by simp [e1]
  have hfin := Lib.hid (show bothB b r = recB b r by simp [bothB, e1])
  clear e1
  have c0 : w1.cell? ⟨w.heap.size, 0, none⟩ = some (.slice a0 b.oxides.length k0) := hB1.cell 0 _ rfl
  have c1 : w1.cell? ⟨w.heap.size, 1, none⟩ = some (.slice a1 b.mats.length k1) := hB1.cell 1 _ rfl
  have c2 : w1.cell? ⟨w.heap.size, 2, none⟩ = some (.slice a2 b.shares.length k2) := hB1.cell 2 _ rfl
  have c3 : w1.cell? ⟨w.heap.size, 3, none⟩ = some (.slice a3 b.props.length k3) := hB1.cell 3 _ rfl
  have c4 : w1.cell? ⟨w.heap.size, 4, none⟩ = some (.int .i64 b.redox.lo) := hB1.cell 4 _ rfl
  have c5 : w1.cell? ⟨w.heap.size, 5, none⟩ = some (.int .i64 b.redox.hi) := hB1.cell 5 _ rfl
  have c6 : w1.cell? ⟨w.heap.size, 6, none⟩ = some (.int .i64 b.wanted) := hB1.cell 6 _ rfl
  go_wp2_with fail
  refine (checkRecipe_any _ rv b r _ (h.mono (ext_of_below hA1)) (hr.mono (ext_of_below hA1))).mono ?_
  rintro e w2 ⟨rfl, hb⟩
  have hA2 := hA1.trans (hb.mono hA1.size)
  clear hb c0 c1 c2 c3 c4 c5 c6 hB1 hA1
  go_wp2
  go_ret
  exact ⟨ret_int hfin.out.symm, hA2⟩

end Go.Proofs.Ytpkggjfaefkiiaa
