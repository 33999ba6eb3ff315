/- The materials and the properties of a batch; no statement is proved here. -/
import Derived.Test.YtnnkcbeadiembaaCheckNum
namespace Go.Proofs.Ytnnkcbeadiembaa
open Go.RowKit Go.PlainAid
set_option linter.unusedVariables false

def matsB (l : List Mat) (n : Int) : Int := if 12 < l.length then 3 else if l.length = 0 then 1 else seqB Mat.name (fun m => numB m n) [] l

theorem same_mat (m : Mat) (v : Value) (p : Nat) (x : ByteArray) (w : World) (h : VMat w v m) (h1 : w.cell? ⟨p, 0, none⟩ = some (.string x)) :
    Calls Try.prog 101 #[v, .pointer (some ⟨p, 0, none⟩)] w fun e w' => e = .returned (.bool (eqS m.name x)) ∧ Below w.heap.size w w' := by
  obtain ⟨c, rfl, h2, _⟩ := h
  have b1 := cell_lt h1
  simp only at b1
  clear h2
  go_enter Try.func101, Try.ntmps101
  go_wp2
  go_ret
  exact ⟨rfl, by go_grown⟩

theorem isFn_sameMat : IsFn 101 := fun xs w => by kernel_rfl

theorem same_prp (m : Prp) (v : Value) (p : Nat) (x : ByteArray) (w : World) (h : VPrp w v m) (h1 : w.cell? ⟨p, 0, none⟩ = some (.string x)) :
    Calls Try.prog 106 #[v, .pointer (some ⟨p, 0, none⟩)] w fun e w' => e = .returned (.bool (eqS m.name x)) ∧ Below w.heap.size w w' := by
  obtain ⟨c, rfl, h2, _⟩ := h
  have b1 := cell_lt h1
  simp only at b1
  clear h2
  go_enter Try.func106, Try.ntmps106
  go_wp2
  go_ret
  exact ⟨rfl, by go_grown⟩

theorem isFn_samePrp : IsFn 106 := fun xs w => by kernel_rfl

theorem tells_mat (l : List Mat) (p : Nat) (x : ByteArray) (w : World) (h1 : w.cell? ⟨p, 0, none⟩ = some (.string x)) :
    Tells 101 #[.pointer (some ⟨p, 0, none⟩)] VMat w l (fun m => eqS m.name x) :=
  fun m v w1 _ hv hb => same_mat m v p x w1 (hv.mono (ext_of_below hb)) (ext_of_below hb _ _ h1)

theorem tells_prp (l : List Prp) (p : Nat) (x : ByteArray) (w : World) (h1 : w.cell? ⟨p, 0, none⟩ = some (.string x)) :
    Tells 106 #[.pointer (some ⟨p, 0, none⟩)] VPrp w l (fun m => eqS m.name x) :=
  fun m v w1 _ hv hb => same_prp m v p x w1 (hv.mono (ext_of_below hb)) (ext_of_below hb _ _ h1)

set_option maxRecDepth 100000 in
theorem checkMaterials_any (a0 : Option Addr) (n0 cap0 : Nat) (v1 v2 v3 x4 x5 x6 : Value) (l : List Mat) (w : World) (h : RMats w v1 l) (hn0 : n0 ≤ 140737488351232) :
    Calls Try.prog 59 #[.agg #[.slice a0 n0 cap0, v1, v2, v3, x4, x5, x6]] w fun e w' => e = .returned (.int .i64 (matsB l n0)) ∧ Below w.heap.size w w' := by
  have hR := h
  obtain ⟨a, kap, rfl, hc1, ⟨hc2, hm⟩, hl⟩ := h
  have hA := below_box w (.cells #[.slice a0 n0 cap0, .slice a l.length kap, v2, v3, x4, x5, x6] 29)
  by_cases h12 : 12 < l.length
  · have he : matsB l n0 = 3 := by simp [matsB, h12]
    rw [he]; clear he hl
    go_enter Try.func59, Try.ntmps59
    go_wp2
    go_ret
    exact ⟨rfl, hA⟩
  by_cases h0 : l.length = 0
  · have he : matsB l n0 = 1 := by simp [matsB, h0]
    rw [he]; clear he hl
    have h1 : ((l.length : Int) == 0) = true := by simp [h0]
    clear h0
    go_enter Try.func59, Try.ntmps59
    go_wp2
    go_ret
    exact ⟨rfl, hA⟩
  have he : matsB l n0 = seqB Mat.name (fun m => numB m n0) [] l := by simp [matsB, h12, h0]
  rw [he]; clear he
  have h1 : ((l.length : Int) == 0) = false := by simp [h0]
  have h2 : decide ((12 : Int) < (l.length : Int)) = false := decide_eq_false (by omega)
  clear h0
  have hB := Blk.new w #[.slice a0 n0 cap0, .slice a l.length kap, v2, v3, x4, x5, x6] 29
  have hsz : w.heap.size + 1 ≤ (w.alloc (.cells #[.slice a0 n0 cap0, .slice a l.length kap, v2, v3, x4, x5, x6] 29)).heap.size := by simp
  have hR0 := hR.mono (ext_of_below hA)
  go_enter Try.func59, Try.ntmps59
  go_wp2
  generalize w.alloc (.cells #[.slice a0 n0 cap0, .slice a l.length kap, v2, v3, x4, x5, x6] 29) = W at *
  go_loopw [17] (fun i wr => ∃ (k : Nat), k ≤ l.length ∧ i = .int .i64 k ∧ Hid (seqB Mat.name (fun m => numB m n0) [] l = seqB Mat.name (fun m => numB m n0) (l.take k) (l.drop k)) ∧ Below W.heap.size W wr) (fun i _ => l.length - (intOf i).toNat)
  case atStart => exact ⟨0, Nat.zero_le _, rfl, rfl, Below.refl _ _⟩
  case round =>
    obtain ⟨k, hk, rfl, hx, hb⟩ := hrel
    have hfinB := hA.trans (hb.mono (by omega))
    have hsz2 := hb.size
    clear h1 h2 h12
    by_cases hlt : k < l.length
    · have hst := Lib.hid (seqB_step Mat.name (fun m => numB m n0) l k hlt)
      have hRr := hR0.mono (ext_of_below hb)
      obtain ⟨b, off, rfl, c, ⟨g0, g1, g2, g3, g4, g5, g6⟩, hc, hs⟩ := (hl k hlt)
      have hbl := cell_lt g0
      simp only at g0 g1 g2 g3 g4 g5 g6 hbl
      have hlt2 : w.heap.size < wr.heap.size := by omega
      have hcS := hc
      obtain ⟨ac, kc, rfl, -, -, -⟩ := hcS
      have hV : VMat wr (.agg #[.string l[k].name, .int .i64 l[k].price, .int .i64 l[k].redox, .int .i64 l[k].least, .int .i64 l[k].most, .int .i64 l[k].step, .slice ac l[k].content.length kc]) l[k] := ⟨_, rfl, hc.mono (ext_of_below hfinB), hs⟩
      obtain ⟨hcc, hzz⟩ := bcell hfinB
      have hBr := hB.below hb (by omega)
      have e0 : wr.cell? ⟨w.heap.size, 0, none⟩ = some (.slice a0 n0 cap0) := hBr.cell 0 _ rfl
      have e1 : wr.cell? ⟨w.heap.size, 1, none⟩ = some (.slice (some ⟨b, off, none⟩) l.length kap) := hBr.cell 1 _ rfl
      clear hl hc hB hA hR hR0
      generalize l[k] = s at *
      clear hsz hsz2
      go_wp2_with fail
      refine (isName_any s.name _ hs.1).mono ?_
      rintro e w1 ⟨rfl, rfl⟩
      have hAm := below_box wr (.cells #[.string s.name, .int .i64 s.price, .int .i64 s.redox, .int .i64 s.least, .int .i64 s.most, .int .i64 s.step, .slice ac s.content.length kc] 58)
      have hBm := Blk.new wr #[.string s.name, .int .i64 s.price, .int .i64 s.redox, .int .i64 s.least, .int .i64 s.most, .int .i64 s.step, .slice ac s.content.length kc] 58
      cases hn : nameB s.name with
      | false =>
        have hfin := hx.out.trans hst.out
        rw [if_pos hn] at hfin
        have HF := Lib.hid hfin
        clear hfin hn
        go_wp2
        go_ret
        exact ⟨ret_int HF.out.symm, hfinB.trans (hAm.mono (by omega))⟩
      | true =>
        go_wp2_with fail
        refine (containsFunc_mat _ isFn_sameMat _ (fun m => eqS m.name s.name) _ (l.take k) _ (RMats.mono (ext_of_below hAm) (hRr.take k hk)) (tells_mat _ _ _ _ (hBm.cell 0 _ rfl))).mono ?_
        rintro e w1 ⟨rfl, hb1⟩
        have hW1 := hAm.trans (hb1.mono (by simp))
        have hBm1 := hBm.below hb1 (by simp)
        cases hs1 : (l.take k).any (fun m => eqS m.name s.name) with
        | true =>
          have hfin := hx.out.trans hst.out
          rw [if_neg (by simp [hn]), if_pos hs1] at hfin
          have HF := Lib.hid hfin
          clear hfin hn hs1
          go_wp2
          go_ret
          exact ⟨ret_int HF.out.symm, hfinB.trans (hW1.mono (by omega))⟩
        | false =>
          have hfin := hx.out.trans hst.out
          rw [if_neg (by simp [hn]), if_neg (by simp [hs1])] at hfin
          have HF := Lib.hid hfin
          have d0 : w1.cell? ⟨wr.heap.size, 0, none⟩ = some (.string s.name) := hBm1.cell 0 _ rfl
          have d1 : w1.cell? ⟨wr.heap.size, 1, none⟩ = some (.int .i64 s.price) := hBm1.cell 1 _ rfl
          have d2 : w1.cell? ⟨wr.heap.size, 2, none⟩ = some (.int .i64 s.redox) := hBm1.cell 2 _ rfl
          have d3 : w1.cell? ⟨wr.heap.size, 3, none⟩ = some (.int .i64 s.least) := hBm1.cell 3 _ rfl
          have d4 : w1.cell? ⟨wr.heap.size, 4, none⟩ = some (.int .i64 s.most) := hBm1.cell 4 _ rfl
          have d5 : w1.cell? ⟨wr.heap.size, 5, none⟩ = some (.int .i64 s.step) := hBm1.cell 5 _ rfl
          have d6 : w1.cell? ⟨wr.heap.size, 6, none⟩ = some (.slice ac s.content.length kc) := hBm1.cell 6 _ rfl
          have f0 : w1.cell? ⟨w.heap.size, 0, none⟩ = some (.slice a0 n0 cap0) := (ext_of_below hW1) _ _ e0
          clear hfin hn hs1 hBm1 hb1 hBm hAm e0 e1 g0 g1 g2 g3 g4 g5 g6 hcc hzz
          go_wp2_with fail
          refine (checkNumbers_v s _ n0 _ (hV.mono (ext_of_below hW1))).mono ?_
          rintro e w2 ⟨rfl, hb2⟩
          have hW2 := hfinB.trans ((hW1.mono (Nat.le_refl _)).trans (hb2.mono hW1.size) |>.mono (by omega))
          have hW2' := hb.trans ((hW1.mono (Nat.le_refl _)).trans (hb2.mono hW1.size) |>.mono hb.size)
          clear hb2 hW1 hV hb
          by_cases hz : numB s n0 = 0
          · have hfin := HF.out
            rw [if_pos hz] at hfin
            have HX := Lib.hid hfin
            clear hfin HF hx hst
            go_wp2
            go_roundw
            case rel => exact ⟨k + 1, by omega, by go_num, HX, hW2'⟩
            case measure => simp [intOf]; omega
          · have hfin := HF.out
            rw [if_neg hz] at hfin
            have HX := Lib.hid hfin
            have hz' : (numB s n0 != 0) = true := by simp [hz]
            clear hfin HF hx hst hz
            go_wp2
            go_ret
            exact ⟨ret_int HX.out.symm, hW2⟩
    · have hfin := hx.out
      rw [seqB_end _ _ _ _ (by omega)] at hfin
      have HF := Lib.hid hfin
      clear hfin hx hl
      go_wp2
      go_ret
      exact ⟨ret_int HF.out.symm, hfinB⟩

end Go.Proofs.Ytnnkcbeadiembaa
