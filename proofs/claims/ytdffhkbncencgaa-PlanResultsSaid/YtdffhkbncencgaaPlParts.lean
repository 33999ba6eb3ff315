/- Which seasons may be, as far as their parts go: checkParts by its contract; no statement is proved here. -/
import Derived.Test.YtdffhkbncencgaaPlCheck
namespace Go.Proofs.Ytdffhkbncencgaa
open Go.RowKit Go.PlainAid
set_option linter.unusedVariables false
set_option linter.unusedSimpArgs false

def partF (s : Sn) : Nat → Int
  | 0 => artsE s
  | 1 => ovsE s
  | 2 => mksE s
  | 3 => turnsE s
  | _ => odsE s
def partsE (s : Sn) : Int := if btw s.days 1 14 = false then 1 else fe (partF s) 0 5

set_option maxHeartbeats 4000000 in
set_option maxRecDepth 100000 in
theorem checkParts_any (s : Sn) (d : SA) (w : World) (h : SnD w s d) : Calls Try.prog 55 #[.agg #[.int .i64 s.days, .slice d.a1 s.arts.length d.c1, .slice d.a2 s.ovens.length d.c2, .slice d.a3 s.mks.length d.c3, .slice d.a4 s.jobs.length d.c4, .slice d.a5 s.cols.length d.c5, .slice d.a6 s.ods.length d.c6]] w fun e w' => e = .returned (.int .i64 (partsE s)) ∧ Below w.heap.size w w' := by
  have hA := below_box w (.cells #[.int .i64 s.days, .slice d.a1 s.arts.length d.c1, .slice d.a2 s.ovens.length d.c2, .slice d.a3 s.mks.length d.c3, .slice d.a4 s.jobs.length d.c4, .slice d.a5 s.cols.length d.c5, .slice d.a6 s.ods.length d.c6] 28)
  have hB := Blk.new w #[.int .i64 s.days, .slice d.a1 s.arts.length d.c1, .slice d.a2 s.ovens.length d.c2, .slice d.a3 s.mks.length d.c3, .slice d.a4 s.jobs.length d.c4, .slice d.a5 s.cols.length d.c5, .slice d.a6 s.ods.length d.c6] 28
  go_enter Try.func55, Try.ntmps55
  go_wp2_with fail
  refine (between_any s.days 1 14 _).mono ?_
  rintro e w1 ⟨rfl, rfl⟩
  cases hd : btw s.days 1 14 with
  | false =>
    have HR : Hid (partsE s = 1) := Lib.hid (by unfold partsE; rw [if_pos hd])
    clear hd
    go_wp2
    go_ret
    exact ⟨ret_int HR.out.symm, hA⟩
  | true =>
  have hday := btw_true.1 hd
  have HE0 : Hid (partsE s = fe (partF s) 0 (5 - 0)) := Lib.hid (by unfold partsE; rw [if_neg (by rw [hd]; decide)])
  clear hd
  go_wp2
  obtain ⟨W, hW⟩ : ∃ W, (w.alloc (.cells #[.int .i64 s.days, .slice d.a1 s.arts.length d.c1, .slice d.a2 s.ovens.length d.c2, .slice d.a3 s.mks.length d.c3, .slice d.a4 s.jobs.length d.c4, .slice d.a5 s.cols.length d.c5, .slice d.a6 s.ods.length d.c6] 28)).alloc (.cells #[.func (.func 72) #[] #[], .func (.func 73) #[] #[], .func (.func 74) #[] #[], .func (.func 75) #[] #[], .func (.func 76) #[] #[]] 41) = W := ⟨_, rfl⟩
  have hAW : Below w.heap.size w W := by rw [← hW]; exact hA.trans (((below_box _ _).mono hA.size))
  have hL : Blk W (w.heap.size + 1) #[.func (.func 72) #[] #[], .func (.func 73) #[] #[], .func (.func 74) #[] #[], .func (.func 75) #[] #[], .func (.func 76) #[] #[]] 41 := by rw [← hW]; have := Blk.new (w.alloc (.cells #[.int .i64 s.days, .slice d.a1 s.arts.length d.c1, .slice d.a2 s.ovens.length d.c2, .slice d.a3 s.mks.length d.c3, .slice d.a4 s.jobs.length d.c4, .slice d.a5 s.cols.length d.c5, .slice d.a6 s.ods.length d.c6] 28)) #[.func (.func 72) #[] #[], .func (.func 73) #[] #[], .func (.func 74) #[] #[], .func (.func 75) #[] #[], .func (.func 76) #[] #[]] 41; rwa [World.size_alloc] at this
  have hBW : Blk W w.heap.size #[.int .i64 s.days, .slice d.a1 s.arts.length d.c1, .slice d.a2 s.ovens.length d.c2, .slice d.a3 s.mks.length d.c3, .slice d.a4 s.jobs.length d.c4, .slice d.a5 s.cols.length d.c5, .slice d.a6 s.ods.length d.c6] 28 := by rw [← hW]; exact hB.alloc _
  have hz : w.heap.size + 1 < W.heap.size := hL.lt
  clear hA hB
  generalize ((w.alloc (.cells #[.int .i64 s.days, .slice d.a1 s.arts.length d.c1, .slice d.a2 s.ovens.length d.c2, .slice d.a3 s.mks.length d.c3, .slice d.a4 s.jobs.length d.c4, .slice d.a5 s.cols.length d.c5, .slice d.a6 s.ods.length d.c6] 28)).alloc (.cells #[.func (.func 72) #[] #[], .func (.func 73) #[] #[], .func (.func 74) #[] #[], .func (.func 75) #[] #[], .func (.func 76) #[] #[]] 41)) = W' at *
  subst hW
  go_loopw [12] (fun i wr => ∃ k : Nat, k ≤ 5 ∧ i = .int .i64 k ∧ Hid (partsE s = fe (partF s) k (5 - k)) ∧ Below W'.heap.size W' wr) (fun i _ => 5 - (intOf i).toNat)
  case atStart => exact ⟨0, Nat.zero_le _, rfl, HE0, Below.refl _ _⟩
  case round =>
    obtain ⟨k, hk, rfl, hx, hb⟩ := hrel
    have hE := hAW.trans (hb.mono (by omega))
    have hBr := hBW.below hb hBW.lt
    have hLr := hL.below hb hL.lt
    have hsr := h.mono (ext_of_below hE)
    have e0 := hBr.cell 0 _ rfl
    have e1 := hBr.cell 1 _ rfl
    have e2 := hBr.cell 2 _ rfl
    have e3 := hBr.cell 3 _ rfl
    have e4 := hBr.cell 4 _ rfl
    have e5 := hBr.cell 5 _ rfl
    have e6 := hBr.cell 6 _ rfl
    by_cases hlt : k < 5
    · have HF := fe_rel hx hlt
      clear hx
      obtain rfl | rfl | rfl | rfl | rfl : k = 0 ∨ k = 1 ∨ k = 2 ∨ k = 3 ∨ k = 4 := by omega
      · have c0 := hLr.cell 0 _ rfl
        go_wp2_with fail
        refine (checkArticles_any s d _ hsr).mono ?_
        rintro e w2 ⟨rfl, hb2⟩
        have hE2 := hE.trans (hb2.mono hE.size)
        have HW2 := Lib.hid (hb.trans (hb2.mono hb.size))
        clear hb hb2 hBr hLr hsr c0 e0 e1 e2 e3 e4 e5 e6
        by_cases h0 : artsE s = 0
        · have HR := HF.out.1 h0
          have hq : (artsE s != 0) = false := by rw [h0]; rfl
          clear HF h0
          generalize artsE s = E at *
          go_wp2
          go_roundw
          case rel => exact ⟨0 + 1, by omega, by go_num, HR, HW2.out⟩
          case measure => simp [intOf]
        · have HR := Lib.hid (HF.out.2 _ rfl h0)
          have hq : (artsE s != 0) = true := by rw [bne_iff_ne]; exact h0
          unfold partF at HR
          clear HF h0
          generalize artsE s = E at *
          go_wp2
          go_ret
          exact ⟨ret_int HR.out.symm, hE2⟩
      · have c0 := hLr.cell 1 _ rfl
        go_wp2_with fail
        refine (checkOvens_any s d _ hsr).mono ?_
        rintro e w2 ⟨rfl, hb2⟩
        have hE2 := hE.trans (hb2.mono hE.size)
        have HW2 := Lib.hid (hb.trans (hb2.mono hb.size))
        clear hb hb2 hBr hLr hsr c0 e0 e1 e2 e3 e4 e5 e6
        by_cases h0 : ovsE s = 0
        · have HR := HF.out.1 h0
          have hq : (ovsE s != 0) = false := by rw [h0]; rfl
          clear HF h0
          generalize ovsE s = E at *
          go_wp2
          go_roundw
          case rel => exact ⟨1 + 1, by omega, by go_num, HR, HW2.out⟩
          case measure => simp [intOf]
        · have HR := Lib.hid (HF.out.2 _ rfl h0)
          have hq : (ovsE s != 0) = true := by rw [bne_iff_ne]; exact h0
          unfold partF at HR
          clear HF h0
          generalize ovsE s = E at *
          go_wp2
          go_ret
          exact ⟨ret_int HR.out.symm, hE2⟩
      · have c0 := hLr.cell 2 _ rfl
        go_wp2_with fail
        refine (checkMakers_any s d _ hsr).mono ?_
        rintro e w2 ⟨rfl, hb2⟩
        have hE2 := hE.trans (hb2.mono hE.size)
        have HW2 := Lib.hid (hb.trans (hb2.mono hb.size))
        clear hb hb2 hBr hLr hsr c0 e0 e1 e2 e3 e4 e5 e6
        by_cases h0 : mksE s = 0
        · have HR := HF.out.1 h0
          have hq : (mksE s != 0) = false := by rw [h0]; rfl
          clear HF h0
          generalize mksE s = E at *
          go_wp2
          go_roundw
          case rel => exact ⟨2 + 1, by omega, by go_num, HR, HW2.out⟩
          case measure => simp [intOf]
        · have HR := Lib.hid (HF.out.2 _ rfl h0)
          have hq : (mksE s != 0) = true := by rw [bne_iff_ne]; exact h0
          unfold partF at HR
          clear HF h0
          generalize mksE s = E at *
          go_wp2
          go_ret
          exact ⟨ret_int HR.out.symm, hE2⟩
      · have c0 := hLr.cell 3 _ rfl
        go_wp2_with fail
        refine (checkTurns_any s d _ hsr).mono ?_
        rintro e w2 ⟨rfl, hb2⟩
        have hE2 := hE.trans (hb2.mono hE.size)
        have HW2 := Lib.hid (hb.trans (hb2.mono hb.size))
        clear hb hb2 hBr hLr hsr c0 e0 e1 e2 e3 e4 e5 e6
        by_cases h0 : turnsE s = 0
        · have HR := HF.out.1 h0
          have hq : (turnsE s != 0) = false := by rw [h0]; rfl
          clear HF h0
          generalize turnsE s = E at *
          go_wp2
          go_roundw
          case rel => exact ⟨3 + 1, by omega, by go_num, HR, HW2.out⟩
          case measure => simp [intOf]
        · have HR := Lib.hid (HF.out.2 _ rfl h0)
          have hq : (turnsE s != 0) = true := by rw [bne_iff_ne]; exact h0
          unfold partF at HR
          clear HF h0
          generalize turnsE s = E at *
          go_wp2
          go_ret
          exact ⟨ret_int HR.out.symm, hE2⟩
      · have c0 := hLr.cell 4 _ rfl
        go_wp2_with fail
        refine (checkOrders_any s d _ hsr hday).mono ?_
        rintro e w2 ⟨rfl, hb2⟩
        have hE2 := hE.trans (hb2.mono hE.size)
        have HW2 := Lib.hid (hb.trans (hb2.mono hb.size))
        clear hb hb2 hBr hLr hsr c0 e0 e1 e2 e3 e4 e5 e6
        by_cases h0 : odsE s = 0
        · have HR := HF.out.1 h0
          have hq : (odsE s != 0) = false := by rw [h0]; rfl
          clear HF h0
          generalize odsE s = E at *
          go_wp2
          go_roundw
          case rel => exact ⟨4 + 1, by omega, by go_num, HR, HW2.out⟩
          case measure => simp [intOf]
        · have HR := Lib.hid (HF.out.2 _ rfl h0)
          have hq : (odsE s != 0) = true := by rw [bne_iff_ne]; exact h0
          unfold partF at HR
          clear HF h0
          generalize odsE s = E at *
          go_wp2
          go_ret
          exact ⟨ret_int HR.out.symm, hE2⟩
    · obtain rfl : k = 5 := by omega
      have HR := Lib.hid (fe_end hx)
      clear hx
      go_wp2
      go_ret
      exact ⟨ret_int HR.out.symm, hE⟩

end Go.Proofs.Ytdffhkbncencgaa
