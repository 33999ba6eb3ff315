/- The specification's own Check; no statement is proved here. -/
import Derived.Test.YtpkggjfaefkiiaaRMat
import Derived.Test.YtpkggjfaefkiiaaNewLine
import Derived.Deep.QuietTactic
import Derived.BigQuiet
import Derived.StillTailTactics
namespace Go.Proofs.Ytpkggjfaefkiiaa
open Go.RowKit Go.PlainAid
set_option linter.unusedVariables false

theorem info_str : (Try.prog.info? 9).map (fun i => (i.zero, i.size, i.bytes)) = some (some (.string ⟨#[]⟩), 1, 16) := by kernel_rfl

theorem own_RStrs {w : World} {base : Nat} {e : TypeId} {v : Value} {l : List ByteArray} (h : w.ownsRow base e 1 v l.length (l.map Value.string)) (hm : l.length ≤ 140737488351232) (hi : ∀ x ∈ l, x.size ≤ 140737488351232) : RStrs w v l :=
  own_RSl h hm fun g cap _ hc i hil => by
    have := hc i (by simpa using hil)
    rw [List.getElem_map] at this
    exact ⟨by rw [Nat.mul_one]; exact this, hi _ (List.getElem_mem hil)⟩

/-- where the way through a batch's parts stands. -/
theorem chk_ox {b : Bat} (h : oxB b.oxides ≠ 0) : checkB b = oxB b.oxides := by simp [checkB, h]
theorem chk_mt {b : Bat} (h : oxB b.oxides = 0) (h2 : matsB b.mats b.oxides.length ≠ 0) : checkB b = matsB b.mats b.oxides.length := by simp [checkB, h, h2]
theorem chk_sh {b : Bat} (h : oxB b.oxides = 0) (h2 : matsB b.mats b.oxides.length = 0) (h3 : allWithinB b.shares b.oxides.length 0 1000 = false) : checkB b = 1 := by simp [checkB, h, h2, h3]
theorem chk_pr {b : Bat} (h : oxB b.oxides = 0) (h2 : matsB b.mats b.oxides.length = 0) (h3 : allWithinB b.shares b.oxides.length 0 1000 = true) (h4 : prpsB b.props b.oxides.length ≠ 0) : checkB b = prpsB b.props b.oxides.length := by simp [checkB, h, h2, h3, h4]
theorem chk_end {b : Bat} (h : oxB b.oxides = 0) (h2 : matsB b.mats b.oxides.length = 0) (h3 : allWithinB b.shares b.oxides.length 0 1000 = true) (h4 : prpsB b.props b.oxides.length = 0) : checkB b = if (withinB b.redox (-10000) 10000 && betweenB b.wanted 1 10000) = false then 1 else 0 := by simp [checkB, h, h2, h3, h4]

theorem any_map {α : Type} (l : List α) (f : α → ByteArray) (x : ByteArray) : ((l.map f).any fun y => eqS y x) = l.any fun a => eqS (f a) x := by
  rw [List.any_map]; rfl

theorem grown_drewN {B n : Nat} {a w : World} (h : Below B a w) : Below B a (w.drewN n) := ⟨h.os, h.tape, h.output, h.size, h.block⟩

theorem ext_drewN (w : World) (n : Nat) : Ext w (w.drewN n) := ext_of_below (grown_drewN (Below.refl _ _))

theorem own_drawn {w : World} {base : Nat} {e : TypeId} {size : Nat} {v : Value} {n : Nat} {xs : List Value} (h : w.ownsRow base e size v n xs) : w.drew.ownsRow base e size v n xs := h

def RetN (w : World) (n : Int) (e : Ending) (w' : World) : Prop := e = .returned (.int .i64 n) ∧ Below w.heap.size w w'

set_option maxHeartbeats 4000000 in
set_option maxRecDepth 100000 in
theorem rcheck_any (vb : Value) (b : Bat) (w : World) (h : RBat w vb b) :
    Calls Try.prog 18 #[vb] w (RetN w (checkB b)) := by
  obtain ⟨v0, v1, v2, v3, rfl, h0, h1, h2, h3, i1, i2, i3⟩ := h
  obtain ⟨a0, k0, rfl, p0, ⟨p0', l0⟩, hl0⟩ := id h0
  obtain ⟨a1, k1, rfl, -, ⟨-, l1⟩, hl1⟩ := id h1
  obtain ⟨a2, k2, rfl, -, ⟨-, l2⟩, hl2⟩ := id h2
  obtain ⟨a3, k3, rfl, -, ⟨-, l3⟩, hl3⟩ := id h3
  obtain ⟨ii, hi, hz0, hz1, hz2⟩ := info_parts info_str
  have hA := below_box w (.cells #[.slice a0 b.oxides.length k0, .slice a1 b.mats.length k1, .slice a2 b.shares.length k2, .slice a3 b.props.length k3, .int .i64 b.redox.lo, .int .i64 b.redox.hi, .int .i64 b.wanted] 29)
  have hB := Blk.new w #[.slice a0 b.oxides.length k0, .slice a1 b.mats.length k1, .slice a2 b.shares.length k2, .slice a3 b.props.length k3, .int .i64 b.redox.lo, .int .i64 b.redox.hi, .int .i64 b.wanted] 29
  by_cases h12 : 12 < b.oxides.length
  · have HF := Lib.hid (show checkB b = 3 by rw [chk_ox (by simp [oxB, h12])]; simp [oxB, h12])
    clear hl0 hl1 hl2 hl3 h0 h1 h2 h3 hB
    go_enter Try.func18, Try.ntmps18
    go_wp2
    go_ret
    exact ⟨ret_int HF.out.symm, hA⟩
  by_cases hz : b.oxides.length = 0
  · have HF := Lib.hid (show checkB b = 1 by rw [chk_ox (by simp [oxB, hz])]; simp [oxB, hz])
    have e1 : ((b.oxides.length : Int) == 0) = true := by simp [hz]
    clear hl0 hl1 hl2 hl3 h0 h1 h2 h3 hB hz
    go_enter Try.func18, Try.ntmps18
    go_wp2
    go_ret
    exact ⟨ret_int HF.out.symm, hA⟩
  have HO := Lib.hid (show oxB b.oxides = seqB (fun x => x) (fun _ => 0) [] b.oxides by simp [oxB, h12, hz])
  have e1 : ((b.oxides.length : Int) == 0) = false := by simp [hz]
  have e2 : decide ((12 : Int) < (b.oxides.length : Int)) = false := decide_eq_false (by omega)
  clear hz h12
  go_enter Try.func18, Try.ntmps18
  go_wp2
  generalize w.alloc (.cells #[.slice a0 b.oxides.length k0, .slice a1 b.mats.length k1, .slice a2 b.shares.length k2, .slice a3 b.props.length k3, .int .i64 b.redox.lo, .int .i64 b.redox.hi, .int .i64 b.wanted] 29) = W at *
  clear e1 e2
  have H0 := h0.mono (ext_of_below hA)
  have H1 := h1.mono (ext_of_below hA)
  have H2 := h2.mono (ext_of_below hA)
  have H3 := h3.mono (ext_of_below hA)
  clear h0 h1 h2 h3
  go_loopw [3] (fun i wr => ∃ (k : Nat), k ≤ b.oxides.length ∧ i = .int .i64 k ∧ Hid (seqB (fun x => x) (fun _ => 0) [] b.oxides = seqB (fun x => x) (fun _ => 0) (b.oxides.take k) (b.oxides.drop k)) ∧ Below W.heap.size W wr) (fun i _ => b.oxides.length - (intOf i).toNat)
  case atStart => exact ⟨0, Nat.zero_le _, rfl, rfl, Below.refl _ _⟩
  case round =>
    obtain ⟨k, hk, rfl, hx, hb⟩ := hrel
    have hfinB := hA.trans (hb.mono hA.size)
    have hBr := hB.below hb hB.lt
    have f0 := hBr.cell 0 (.slice a0 b.oxides.length k0) rfl
    by_cases hlt : k < b.oxides.length
    · have hst := Lib.hid (seqB_step (fun x => x) (fun _ => 0) b.oxides k hlt)
      have hT := (H0.mono (ext_of_below hb)).take k (by omega)
      obtain ⟨b1, o1, rfl, q1, q2⟩ := hl0 k hlt
      simp only [Nat.mul_one] at q1
      replace q1 := ext_of_below hfinB _ _ q1
      clear hl0 hl1 hl2 hl3 H0 H1 H2 H3 hB hBr hA
      generalize b.oxides[k] = s at *
      go_wp2_with fail
      refine (rname_any s _ q2).mono ?_
      rintro e w1 ⟨rfl, rfl⟩
      cases hn : nameB s with
      | false =>
        have HF := Lib.hid (show checkB b = 5 by
          have e : oxB b.oxides = 5 := by rw [HO.out, hx.out, hst.out, if_pos hn]
          rw [chk_ox (by rw [e]; decide), e])
        clear hn
        go_wp2
        go_ret
        exact ⟨ret_int HF.out.symm, hfinB⟩
      | true =>
        go_wp2_with fail
        have j1 : (0 : Int) ≤ (k : Int) := Int.natCast_nonneg _
        have j2 : (k : Int) ≤ (k0 : Int) := by omega
        have j3 : (k : Int) < (b.oxides.length : Int) := by omega
        go_quiet ((go_at_call 57; exact Calls.quiet_of_same ((rin_any _ (b.oxides.take k) s _ (RStrs.mono (ext_drewN _ _) hT)).mono fun e w' h => ⟨h.1, h.2.symm⟩)))
        cases hs : (b.oxides.take k).any (fun y => eqS y s) with
        | true =>
          have HF := Lib.hid (show checkB b = 6 by
            have e : oxB b.oxides = 6 := by rw [HO.out, hx.out, hst.out, if_neg (by simp [hn]), if_pos hs]
            rw [chk_ox (by rw [e]; decide), e])
          clear hn hs
          go_wp2
          go_ret
          exact ⟨ret_int HF.out.symm, grown_drewN hfinB⟩
        | false =>
          have HX := Lib.hid (hx.out.trans hst.out)
          have HN := Lib.hid hn
          have HS := Lib.hid hs
          clear hn hs
          go_wp2
          go_roundw
          case rel => exact ⟨k + 1, by omega, by go_num, by have := HX.out; rw [if_neg (by simp [HN.out]), if_neg (by simp [HS.out]), if_true] at this; exact this, grown_drewN hb⟩
          case measure => simp [intOf]; omega
    · have E1 := Lib.hid (show oxB b.oxides = 0 by rw [HO.out, hx.out, seqB_end _ _ _ _ (by omega)])
      have f1 := hBr.cell 1 (.slice a1 b.mats.length k1) rfl
      have hko : b.oxides.length ≤ k := by omega
      clear hx hl0
      by_cases h12 : 12 < b.mats.length
      · have HF := Lib.hid (show checkB b = 3 by rw [chk_mt E1.out (by simp [matsB, h12])]; simp [matsB, h12])
        clear hl1 hl2 hl3 H0 H1 H2 H3
        go_wp2
        go_ret
        exact ⟨ret_int HF.out.symm, hfinB⟩
      by_cases hz : b.mats.length = 0
      · have HF := Lib.hid (show checkB b = 1 by rw [chk_mt E1.out (by simp [matsB, hz])]; simp [matsB, hz])
        have e1 : ((b.mats.length : Int) == 0) = true := by simp [hz]
        clear hl1 hl2 hl3 H0 H1 H2 H3 hz
        go_wp2
        go_ret
        exact ⟨ret_int HF.out.symm, hfinB⟩
      have HM := Lib.hid (show matsB b.mats b.oxides.length = seqB Mat.name (fun m => numB m b.oxides.length) [] b.mats by simp [matsB, h12, hz])
      have e1 : ((b.mats.length : Int) == 0) = false := by simp [hz]
      have e2 : decide ((12 : Int) < (b.mats.length : Int)) = false := decide_eq_false (by omega)
      have hm12 : b.mats.length ≤ 12 := by omega
      clear hz h12
      go_wp2
      clear e1 e2
      have hBo := hBr
      have hbo := hb
      have hszo := hb.size
      clear hBr hb hfinB f0 f1
      obtain ⟨wo, rfl⟩ : ∃ wo : World, wo = wr := ⟨_, rfl⟩
      go_loopw [4, 5] (fun u i wr => ∃ (k : Nat) (l : List ByteArray), k ≤ b.mats.length ∧ i = .int .i64 k ∧ Hid (l = (b.mats.take k).map Mat.name) ∧ Hid (seqB Mat.name (fun m => numB m b.oxides.length) [] b.mats = seqB Mat.name (fun m => numB m b.oxides.length) (b.mats.take k) (b.mats.drop k)) ∧ wr.ownsRow W.heap.size 9 1 u l.length (l.map Value.string) ∧ Below W.heap.size W wr) (fun _ i _ => b.mats.length - (intOf i).toNat)
      case atStart => exact ⟨0, [], Nat.zero_le _, rfl, rfl, rfl, World.ownsRow_nil _ _ _ _, hbo⟩
      case round =>
        clear hbo hBo hszo
        obtain ⟨k, l, hk, rfl, hl, hx, hown, hb⟩ := hrel
        have hfinB := hA.trans (hb.mono hA.size)
        have hBr := hB.below hb hB.lt
        have f0 := hBr.cell 0 (.slice a0 b.oxides.length k0) rfl
        have f1 := hBr.cell 1 (.slice a1 b.mats.length k1) rfl
        by_cases hlt : k < b.mats.length
        · have hst := Lib.hid (seqB_step Mat.name (fun m => numB m b.oxides.length) b.mats k hlt)
          have hll : l.length ≤ 12 := by rw [hl.out]; simp; omega
          have hsn := Lib.hid (show l ++ [(b.mats[k]'hlt).name] = (b.mats.take (k + 1)).map Mat.name by rw [hl.out, List.take_succ_eq_append_getElem hlt, List.map_append, List.map_singleton])
          have hany := Lib.hid (any_map (b.mats.take k) Mat.name (b.mats[k]'hlt).name)
          have hns : ∀ x ∈ l, x.size ≤ 140737488351232 := by
            rw [hl.out]
            intro x hx
            obtain ⟨m, hm, rfl⟩ := List.mem_map.1 hx
            obtain ⟨i, hi, rfl⟩ := List.getElem_of_mem (List.mem_of_mem_take hm)
            obtain ⟨-, -, -, c, -, -, hs⟩ := hl1 i hi
            exact hs.1
          obtain ⟨b1, o1, rfl, c, ⟨g0, g1, g2, g3, g4, g5, g6⟩, hc, hs⟩ := hl1 k hlt
          obtain ⟨ac, kc, rfl, -, -, -⟩ := id hc
          have hbl := cell_lt g0
          simp only at g0 g1 g2 g3 g4 g5 g6 hbl
          have hV : VMat w (.agg #[.string b.mats[k].name, .int .i64 b.mats[k].price, .int .i64 b.mats[k].redox, .int .i64 b.mats[k].least, .int .i64 b.mats[k].most, .int .i64 b.mats[k].step, .slice ac b.mats[k].content.length kc]) b.mats[k] := ⟨_, rfl, hc, hs⟩
          have hsn1 := hs.1
          have g0' := g0
          replace g0 := ext_of_below hfinB _ _ g0
          have hRS := own_RStrs hown (by omega) hns
          clear hl1 hl2 hl3 H0 H1 H2 H3 hc hs hns
          generalize b.mats[k] = s at *
          go_wp2_with fail
          refine (rname_any s.name _ hsn1).mono ?_
          rintro e w1 ⟨rfl, rfl⟩
          cases hn : nameB s.name with
          | false =>
            have HF := Lib.hid (show checkB b = 5 by
              have e : matsB b.mats b.oxides.length = 5 := by rw [HM.out, hx.out, hst.out, if_pos hn]
              rw [chk_mt E1.out (by rw [e]; decide), e])
            clear hn
            go_wp2
            go_ret
            exact ⟨ret_int HF.out.symm, hfinB⟩
          | true =>
            go_wp2_with fail
            refine (rin_any _ l s.name _ hRS).mono ?_
            rintro e w1 ⟨rfl, rfl⟩
            cases hs : l.any (fun y => eqS y s.name) with
            | true =>
              have HF := Lib.hid (show checkB b = 6 by
                have e : matsB b.mats b.oxides.length = 6 := by rw [HM.out, hx.out, hst.out, if_neg (by simp [hn]), if_pos (by rw [← hany.out, ← hl.out]; exact hs)]
                rw [chk_mt E1.out (by rw [e]; decide), e])
              clear hn hs
              go_wp2
              go_ret
              exact ⟨ret_int HF.out.symm, hfinB⟩
            | false =>
              have HX : Hid (seqB Mat.name (fun m => numB m b.oxides.length) [] b.mats = if numB s b.oxides.length = 0 then seqB Mat.name (fun m => numB m b.oxides.length) (b.mats.take (k + 1)) (b.mats.drop (k + 1)) else numB s b.oxides.length) := by
                have := hx.out.trans hst.out
                rw [if_neg (by simp [hn]), if_neg (by rw [← hany.out, ← hl.out]; simp [hs])] at this
                exact this
              have hown2 := hown.alloc (.cells #[.string s.name] 9)
              have hszr := hb.size
              clear hn hs hx hst hRS hany hl
              go_wp2_with (at_builtin; refine wpList_append_own _ rfl _ _ 22 rfl W.heap.size 9 ii (.string ⟨#[]⟩) 1 16 Try.underlying22 hi hz0 hz1 hz2 rfl (by decide) _ l.length _ rfl hown2 ⟨wr.heap.size, 0, none⟩ 1 1 [.string s.name] rfl rfl (cell_one_new _ _ _) (by simp [Value.oneCell']) (by unfold maxLen; omega) (by omega) (by simp; omega) ?_; intro v6 w6 hown6 hgrow6 _)
              have hb6 := (hb.alloc hb.size (.cells #[.string s.name] 9)).grown hgrow6 (by simp; omega) (fun q hq => (hown2.lt q hq).1)
              have hownF : w6.ownsRow W.heap.size 9 1 v6 (l ++ [s.name]).length ((l ++ [s.name]).map Value.string) := by simpa using hown6
              have hf6 := hA.trans (hb6.mono hA.size)
              have hB6 := hB.below hb6 hB.lt
              clear f0 f1 g0 hown hown2 hown6 hgrow6 hb hfinB hBr hsn1
              have f0 := hB6.cell 0 (.slice a0 b.oxides.length k0) rfl
              have f1 : w6.cell? ⟨w.heap.size, 1, none⟩ = some (.slice (some ⟨b1, o1, none⟩) b.mats.length k1) := hB6.cell 1 _ rfl
              have f2 := hB6.cell 2 (.slice a2 b.shares.length k2) rfl
              have f3 := hB6.cell 3 (.slice a3 b.props.length k3) rfl
              have f4 := hB6.cell 4 (.int .i64 b.redox.lo) rfl
              have f5 := hB6.cell 5 (.int .i64 b.redox.hi) rfl
              have f6 := hB6.cell 6 (.int .i64 b.wanted) rfl
              replace g1 := ext_of_below hf6 _ _ g1
              replace g2 := ext_of_below hf6 _ _ g2
              replace g3 := ext_of_below hf6 _ _ g3
              replace g4 := ext_of_below hf6 _ _ g4
              replace g5 := ext_of_below hf6 _ _ g5
              replace g6 := ext_of_below hf6 _ _ g6
              have g0 : w6.cell? ⟨b1, o1 + k * 7, none⟩ = some (.string s.name) := ext_of_below hf6 _ _ g0'
              have hV6 := hV.mono (ext_of_below hf6)
              clear hV g0' hbl
              have j1 : (0 : Int) ≤ (k : Int) := Int.natCast_nonneg _
              have j3 : (k : Int) < (b.mats.length : Int) := by omega
              refine wp_region_still_tail 6 (by kernel_rfl) (by kernel_rfl) ?_
              simp only [List.take_succ_cons, List.take_zero, List.drop_succ_cons, List.drop_zero]
              repeat still_step
              refine wpStill_nil ?_
              change wpList _ _ _ _ _ w6.drew
              clear g0 g1 g2 g3 g4 g5 g6 f0 f1 f2 f3 f4 f5 f6 j1 j3
              go_wp2_with fail
              refine (rmaterial_any a0 _ k0 _ _ _ _ _ _ s _ _ (hV6.mono (ext_drewN _ 1)) l0).mono ?_
              rintro e w7 ⟨rfl, hb7⟩
              have hb8 := hb6.drew.trans (hb7.mono hb6.size)
              have hf8 := hA.trans (hb8.mono hA.size)
              have hown8 := own_below (own_drawn hownF) hb7 (own_lt (own_drawn hownF))
              clear hV6 hb6 hf6 hB6 hb7 hownF
              by_cases hz : numB s b.oxides.length = 0
              · have HY := Lib.hid (HX.out.trans (if_pos hz))
                have hz' : (numB s b.oxides.length != 0) = false := by simp [hz]
                clear hz
                go_wp2
                go_roundw
                case rel => exact ⟨k + 1, l ++ [s.name], by omega, by go_num, hsn, HY, hown8, hb8⟩
                case measure => simp [intOf]; omega
              · have HY := Lib.hid (show checkB b = numB s b.oxides.length by
                  have e : matsB b.mats b.oxides.length = numB s b.oxides.length := by rw [HM.out, HX.out, if_neg hz]
                  rw [chk_mt E1.out (by rw [e]; exact hz), e])
                have hz' : (numB s b.oxides.length != 0) = true := by simp [hz]
                clear hz
                go_wp2
                go_ret
                exact ⟨ret_int HY.out.symm, hf8⟩
        · have E2 := Lib.hid (show matsB b.mats b.oxides.length = 0 by rw [HM.out, hx.out, seqB_end _ _ _ _ (by omega)])
          have f2 := hBr.cell 2 (.slice a2 b.shares.length k2) rfl
          have hko : b.mats.length ≤ k := by omega
          clear hx hl1 hl hown
          by_cases hln : b.shares.length = b.oxides.length
          case neg =>
            have HF := Lib.hid (show checkB b = 1 by
              rw [chk_sh E1.out E2.out]
              unfold allWithinB
              rw [Bool.and_eq_false_iff]
              left
              simp; omega)
            have hq : ((b.shares.length : Int) != (b.oxides.length : Int)) = true := by rw [bne_iff_ne]; omega
            clear hln hl2 hl3 H0 H1 H2 H3
            go_wp2
            go_ret
            exact ⟨ret_int HF.out.symm, hfinB⟩
          have HW := Lib.hid (any_notwithin_end (l := b.shares) (n := (b.oxides.length : Int)) (by omega))
          have hq : ((b.shares.length : Int) != (b.oxides.length : Int)) = false := by rw [bne_eq_false_iff_eq]; omega
          clear hln
          go_wp2
          have hbo := hb
          clear hq hBr hb hfinB f0 f1 f2
          obtain ⟨w2, rfl⟩ : ∃ w2 : World, w2 = wr := ⟨_, rfl⟩
          go_loopw [7] (fun i wr => ∃ (k : Nat), k ≤ b.shares.length ∧ i = .int .i64 k ∧ Hid ((b.shares.take k).any (fun s => !withinB s 0 1000) = false) ∧ Below W.heap.size W wr) (fun i _ => b.shares.length - (intOf i).toNat)
          case atStart => exact ⟨0, Nat.zero_le _, rfl, by simp [Hid], hbo⟩
          case round =>
            clear hbo
            obtain ⟨k, hk, rfl, hall, hb⟩ := hrel
            have hfinB := hA.trans (hb.mono hA.size)
            have hBr := hB.below hb hB.lt
            have f2 := hBr.cell 2 (.slice a2 b.shares.length k2) rfl
            by_cases hlt : k < b.shares.length
            · obtain ⟨b1, o1, rfl, q1, q2, -, -⟩ := hl2 k hlt
              have hst := Lib.hid (any_take b.shares (fun s => !withinB s 0 1000) k hlt hall.out)
              have hno := Lib.hid (any_of b.shares (fun s => !withinB s 0 1000) k hlt)
              have hbl := cell_lt q1
              simp only at q1 q2 hbl
              replace q1 := ext_of_below hfinB _ _ q1
              replace q2 := ext_of_below hfinB _ _ q2
              clear hl2 hl3 H0 H1 H2 H3 hall hA hB hBr
              generalize b.shares[k] = s at *
              go_wp2_with fail
              refine (rwithin_any s 0 1000 _).mono ?_
              rintro e w1 ⟨rfl, hb1⟩
              have hb2 := hb.trans (hb1.mono hb.size)
              have hf2 := hfinB.trans (hb1.mono hfinB.size)
              clear q1 q2 hb1
              cases hw : withinB s 0 1000 with
              | false =>
                have HX := Lib.hid (show checkB b = 1 by
                  exact chk_sh E1.out E2.out (by rw [HW.out, hno.out (by simp [hw])]; rfl))
                clear hw
                go_wp2
                go_ret
                exact ⟨ret_int HX.out.symm, hf2⟩
              | true =>
                have hst2 : Hid ((b.shares.take (k + 1)).any (fun s => !withinB s 0 1000) = false) := by
                  unfold Hid; rw [hst.out]; simp [hw]
                clear hw
                go_wp2
                go_roundw
                case rel => exact ⟨k + 1, by omega, by go_num, hst2, hb2⟩
                case measure => simp [intOf]; omega
            · have E3 := Lib.hid (show allWithinB b.shares b.oxides.length 0 1000 = true by
                have := hall.out
                rw [List.take_of_length_le (by omega)] at this
                rw [HW.out, this]; rfl)
              have f3 := hBr.cell 3 (.slice a3 b.props.length k3) rfl
              have hko : b.shares.length ≤ k := by omega
              clear hall hl2
              by_cases h6 : 6 < b.props.length
              · have HF := Lib.hid (show checkB b = 3 by rw [chk_pr E1.out E2.out E3.out (by simp [prpsB, h6])]; simp [prpsB, h6])
                clear hl3 H0 H1 H2 H3
                go_wp2
                go_ret
                exact ⟨ret_int HF.out.symm, hfinB⟩
              have HP := Lib.hid (show prpsB b.props b.oxides.length = seqB Prp.name (prpB b.oxides.length) [] b.props by simp [prpsB, h6])
              have e2 : decide ((6 : Int) < (b.props.length : Int)) = false := decide_eq_false (by omega)
              have hm6 : b.props.length ≤ 6 := by omega
              clear h6
              go_wp2
              have hbo := hb
              have hszo := hb.size
              clear hBr hb hfinB f2 f3 e2
              obtain ⟨w3, rfl⟩ : ∃ w3 : World, w3 = wr := ⟨_, rfl⟩
              go_loopw [4, 8] (fun u i wr => ∃ (k : Nat) (l : List ByteArray), k ≤ b.props.length ∧ i = .int .i64 k ∧ Hid (l = (b.props.take k).map Prp.name) ∧ Hid (seqB Prp.name (prpB b.oxides.length) [] b.props = seqB Prp.name (prpB b.oxides.length) (b.props.take k) (b.props.drop k)) ∧ wr.ownsRow W.heap.size 9 1 u l.length (l.map Value.string) ∧ Below W.heap.size W wr) (fun _ i _ => b.props.length - (intOf i).toNat)
              case atStart => exact ⟨0, [], Nat.zero_le _, rfl, rfl, rfl, World.ownsRow_nil _ _ _ _, hbo⟩
              case round =>
                clear hbo hszo
                obtain ⟨k, l, hk, rfl, hl, hx, hown, hb⟩ := hrel
                have hfinB := hA.trans (hb.mono hA.size)
                have hBr := hB.below hb hB.lt
                have f3 := hBr.cell 3 (.slice a3 b.props.length k3) rfl
                by_cases hlt : k < b.props.length
                · have hst := Lib.hid (seqB_step Prp.name (prpB b.oxides.length) b.props k hlt)
                  have hll : l.length ≤ 12 := by rw [hl.out]; simp; omega
                  have hsn := Lib.hid (show l ++ [(b.props[k]'hlt).name] = (b.props.take (k + 1)).map Prp.name by rw [hl.out, List.take_succ_eq_append_getElem hlt, List.map_append, List.map_singleton])
                  have hany := Lib.hid (any_map (b.props.take k) Prp.name (b.props[k]'hlt).name)
                  have hns : ∀ x ∈ l, x.size ≤ 140737488351232 := by
                    rw [hl.out]
                    intro x hx
                    obtain ⟨m, hm, rfl⟩ := List.mem_map.1 hx
                    obtain ⟨i, hi, rfl⟩ := List.getElem_of_mem (List.mem_of_mem_take hm)
                    obtain ⟨-, -, -, c, -, -, hs⟩ := hl3 i hi
                    exact hs.1
                  obtain ⟨b1, o1, rfl, c, ⟨g0, g1, g2, g3⟩, hc, hs⟩ := hl3 k hlt
                  obtain ⟨ac, kc, rfl, -, -, -⟩ := id hc
                  have hbl := cell_lt g0
                  simp only at g0 g1 g2 g3 hbl
                  have hV : VPrp w (.agg #[.string b.props[k].name, .slice ac b.props[k].coefs.length kc, .int .i64 b.props[k].target.lo, .int .i64 b.props[k].target.hi]) b.props[k] := ⟨_, rfl, hc, hs⟩
                  have hsn1 := hs.1
                  have g0' := g0
                  replace g0 := ext_of_below hfinB _ _ g0
                  have hRS := own_RStrs hown (by omega) hns
                  clear hl3 H0 H1 H2 H3 hc hs hns
                  generalize b.props[k] = s at *
                  go_wp2_with fail
                  refine (rname_any s.name _ hsn1).mono ?_
                  rintro e w1 ⟨rfl, rfl⟩
                  cases hn : nameB s.name with
                  | false =>
                    have HF := Lib.hid (show checkB b = 5 by
                      have e : prpsB b.props b.oxides.length = 5 := by rw [HP.out, hx.out, hst.out, if_pos hn]
                      rw [chk_pr E1.out E2.out E3.out (by rw [e]; decide), e])
                    clear hn
                    go_wp2
                    go_ret
                    exact ⟨ret_int HF.out.symm, hfinB⟩
                  | true =>
                    go_wp2_with fail
                    refine (rin_any _ l s.name _ hRS).mono ?_
                    rintro e w1 ⟨rfl, rfl⟩
                    cases hs : l.any (fun y => eqS y s.name) with
                    | true =>
                      have HF := Lib.hid (show checkB b = 6 by
                        have e : prpsB b.props b.oxides.length = 6 := by rw [HP.out, hx.out, hst.out, if_neg (by simp [hn]), if_pos (by rw [← hany.out, ← hl.out]; exact hs)]
                        rw [chk_pr E1.out E2.out E3.out (by rw [e]; decide), e])
                      clear hn hs
                      go_wp2
                      go_ret
                      exact ⟨ret_int HF.out.symm, hfinB⟩
                    | false =>
                      have HX : Hid (seqB Prp.name (prpB b.oxides.length) [] b.props = if prpB b.oxides.length s = 0 then seqB Prp.name (prpB b.oxides.length) (b.props.take (k + 1)) (b.props.drop (k + 1)) else prpB b.oxides.length s) := by
                        have := hx.out.trans hst.out
                        rw [if_neg (by simp [hn]), if_neg (by rw [← hany.out, ← hl.out]; simp [hs])] at this
                        exact this
                      have hown2 := hown.alloc (.cells #[.string s.name] 9)
                      have hszr := hb.size
                      clear hn hs hx hst hRS hany hl
                      go_wp2_with (at_builtin; refine wpList_append_own _ rfl _ _ 22 rfl W.heap.size 9 ii (.string ⟨#[]⟩) 1 16 Try.underlying22 hi hz0 hz1 hz2 rfl (by decide) _ l.length _ rfl hown2 ⟨wr.heap.size, 0, none⟩ 1 1 [.string s.name] rfl rfl (cell_one_new _ _ _) (by simp [Value.oneCell']) (by unfold maxLen; omega) (by omega) (by simp; omega) ?_; intro v6 w6 hown6 hgrow6 _)
                      have hb6 := (hb.alloc hb.size (.cells #[.string s.name] 9)).grown hgrow6 (by simp; omega) (fun q hq => (hown2.lt q hq).1)
                      have hownF : w6.ownsRow W.heap.size 9 1 v6 (l ++ [s.name]).length ((l ++ [s.name]).map Value.string) := by simpa using hown6
                      have hf6 := hA.trans (hb6.mono hA.size)
                      have hB6 := hB.below hb6 hB.lt
                      clear f3 g0 hown hown2 hown6 hgrow6 hb hfinB hBr hsn1
                      have f0 := hB6.cell 0 (.slice a0 b.oxides.length k0) rfl
                      have f1 := hB6.cell 1 (.slice a1 b.mats.length k1) rfl
                      have f2 := hB6.cell 2 (.slice a2 b.shares.length k2) rfl
                      have f3 : w6.cell? ⟨w.heap.size, 3, none⟩ = some (.slice (some ⟨b1, o1, none⟩) b.props.length k3) := hB6.cell 3 _ rfl
                      have f4 := hB6.cell 4 (.int .i64 b.redox.lo) rfl
                      have f5 := hB6.cell 5 (.int .i64 b.redox.hi) rfl
                      have f6 := hB6.cell 6 (.int .i64 b.wanted) rfl
                      replace g1 := ext_of_below hf6 _ _ g1
                      replace g2 := ext_of_below hf6 _ _ g2
                      replace g3 := ext_of_below hf6 _ _ g3
                      have g0 : w6.cell? ⟨b1, o1 + k * 4, none⟩ = some (.string s.name) := ext_of_below hf6 _ _ g0'
                      have hV6 := hV.mono (ext_of_below hf6)
                      clear hV g0' hbl
                      have j1 : (0 : Int) ≤ (k : Int) := Int.natCast_nonneg _
                      have j3 : (k : Int) < (b.props.length : Int) := by omega
                      refine wp_region_still_tail 6 (by kernel_rfl) (by kernel_rfl) ?_
                      simp only [List.take_succ_cons, List.take_zero, List.drop_succ_cons, List.drop_zero]
                      repeat still_step
                      refine wpStill_nil ?_
                      change wpList _ _ _ _ _ w6.drew
                      clear g0 g1 g2 g3 f0 f1 f2 f3 f4 f5 f6 j1 j3
                      go_wp2_with fail
                      refine (rproperty_any a0 _ k0 _ _ _ _ _ _ s _ _ (hV6.mono (ext_drewN _ 1)) l0).mono ?_
                      rintro e w7 ⟨rfl, hb7⟩
                      have hb8 := hb6.drew.trans (hb7.mono hb6.size)
                      have hf8 := hA.trans (hb8.mono hA.size)
                      have hown8 := own_below (own_drawn hownF) hb7 (own_lt (own_drawn hownF))
                      clear hV6 hb6 hf6 hB6 hb7 hownF
                      by_cases hz : prpB b.oxides.length s = 0
                      · have HY := Lib.hid (HX.out.trans (if_pos hz))
                        have hz' : (prpB b.oxides.length s != 0) = false := by simp [hz]
                        clear hz
                        go_wp2
                        go_roundw
                        case rel => exact ⟨k + 1, l ++ [s.name], by omega, by go_num, hsn, HY, hown8, hb8⟩
                        case measure => simp [intOf]; omega
                      · have HY := Lib.hid (show checkB b = prpB b.oxides.length s by
                          have e : prpsB b.props b.oxides.length = prpB b.oxides.length s := by rw [HP.out, HX.out, if_neg hz]
                          rw [chk_pr E1.out E2.out E3.out (by rw [e]; exact hz), e])
                        have hz' : (prpB b.oxides.length s != 0) = true := by simp [hz]
                        clear hz
                        go_wp2
                        go_ret
                        exact ⟨ret_int HY.out.symm, hf8⟩
                · have E4 := Lib.hid (show prpsB b.props b.oxides.length = 0 by rw [HP.out, hx.out, seqB_end _ _ _ _ (by omega)])
                  have HE := Lib.hid (chk_end E1.out E2.out E3.out E4.out)
                  have f4 := hBr.cell 4 (.int .i64 b.redox.lo) rfl
                  have f5 := hBr.cell 5 (.int .i64 b.redox.hi) rfl
                  have f6 := hBr.cell 6 (.int .i64 b.wanted) rfl
                  clear hx hl3 hl hown H0 H1 H2 H3
                  go_wp2_with fail
                  refine (rwithin_any b.redox (-10000) 10000 _).mono ?_
                  rintro e w1 ⟨rfl, hb1⟩
                  have hf1 := hfinB.trans (hb1.mono hfinB.size)
                  have r6 := ext_of_below hb1 _ _ f6
                  clear f4 f5 f6 hb1 hfinB hBr hb f3
                  cases hw : withinB b.redox (-10000) 10000 with
                  | false =>
                    have HF := Lib.hid (show checkB b = 1 by rw [HE.out, hw]; rfl)
                    clear hw
                    go_wp2
                    go_ret
                    exact ⟨ret_int HF.out.symm, hf1⟩
                  | true =>
                    have HF := Lib.hid (show checkB b = if betweenB b.wanted 1 10000 = false then 1 else 0 by rw [HE.out, hw]; rfl)
                    clear hw
                    by_cases hwa : 1 ≤ b.wanted ∧ b.wanted ≤ 10000
                    · have HX := Lib.hid (show checkB b = 0 by rw [HF.out, if_neg (by simp [betweenB, hwa.1, hwa.2])])
                      obtain ⟨hw1, hw2⟩ := hwa
                      go_wp2
                      go_ret
                      exact ⟨ret_int HX.out.symm, hf1⟩
                    · have HX := Lib.hid (show checkB b = 1 by rw [HF.out, if_pos (by simp [betweenB]; omega)])
                      have HB := Lib.hid hwa
                      clear hwa
                      go_wp2
                      all_goals first
                        | (go_ret; exact ⟨ret_int HX.out.symm, hf1⟩)
                        | (exfalso; have := HB.out; omega)

end Go.Proofs.Ytpkggjfaefkiiaa
