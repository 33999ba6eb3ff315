/- The specification's words for articles, machines, changes and orders; no statement is proved here. -/
import Derived.Test.YtdffhkbncencgaaPlLw
import Derived.Deep.QuietTactic
import Derived.BigQuiet
import Derived.StillTailTactics
namespace Go.Proofs.Ytdffhkbncencgaa
open Go.RowKit Go.PlainAid
set_option linter.unusedVariables false
set_option linter.unusedSimpArgs false

theorem len_bytes8 (s : ByteArray) : s.toList.length = s.size := by rw [ByteArray.toList_eq, Array.length_toList]; rfl

set_option maxRecDepth 100000 in
theorem rname_any (s : ByteArray) (w : World) (hm : s.size ≤ 140737488351232) :
    Calls Try.prog 84 #[.string s] w fun e w' => e = .returned (.bool (nameB s)) ∧ w = w' := by
  by_cases h0 : s.size = 0
  · have hn : nameB s = false := by simp [nameB, h0]
    rw [hn]
    have h1 : s.toList.isEmpty = true := by
      have : s.toList.length = 0 := by rw [len_bytes8, h0]
      rw [List.length_eq_zero_iff.1 this]; rfl
    clear hn
    go_enter Try.func84, Try.ntmps84
    go_wp2
    go_ret
    exact ⟨rfl, rfl⟩
  have hlt0 : 0 < s.size := by omega
  have hne : s.toList.isEmpty = false := by
    cases h : s.toList with
    | nil =>
      have h2 : s.toList.length = 0 := by rw [h]; rfl
      rw [len_bytes8] at h2
      omega
    | cons a t => rfl
  by_cases h16 : 16 < s.size
  · have hn : nameB s = false := by unfold nameB; rw [decide_eq_false (p := s.size ≤ 16) (by omega)]; simp
    rw [hn]
    clear hn
    go_enter Try.func84, Try.ntmps84
    go_wp2
    go_ret
    exact ⟨rfl, rfl⟩
  have h16b : decide ((16 : Int) < (s.size : Int)) = false := decide_eq_false (by omega)
  have hg := get_bt s 0 hlt0
  by_cases hl : 97 ≤ bt s 0 ∧ bt s 0 ≤ 122
  · obtain ⟨hl1, hl2⟩ := hl
    have hn : nameB s = chsB s 0 := by simp [nameB, letB, hl1, hl2]; omega
    rw [hn]
    clear hn
    go_enter Try.func84, Try.ntmps84
    go_wp2
    go_loop [3, 4, 5] (fun i _ _ => ∃ k : Nat, k ≤ s.size ∧ i = .int .i64 k ∧ Hid (chsB s 0 = chsB s k)) (fun i _ _ => s.size - (intOf i).toNat)
    case atStart => exact ⟨0, by omega, rfl, rfl⟩
    case round =>
      obtain ⟨k, hk, rfl, hx⟩ := hrel
      clear hg h0 h16 h16b hne hl1 hl2
      by_cases hlt : k < s.size
      · have hst := Lib.hid (chsB_step s k hlt)
        have hg := get_bt s k hlt
        have hge := bt_nonneg s k
        have hle := bt_le s k
        have hfin : ∀ x, chB (bt s k) = x → Hid (chsB s 0 = (x && chsB s (k + 1))) := fun x e => by
          unfold Hid; rw [hx.out, hst.out, e]
        have HFIN := Lib.hid hfin
        clear hx hst hfin
        generalize bt s k = c at *
        go_wp2
        all_goals first
          | (go_ret
             have HX := HFIN.out false (by simp [chB, letB] at *; omega)
             exact ⟨ret_bool (by have := HX.out; simpa using this.symm), rfl⟩)
          | (have HX := HFIN.out true (by simp [chB, letB] at *; omega)
             go_round
             case rel => exact ⟨k + 1, by omega, by go_num, by have := HX.out; simpa [Hid] using this⟩
             case measure => simp [intOf]; omega)
      · have HX := hx
        clear hx
        go_wp2
        go_ret
        exact ⟨ret_bool (by rw [HX.out, chsB_end s k (by omega)]), rfl⟩
  · have hn : nameB s = false := by simp [nameB, letB]; omega
    rw [hn]
    clear hn
    go_enter Try.func84, Try.ntmps84
    go_wp2
    all_goals go_ret
    all_goals exact ⟨rfl, rfl⟩

theorem rwithin8_any (n l h : Int) (w : World) : Calls Try.prog 34 #[.int .i64 n, .int .i64 l, .int .i64 h] w fun e w' => e = .returned (.bool (btw n l h)) ∧ w' = w := by
  go_enter Try.func34, Try.ntmps34
  go_wp2
  all_goals go_ret
  all_goals (refine ⟨?_, rfl⟩; simp [btw]; try omega)
theorem any_takeA {α : Type} (l : List α) (p : α → Bool) {k : Nat} (hk : k < l.length) : (l.take (k + 1)).any p = ((l.take k).any p || p l[k]) := by
  rw [List.take_succ_eq_append_getElem hk, List.any_append]; simp

set_option maxHeartbeats 8000000 in
set_option maxRecDepth 100000 in
theorem rart_any (s : Sn) (d : SA) (i : Nat) (w : World) (h : SnD w s d) (hi : i < s.arts.length) : Calls Try.prog 64 #[.agg #[.int .i64 s.days, .slice d.a1 s.arts.length d.c1, .slice d.a2 s.ovens.length d.c2, .slice d.a3 s.mks.length d.c3, .slice d.a4 s.jobs.length d.c4, .slice d.a5 s.cols.length d.c5, .slice d.a6 s.ods.length d.c6], .int .i64 i] w fun e w' => e = .returned (.int .i64 (artF s i)) ∧ Below w.heap.size w w' := by
  have hra := h.arts
  have lc := h.cols.len
  have la := h.arts.len
  have hA := below_box w (.cells #[.int .i64 s.days, .slice d.a1 s.arts.length d.c1, .slice d.a2 s.ovens.length d.c2, .slice d.a3 s.mks.length d.c3, .slice d.a4 s.jobs.length d.c4, .slice d.a5 s.cols.length d.c5, .slice d.a6 s.ods.length d.c6] 28)
  have hB := Blk.new w #[.int .i64 s.days, .slice d.a1 s.arts.length d.c1, .slice d.a2 s.ovens.length d.c2, .slice d.a3 s.mks.length d.c3, .slice d.a4 s.jobs.length d.c4, .slice d.a5 s.cols.length d.c5, .slice d.a6 s.ods.length d.c6] 28
  have HAt := Lib.hid (artF_at hi)
  obtain ⟨b1, o1, he1, ⟨q0, q1, q2⟩, i0, i1, i2⟩ := rsl_at hra hi
  replace q0 := ext_of_below hA _ _ q0
  replace q1 := ext_of_below hA _ _ q1
  replace q2 := ext_of_below hA _ _ q2
  simp only at q0 q1 q2
  have HRA := Lib.hid hra
  have j1 : (0 : Int) ≤ (i : Int) := Int.natCast_nonneg _
  have j2 : (i : Int) < (s.arts.length : Int) := by omega
  have x1 := hB.cell 1 _ rfl
  have zc : wrap64 ((s.cols.length : Int) - 1) = (s.cols.length : Int) - 1 := wrap_id _ (by unfold I64; omega)
  have HE1 := Lib.hid he1
  clear h hra he1
  generalize s.arts[i] = x at *
  go_enter Try.func64, Try.ntmps64
  go_upto_region 1 with (fail)
  generalize w.alloc (.cells #[.int .i64 s.days, .slice d.a1 s.arts.length d.c1, .slice d.a2 s.ovens.length d.c2, .slice d.a3 s.mks.length d.c3, .slice d.a4 s.jobs.length d.c4, .slice d.a5 s.cols.length d.c5, .slice d.a6 s.ods.length d.c6] 28) = W at *
  rw [HE1.out] at x1
  have hBx := Blk.new W #[.string x.name, .int .i64 x.col, .int .i64 x.wt] 57
  have hba := below_box W (.cells #[.string x.name, .int .i64 x.col, .int .i64 x.wt] 57)
  have hA1 := hA.trans (hba.mono hA.size)
  have hB1 := hB.below hba hB.lt
  have hz := hB.lt
  go_upto_region 2 with (fail)
  clear q0 q1 q2 x1 hA hB hba
  generalize hKX : W.heap.size = kx at *
  generalize W.alloc (.cells #[.string x.name, .int .i64 x.col, .int .i64 x.wt] 57) = Y at *
  clear hKX
  have y0 := hBx.cell 0 _ rfl
  go_wp2_with fail
  refine (rname_any x.name _ i0).mono ?_
  rintro e w' ⟨rfl, hw'⟩
  obtain rfl := hw'
  cases hn : nameB x.name with
  | false =>
    have HR : Hid (artF s i = 5) := Lib.hid (by rw [HAt.out]; unfold arE; rw [if_pos hn])
    clear HAt hn y0
    go_wp2
    go_ret
    exact ⟨ret_int HR.out.symm, hA1⟩
  | true =>
  have HN := Lib.hid hn
  clear hn
  go_upto_region 5 with (fail)
  clear y0
  go_loopw [6] (fun v wr => ∃ k : Nat, k ≤ i ∧ v = .int .i64 k ∧ Hid ((s.arts.take k).any (fun y => eqS y.name x.name) = false) ∧ Below Y.heap.size Y wr) (fun v _ => i - (intOf v).toNat)
  case atStart => exact ⟨0, Nat.zero_le _, rfl, Lib.hid (by simp), Below.refl _ _⟩
  case round =>
    obtain ⟨k, hk, rfl, hx, hb⟩ := hrel
    have hE := hA1.trans (hb.mono hA1.size)
    by_cases hlt : k < i
    · have hkl : k < s.arts.length := by omega
      obtain ⟨b2, o2, he2, ⟨r0, r1, r2⟩, -⟩ := rsl_at HRA.out hkl
      rw [HE1.out] at he2
      simp only [Option.some.injEq, Addr.mk.injEq, and_true] at he2
      obtain ⟨rfl, rfl⟩ := he2
      replace r0 := ext_of_below hE _ _ r0
      have x1 := (hB1.below hb hB1.lt).cell 1 _ rfl
      rw [HE1.out] at x1
      have y0 := (hBx.below hb hBx.lt).cell 0 _ rfl
      have a1 : (0 : Int) ≤ (k : Int) := Int.natCast_nonneg _
      have a2 : (k : Int) < (i : Int) := by omega
      have a3 : (k : Int) < (s.arts.length : Int) := by omega
      have hst := any_takeA s.arts (fun y => eqS y.name x.name) hkl
      rw [hx.out] at hst
      generalize s.arts[k] = y at *
      clear r1 r2
      cases hq : eqS y.name x.name with
      | true =>
        have hqq : (y.name.toList == x.name.toList) = true := hq
        have hpre : (s.arts.take i).any (fun y => eqS y.name x.name) = true := by
          rw [hq] at hst
          refine List.any_eq_true.2 ?_
          obtain ⟨z, hz1, hz2⟩ := List.any_eq_true.1 hst
          exact ⟨z, (List.take_subset_take_left s.arts (by omega)) hz1, hz2⟩
        have HR : Hid (artF s i = 6) := Lib.hid (by rw [HAt.out]; unfold arE; rw [if_neg (by rw [HN.out]; decide), if_pos hpre])
        clear HAt hst hx hq hpre
        have HE := Lib.hid hE
        go_wp2_with fail
        go_quiet (fail)
        go_wp2
        go_ret
        exact ⟨ret_int HR.out.symm, below_drewN HE.out _⟩
      | false =>
        have hqq : (y.name.toList == x.name.toList) = false := hq
        have HX : Hid ((s.arts.take (k + 1)).any (fun y => eqS y.name x.name) = false) := Lib.hid (by rw [hst, hq]; rfl)
        clear hst hx hq
        go_wp2_with fail
        go_quiet (fail)
        go_wp2
        go_roundw
        case rel => exact ⟨k + 1, by omega, by go_num, HX, below_drewN hb _⟩
        case measure => simp [intOf]; omega
    · obtain rfl : k = i := by omega
      have a2 : ¬ (k : Int) < (k : Int) := by omega
      have hBr := hB1.below hb hB1.lt
      have hBy := hBx.below hb hBx.lt
      have x5 := hBr.cell 5 _ rfl
      have y1 := hBy.cell 1 _ rfl
      have y2 := hBy.cell 2 _ rfl
      have HP := hx
      clear hx
      go_wp2_with fail
      refine (rwithin8_any x.col 0 ((s.cols.length : Int) - 1) _).mono ?_
      rintro e w' ⟨rfl, hw'⟩
      obtain rfl := hw'.symm
      clear hw'
      cases hc : btw x.col 0 ((s.cols.length : Int) - 1) with
      | false =>
        have HR : Hid (artF s k = 7) := Lib.hid (by rw [HAt.out]; unfold arE; rw [if_neg (by rw [HN.out]; decide), if_neg (by rw [HP.out]; decide), if_pos hc])
        clear HAt HP hc
        go_wp2
        go_ret
        exact ⟨ret_int HR.out.symm, hE⟩
      | true =>
      have HC := Lib.hid hc
      clear hc
      go_wp2_with fail
      refine (rwithin8_any x.wt 1 100000 _).mono ?_
      rintro e w' ⟨rfl, hw'⟩
      obtain rfl := hw'.symm
      clear hw'
      cases hc : btw x.wt 1 100000 with
      | false =>
        have HR : Hid (artF s k = 1) := Lib.hid (by rw [HAt.out]; unfold arE; rw [if_neg (by rw [HN.out]; decide), if_neg (by rw [HP.out]; decide), if_neg (by rw [HC.out]; decide), if_pos hc])
        clear HAt HP hc
        go_wp2
        go_ret
        exact ⟨ret_int HR.out.symm, hE⟩
      | true =>
        have HR : Hid (artF s k = 0) := Lib.hid (by rw [HAt.out]; unfold arE; rw [if_neg (by rw [HN.out]; decide), if_neg (by rw [HP.out]; decide), if_neg (by rw [HC.out]; decide), if_neg (by rw [hc]; decide)])
        clear HAt HP hc
        go_wp2
        go_ret
        exact ⟨ret_int HR.out.symm, hE⟩
end Go.Proofs.Ytdffhkbncencgaa

namespace Go.Proofs.Ytdffhkbncencgaa
open Go.RowKit Go.PlainAid
set_option linter.unusedVariables false
set_option linter.unusedSimpArgs false

set_option maxHeartbeats 8000000 in
set_option maxRecDepth 100000 in
theorem rord_any (s : Sn) (d : SA) (i : Nat) (w : World) (h : SnD w s d) (hi : i < s.ods.length) (hday : 1 ≤ s.days ∧ s.days ≤ 14) : Calls Try.prog 67 #[.agg #[.int .i64 s.days, .slice d.a1 s.arts.length d.c1, .slice d.a2 s.ovens.length d.c2, .slice d.a3 s.mks.length d.c3, .slice d.a4 s.jobs.length d.c4, .slice d.a5 s.cols.length d.c5, .slice d.a6 s.ods.length d.c6], .int .i64 i] w fun e w' => e = .returned (.int .i64 (odF s i)) ∧ Below w.heap.size w w' := by
  have hra := h.ods
  have lc := h.arts.len
  have la := h.ods.len
  have hA := below_box w (.cells #[.int .i64 s.days, .slice d.a1 s.arts.length d.c1, .slice d.a2 s.ovens.length d.c2, .slice d.a3 s.mks.length d.c3, .slice d.a4 s.jobs.length d.c4, .slice d.a5 s.cols.length d.c5, .slice d.a6 s.ods.length d.c6] 28)
  have hB := Blk.new w #[.int .i64 s.days, .slice d.a1 s.arts.length d.c1, .slice d.a2 s.ovens.length d.c2, .slice d.a3 s.mks.length d.c3, .slice d.a4 s.jobs.length d.c4, .slice d.a5 s.cols.length d.c5, .slice d.a6 s.ods.length d.c6] 28
  have HAt := Lib.hid (odF_at hi)
  obtain ⟨b1, o1, he1, ⟨q0, q1, q2, q3⟩, i0, i1, i2, i3⟩ := rsl_at hra hi
  replace q0 := ext_of_below hA _ _ q0
  replace q1 := ext_of_below hA _ _ q1
  replace q2 := ext_of_below hA _ _ q2
  replace q3 := ext_of_below hA _ _ q3
  simp only at q0 q1 q2 q3
  have HRA := Lib.hid hra
  have j1 : (0 : Int) ≤ (i : Int) := Int.natCast_nonneg _
  have j2 : (i : Int) < (s.ods.length : Int) := by omega
  have x1 := hB.cell 6 _ rfl
  have zc : wrap64 ((s.arts.length : Int) - 1) = (s.arts.length : Int) - 1 := wrap_id _ (by unfold I64; omega)
  have zd : wrap64 (s.days - 1) = s.days - 1 := wrap_id _ (by unfold I64; omega)
  have HE1 := Lib.hid he1
  clear h hra he1
  generalize s.ods[i] = x at *
  go_enter Try.func67, Try.ntmps67
  go_upto_region 1 with (fail)
  generalize w.alloc (.cells #[.int .i64 s.days, .slice d.a1 s.arts.length d.c1, .slice d.a2 s.ovens.length d.c2, .slice d.a3 s.mks.length d.c3, .slice d.a4 s.jobs.length d.c4, .slice d.a5 s.cols.length d.c5, .slice d.a6 s.ods.length d.c6] 28) = W at *
  rw [HE1.out] at x1
  have hBx := Blk.new W #[.int .i64 x.art, .int .i64 x.qty, .int .i64 x.due, .int .i64 x.pen] 55
  have hba := below_box W (.cells #[.int .i64 x.art, .int .i64 x.qty, .int .i64 x.due, .int .i64 x.pen] 55)
  have hA1 := hA.trans (hba.mono hA.size)
  have hB1 := hB.below hba hB.lt
  have hz := hB.lt
  go_upto_region 2 with (fail)
  clear q0 q1 q2 q3 x1 hA hB hba
  generalize hKX : W.heap.size = kx at *
  generalize W.alloc (.cells #[.int .i64 x.art, .int .i64 x.qty, .int .i64 x.due, .int .i64 x.pen] 55) = Y at *
  clear hKX
  have y0 := hBx.cell 0 _ rfl
  have x1 := hB1.cell 1 _ rfl
  go_wp2_with fail
  refine (rwithin8_any x.art 0 ((s.arts.length : Int) - 1) _).mono ?_
  rintro e w' ⟨rfl, hw'⟩
  obtain rfl := hw'.symm
  clear hw'
  cases hn : btw x.art 0 ((s.arts.length : Int) - 1) with
  | false =>
    have HR : Hid (odF s i = 7) := Lib.hid (by rw [HAt.out]; unfold odE; rw [if_pos hn])
    clear HAt hn y0
    go_wp2
    go_ret
    exact ⟨ret_int HR.out.symm, hA1⟩
  | true =>
  have HN := Lib.hid hn
  clear hn
  go_upto_region 5 with (fail)
  clear y0 x1
  go_loopw [6] (fun v wr => ∃ k : Nat, k ≤ i ∧ v = .int .i64 k ∧ Hid ((s.ods.take k).any (fun y => y.art == x.art) = false) ∧ Below Y.heap.size Y wr) (fun v _ => i - (intOf v).toNat)
  case atStart => exact ⟨0, Nat.zero_le _, rfl, Lib.hid (by simp), Below.refl _ _⟩
  case round =>
    obtain ⟨k, hk, rfl, hx, hb⟩ := hrel
    have hE := hA1.trans (hb.mono hA1.size)
    by_cases hlt : k < i
    · have hkl : k < s.ods.length := by omega
      obtain ⟨b2, o2, he2, ⟨r0, r1, r2, r3⟩, -⟩ := rsl_at HRA.out hkl
      rw [HE1.out] at he2
      simp only [Option.some.injEq, Addr.mk.injEq, and_true] at he2
      obtain ⟨rfl, rfl⟩ := he2
      replace r0 := ext_of_below hE _ _ r0
      have x1 := (hB1.below hb hB1.lt).cell 6 _ rfl
      rw [HE1.out] at x1
      have y0 := (hBx.below hb hBx.lt).cell 0 _ rfl
      have a1 : (0 : Int) ≤ (k : Int) := Int.natCast_nonneg _
      have a2 : (k : Int) < (i : Int) := by omega
      have a3 : (k : Int) < (s.ods.length : Int) := by omega
      have hst := any_takeA s.ods (fun y => y.art == x.art) hkl
      rw [hx.out] at hst
      generalize s.ods[k] = y at *
      clear r1 r2 r3
      cases hq : (y.art == x.art) with
      | true =>
        have hpre : (s.ods.take i).any (fun y => y.art == x.art) = true := by
          rw [hq] at hst
          refine List.any_eq_true.2 ?_
          obtain ⟨z, hz1, hz2⟩ := List.any_eq_true.1 hst
          exact ⟨z, (List.take_subset_take_left s.ods (by omega)) hz1, hz2⟩
        have HR : Hid (odF s i = 6) := Lib.hid (by rw [HAt.out]; unfold odE; rw [if_neg (by rw [HN.out]; decide), if_pos hpre])
        clear HAt hst hx hpre
        have HE := Lib.hid hE
        go_wp2_with fail
        go_quiet (fail)
        go_wp2
        go_ret
        exact ⟨ret_int HR.out.symm, below_drewN HE.out _⟩
      | false =>
        have HX : Hid ((s.ods.take (k + 1)).any (fun y => y.art == x.art) = false) := Lib.hid (by rw [hst, hq]; rfl)
        clear hst hx
        go_wp2_with fail
        go_quiet (fail)
        go_wp2
        go_roundw
        case rel => exact ⟨k + 1, by omega, by go_num, HX, below_drewN hb _⟩
        case measure => simp [intOf]; omega
    · obtain rfl : k = i := by omega
      have a2 : ¬ (k : Int) < (k : Int) := by omega
      have hBr := hB1.below hb hB1.lt
      have hBy := hBx.below hb hBx.lt
      have x0 := hBr.cell 0 _ rfl
      have y1 := hBy.cell 1 _ rfl
      have y2 := hBy.cell 2 _ rfl
      have y3 := hBy.cell 3 _ rfl
      have HP := hx
      clear hx
      have HBAD : Hid (btw x.qty 0 1000000 = false ∨ btw x.due 0 (s.days - 1) = false ∨ btw x.pen 0 1000000 = false → odF s k = 1) := Lib.hid (fun hb => by
        rw [HAt.out]; unfold odE; rw [if_neg (by rw [HN.out]; decide), if_neg (by rw [HP.out]; decide)]
        split
        · rfl
        split
        · rfl
        split
        · rfl
        rename_i g1 g2 g3
        rcases hb with hb | hb | hb
        · exact absurd hb g1
        · exact absurd hb g2
        · exact absurd hb g3)
      have HGOOD : Hid (btw x.qty 0 1000000 = true → btw x.due 0 (s.days - 1) = true → btw x.pen 0 1000000 = true → odF s k = 0) := Lib.hid (fun h1 h2 h3 => by
        rw [HAt.out]; unfold odE; rw [if_neg (by rw [HN.out]; decide), if_neg (by rw [HP.out]; decide), if_neg (by rw [h1]; decide), if_neg (by rw [h2]; decide), if_neg (by rw [h3]; decide)])
      clear HAt HP
      go_wp2_with fail
      refine (rwithin8_any x.qty 0 1000000 _).mono ?_
      rintro e w' ⟨rfl, hw'⟩
      obtain rfl := hw'.symm
      clear hw'
      cases hc : btw x.qty 0 1000000 with
      | false =>
        have HR := Lib.hid (HBAD.out (.inl hc))
        clear HBAD HGOOD hc
        go_wp2
        go_ret
        exact ⟨ret_int HR.out.symm, hE⟩
      | true =>
      have HC1 := Lib.hid hc
      clear hc
      go_wp2_with fail
      refine (rwithin8_any x.due 0 (s.days - 1) _).mono ?_
      rintro e w' ⟨rfl, hw'⟩
      obtain rfl := hw'.symm
      clear hw'
      cases hc : btw x.due 0 (s.days - 1) with
      | false =>
        have HR := Lib.hid (HBAD.out (.inr (.inl hc)))
        clear HBAD HGOOD hc
        go_wp2
        go_ret
        exact ⟨ret_int HR.out.symm, hE⟩
      | true =>
      have HC2 := Lib.hid hc
      clear hc
      go_wp2_with fail
      refine (rwithin8_any x.pen 0 1000000 _).mono ?_
      rintro e w' ⟨rfl, hw'⟩
      obtain rfl := hw'.symm
      clear hw'
      cases hc : btw x.pen 0 1000000 with
      | false =>
        have HR := Lib.hid (HBAD.out (.inr (.inr hc)))
        clear HBAD HGOOD hc
        go_wp2
        go_ret
        exact ⟨ret_int HR.out.symm, hE⟩
      | true =>
        have HR := Lib.hid (HGOOD.out HC1.out HC2.out hc)
        clear HBAD HGOOD hc
        go_wp2
        go_ret
        exact ⟨ret_int HR.out.symm, hE⟩

set_option maxHeartbeats 8000000 in
set_option maxRecDepth 100000 in
theorem rmk_any (s : Sn) (d : SA) (x : Mk) (ar : Option Addr) (cr : Nat) (w : World) (h : SnD w s d) (hr : RInts w (.slice ar x.rates.length cr) x.rates) : Calls Try.prog 65 #[.agg #[.int .i64 s.days, .slice d.a1 s.arts.length d.c1, .slice d.a2 s.ovens.length d.c2, .slice d.a3 s.mks.length d.c3, .slice d.a4 s.jobs.length d.c4, .slice d.a5 s.cols.length d.c5, .slice d.a6 s.ods.length d.c6], .agg #[.int .i64 x.oven, .slice ar x.rates.length cr, .int .i64 x.idle, .int .i64 x.start]] w fun e w' => e = .returned (.int .i64 (mkE x s.ovens.length s.arts.length)) ∧ Below w.heap.size w w' := by
  have lc := h.arts.len
  have lo := h.ovens.len
  have hA : Below w.heap.size w ((w.alloc (.cells #[.int .i64 s.days, .slice d.a1 s.arts.length d.c1, .slice d.a2 s.ovens.length d.c2, .slice d.a3 s.mks.length d.c3, .slice d.a4 s.jobs.length d.c4, .slice d.a5 s.cols.length d.c5, .slice d.a6 s.ods.length d.c6] 28)).alloc (.cells #[.int .i64 x.oven, .slice ar x.rates.length cr, .int .i64 x.idle, .int .i64 x.start] 53)) := (below_box w _).alloc (by simp) _
  have hB := (Blk.new w #[.int .i64 s.days, .slice d.a1 s.arts.length d.c1, .slice d.a2 s.ovens.length d.c2, .slice d.a3 s.mks.length d.c3, .slice d.a4 s.jobs.length d.c4, .slice d.a5 s.cols.length d.c5, .slice d.a6 s.ods.length d.c6] 28).alloc (.cells #[.int .i64 x.oven, .slice ar x.rates.length cr, .int .i64 x.idle, .int .i64 x.start] 53)
  have hX := Blk.new (w.alloc (.cells #[.int .i64 s.days, .slice d.a1 s.arts.length d.c1, .slice d.a2 s.ovens.length d.c2, .slice d.a3 s.mks.length d.c3, .slice d.a4 s.jobs.length d.c4, .slice d.a5 s.cols.length d.c5, .slice d.a6 s.ods.length d.c6] 28)) #[.int .i64 x.oven, .slice ar x.rates.length cr, .int .i64 x.idle, .int .i64 x.start] 53
  rw [World.size_alloc] at hX
  have zo : wrap64 ((s.ovens.length : Int) - 1) = (s.ovens.length : Int) - 1 := wrap_id _ (by unfold I64; omega)
  have za : wrap64 ((s.arts.length : Int) - 1) = (s.arts.length : Int) - 1 := wrap_id _ (by unfold I64; omega)
  have HR := Lib.hid hr
  have hrl := hr.len
  clear h hr
  go_enter Try.func65, Try.ntmps65
  go_upto_region 1 with (fail)
  generalize (w.alloc (.cells #[.int .i64 s.days, .slice d.a1 s.arts.length d.c1, .slice d.a2 s.ovens.length d.c2, .slice d.a3 s.mks.length d.c3, .slice d.a4 s.jobs.length d.c4, .slice d.a5 s.cols.length d.c5, .slice d.a6 s.ods.length d.c6] 28)).alloc _ = W at *
  have x2 := hB.cell 2 _ rfl
  have y0 := hX.cell 0 _ rfl
  go_wp2_with fail
  refine (rwithin8_any x.oven 0 ((s.ovens.length : Int) - 1) _).mono ?_
  rintro e w' ⟨rfl, hw'⟩
  obtain rfl := hw'.symm
  clear hw'
  cases hn : btw x.oven 0 ((s.ovens.length : Int) - 1) with
  | false =>
    have HE : Hid (mkE x s.ovens.length s.arts.length = 7) := Lib.hid (by unfold mkE; rw [if_pos hn])
    clear hn
    go_wp2
    go_ret
    exact ⟨ret_int HE.out.symm, hA⟩
  | true =>
  clear x2 y0
  have HBAD : Hid (allB x.rates s.arts.length 0 1000000 = false ∨ btw x.idle 0 1000000 = false ∨ btw x.start (-1) ((s.arts.length : Int) - 1) = false → mkE x s.ovens.length s.arts.length = 1) := Lib.hid (fun hb => by
    unfold mkE
    rw [if_neg (by rw [hn]; decide)]
    split
    · rfl
    split
    · rfl
    split
    · rfl
    rename_i g1 g2 g3
    rcases hb with hb | hb | hb
    · exact absurd hb g1
    · exact absurd hb g2
    · exact absurd hb g3)
  have HGOOD : Hid (allB x.rates s.arts.length 0 1000000 = true → btw x.idle 0 1000000 = true → btw x.start (-1) ((s.arts.length : Int) - 1) = true → mkE x s.ovens.length s.arts.length = 0) := Lib.hid (fun h1 h2 h3 => by
    unfold mkE
    rw [if_neg (by rw [hn]; decide), if_neg (by rw [h1]; decide), if_neg (by rw [h2]; decide), if_neg (by rw [h3]; decide)])
  clear hn
  have x1 := hB.cell 1 _ rfl
  have y1 := hX.cell 1 _ rfl
  have y2 := hX.cell 2 _ rfl
  have y3 := hX.cell 3 _ rfl
  by_cases hl : x.rates.length = s.arts.length
  case neg =>
    have hq : ((x.rates.length : Int) != (s.arts.length : Int)) = true := by simp; omega
    have HE := Lib.hid (HBAD.out (.inl (by unfold allB; rw [decide_eq_false (by omega)]; rfl)))
    clear HBAD HGOOD hl
    go_wp2
    go_ret
    exact ⟨ret_int HE.out.symm, hA⟩
  case pos =>
  have hq : ((x.rates.length : Int) != (s.arts.length : Int)) = false := by simp; omega
  have HL := Lib.hid hl
  clear hl
  go_wp2_with fail
  refine (rwithin8_any x.idle 0 1000000 _).mono ?_
  rintro e w' ⟨rfl, hw'⟩
  obtain rfl := hw'.symm
  clear hw'
  cases hc : btw x.idle 0 1000000 with
  | false =>
    have HE := Lib.hid (HBAD.out (.inr (.inl hc)))
    clear HBAD HGOOD hc
    go_wp2
    go_ret
    exact ⟨ret_int HE.out.symm, hA⟩
  | true =>
  have HC1 := Lib.hid hc
  clear hc
  go_wp2_with fail
  refine (rwithin8_any x.start (-1) ((s.arts.length : Int) - 1) _).mono ?_
  rintro e w' ⟨rfl, hw'⟩
  obtain rfl := hw'.symm
  clear hw'
  cases hc : btw x.start (-1) ((s.arts.length : Int) - 1) with
  | false =>
    have HE := Lib.hid (HBAD.out (.inr (.inr hc)))
    clear HBAD HGOOD hc
    go_wp2
    go_ret
    exact ⟨ret_int HE.out.symm, hA⟩
  | true =>
  have HC2 := Lib.hid hc
  clear hc
  go_upto_region 6 with (fail)
  clear x1 y2 y3
  go_loopw [5] (fun v wr => ∃ k : Nat, k ≤ x.rates.length ∧ v = .int .i64 k ∧ Hid ((x.rates.take k).any (fun r => !btw r 0 1000000) = false) ∧ wr = W) (fun v _ => x.rates.length - (intOf v).toNat)
  case atStart => exact ⟨0, Nat.zero_le _, rfl, Lib.hid (by simp), rfl⟩
  case round =>
    obtain ⟨k, hk, rfl, hx, rfl⟩ := hrel
    by_cases hlt : k < x.rates.length
    · obtain ⟨b2, o2, he2, r0, -⟩ := ints_at HR.out hlt
      subst he2
      replace r0 := ext_of_below hA _ _ r0
      have a1 : (0 : Int) ≤ (k : Int) := Int.natCast_nonneg _
      have a2 : (k : Int) < (x.rates.length : Int) := by omega
      have hst := any_takeA x.rates (fun r => !btw r 0 1000000) hlt
      rw [hx.out] at hst
      have hmem : x.rates[k] ∈ x.rates := List.getElem_mem hlt
      generalize x.rates[k] = rv at *
      go_wp2_with fail
      refine (rwithin8_any rv 0 1000000 _).mono ?_
      rintro e w' ⟨rfl, hw'⟩
      obtain rfl := hw'.symm
      clear hw'
      cases hc : btw rv 0 1000000 with
      | false =>
        have HE := Lib.hid (HBAD.out (.inl (by
          unfold allB
          have : x.rates.any (fun r => !btw r 0 1000000) = true := List.any_eq_true.2 ⟨rv, hmem, by rw [hc]; rfl⟩
          rw [this]; simp)))
        clear HBAD HGOOD hc hst hx hmem
        go_wp2
        go_ret
        exact ⟨ret_int HE.out.symm, hA⟩
      | true =>
        have HX : Hid ((x.rates.take (k + 1)).any (fun r => !btw r 0 1000000) = false) := Lib.hid (by rw [hst, hc]; rfl)
        clear hc hst hx hmem
        go_wp2
        go_roundw
        case rel => exact ⟨k + 1, by omega, by go_num, HX, by trivial⟩
        case measure => simp [intOf]; omega
    · obtain rfl : k = x.rates.length := by omega
      have a2 : ¬ (x.rates.length : Int) < (x.rates.length : Int) := by omega
      have HE := Lib.hid (HGOOD.out (by
        have := hx.out
        rw [List.take_length] at this
        unfold allB
        rw [this, decide_eq_true (by rw [HL.out])]
        rfl) HC1.out HC2.out)
      clear HBAD HGOOD hx
      go_wp2
      go_ret
      exact ⟨ret_int HE.out.symm, hA⟩
end Go.Proofs.Ytdffhkbncencgaa

namespace Go.Proofs.Ytdffhkbncencgaa
open Go.RowKit Go.PlainAid
set_option linter.unusedVariables false
set_option linter.unusedSimpArgs false

set_option maxHeartbeats 8000000 in
set_option maxRecDepth 100000 in
theorem rturns_any (v : Value) (l : List (List Sp)) (n : Nat) (w : World) (h : RTrns w v l) (hn : n ≤ 140737488351232) : Calls Try.prog 66 #[v, .int .i64 n] w fun e w' => e = .returned (.bool (tabB l n)) ∧ w' = w := by
  obtain ⟨a, c, rfl⟩ := h.shape
  have HR := Lib.hid h
  clear h
  by_cases hl : l.length = n
  case neg =>
    have hq : ((l.length : Int) != (n : Int)) = true := by simp; omega
    have HE : Hid (tabB l n = false) := Lib.hid (by unfold tabB; rw [decide_eq_false (by omega)]; simp)
    generalize l.length = ln at *
    go_enter Try.func66, Try.ntmps66
    go_wp2
    go_ret
    exact ⟨by rw [HE.out]; rfl, rfl⟩
  case pos =>
  have hq : ((l.length : Int) != (n : Int)) = false := by simp; omega
  have HL := Lib.hid hl
  obtain ⟨ln, hln⟩ : ∃ m, l.length = m := ⟨_, rfl⟩
  have HLN := Lib.hid hln
  rw [hln] at hq ⊢
  clear hl hln
  go_enter Try.func66, Try.ntmps66
  go_wp2
  go_loopw [5] (fun u wr => ∃ k : Nat, k ≤ n ∧ u = .int .i64 k ∧ Hid ((l.take k).any (rowBad n) = false) ∧ wr = w) (fun u _ => n - (intOf u).toNat)
  case atStart => exact ⟨0, Nat.zero_le _, rfl, Lib.hid (by simp), rfl⟩
  case round =>
    obtain ⟨k, hk, rfl, hx, rfl⟩ := hrel
    by_cases hlt : k < n
    case neg =>
      obtain rfl : k = n := by omega
      have a2 : ¬ (k : Int) < (k : Int) := by omega
      have HE : Hid (tabB l k = true) := Lib.hid (by
        have := hx.out
        rw [List.take_of_length_le (by rw [HL.out]; exact Nat.le_refl _)] at this
        unfold tabB
        rw [this, decide_eq_true (by rw [HL.out])]
        rfl)
      clear hx
      go_wp2
      go_ret
      exact ⟨by rw [HE.out]; rfl, rfl⟩
    case pos =>
    have hkl : k < l.length := by rw [HL.out]; exact hlt
    obtain ⟨b1, o1, he1, v2, q0, hrr⟩ := rsl_at HR.out hkl
    obtain ⟨a2, c2, rfl⟩ := hrr.shape
    simp only [Nat.mul_one] at q0
    have hst := any_takeA l (rowBad n) hkl
    rw [hx.out] at hst
    have HBAD : Hid (rowBad n l[k] = true → tabB l n = false) := Lib.hid (fun hb => by
      have : l.any (rowBad n) = true := List.any_eq_true.2 ⟨_, List.getElem_mem hkl, hb⟩
      unfold tabB; rw [this]; rfl)
    have j1 : (0 : Int) ≤ (k : Int) := Int.natCast_nonneg _
    have j2 : (k : Int) < (n : Int) := by omega
    have j3 : (k : Int) < (ln : Int) := by have := HL.out; have := HLN.out; omega
    subst he1
    have HRR := Lib.hid hrr
    have HST := Lib.hid hst
    clear hrr hst hx
    generalize l[k] = r at *
    by_cases hrl : r.length = n
    case neg =>
      have hq2 : ((r.length : Int) != (n : Int)) = true := by simp; omega
      have HE := Lib.hid (HBAD.out (by unfold rowBad; rw [decide_eq_false (by omega)]; rfl))
      clear HBAD hrl
      generalize r.length = rl at *
      go_wp2
      go_ret
      exact ⟨by rw [HE.out]; rfl, rfl⟩
    case pos =>
    have hq2 : ((r.length : Int) != (n : Int)) = false := by simp; omega
    have HRL := Lib.hid hrl
    obtain ⟨rl, hrl2⟩ : ∃ m, r.length = m := ⟨_, rfl⟩
    have HRL2 := Lib.hid hrl2
    rw [hrl2] at hq2 q0
    rw [hrl2] at HRR
    clear hrl hrl2
    go_upto_region 9 with (fail)
    go_loopw [6] (fun u wx => ∃ m : Nat, m ≤ n ∧ u = .int .i64 m ∧ Hid ((r.take m).any tnBad = false) ∧ wx = wr) (fun u _ => n - (intOf u).toNat)
    case atStart => exact ⟨0, Nat.zero_le _, rfl, Lib.hid (by simp), rfl⟩
    case round =>
      obtain ⟨m, hm, rfl, hy, rfl⟩ := hrel
      by_cases hlm : m < n
      case neg =>
        obtain rfl : m = n := by omega
        have a3 : ¬ (m : Int) < (m : Int) := by omega
        have HX : Hid ((l.take (k + 1)).any (rowBad m) = false) := Lib.hid (by
          have h1 := hy.out
          rw [List.take_of_length_le (by rw [HRL.out]; exact Nat.le_refl _)] at h1
          rw [HST.out]
          unfold rowBad
          rw [h1, decide_eq_true (by rw [HRL.out])]
          rfl)
        clear hy HBAD
        go_wp2
        go_roundw
        case rel => exact ⟨k + 1, by omega, by go_num, HX, by trivial⟩
        case measure => simp [intOf]; omega
      case pos =>
      have hml : m < r.length := by rw [HRL.out]; exact hlm
      obtain ⟨b3, o3, he3, ⟨p0, p1, -⟩⟩ := rsl_at HRR.out hml
      subst he3
      simp only at p0 p1
      have i1 : (0 : Int) ≤ (m : Int) := Int.natCast_nonneg _
      have i2 : (m : Int) < (n : Int) := by omega
      have i3 : (m : Int) < (rl : Int) := by have := HRL.out; have := HRL2.out; omega
      have hst := any_takeA r tnBad hml
      rw [hy.out] at hst
      have HB2 : Hid (tnBad r[m] = true → tabB l n = false) := Lib.hid (fun hb => HBAD.out (by
        have : r.any tnBad = true := List.any_eq_true.2 ⟨_, List.getElem_mem hml, hb⟩
        unfold rowBad; rw [this]; simp))
      clear hy
      generalize r[m] = t at *
      go_wp2_with fail
      refine (rwithin8_any t.lo 0 1440 _).mono ?_
      rintro e w' ⟨rfl, hw'⟩
      obtain rfl := hw'.symm
      clear hw'
      cases hc : btw t.lo 0 1440 with
      | false =>
        have HE := Lib.hid (HB2.out (by unfold tnBad; rw [hc]; rfl))
        clear HB2 HBAD hc hst
        go_wp2
        go_ret
        exact ⟨by rw [HE.out]; rfl, rfl⟩
      | true =>
      have HC := Lib.hid hc
      clear hc
      go_wp2_with fail
      refine (rwithin8_any t.hi 0 1000000 _).mono ?_
      rintro e w' ⟨rfl, hw'⟩
      obtain rfl := hw'.symm
      clear hw'
      cases hc : btw t.hi 0 1000000 with
      | false =>
        have HE := Lib.hid (HB2.out (by unfold tnBad; rw [hc]; simp))
        clear HB2 HBAD hc hst
        go_wp2
        go_ret
        exact ⟨by rw [HE.out]; rfl, rfl⟩
      | true =>
        have HX : Hid ((r.take (m + 1)).any tnBad = false) := Lib.hid (by rw [hst]; unfold tnBad; rw [HC.out, hc]; rfl)
        clear HB2 hc hst
        go_wp2
        go_roundw
        case rel => exact ⟨m + 1, by omega, by go_num, HX, by trivial⟩
        case measure => simp [intOf]; omega
end Go.Proofs.Ytdffhkbncencgaa

namespace Go.Proofs.Ytdffhkbncencgaa
open Go.RowKit Go.PlainAid
set_option linter.unusedVariables false
set_option linter.unusedSimpArgs false

theorem partsE_eq {s : Sn} (hd : btw s.days 1 14 = true) : partsE s = if artsE s = 0 then (if ovsE s = 0 then (if mksE s = 0 then (if turnsE s = 0 then odsE s else turnsE s) else mksE s) else ovsE s) else artsE s := by
  unfold partsE
  rw [if_neg (by rw [hd]; decide)]
  simp only [fe, partF, Nat.zero_add, Nat.reduceAdd]
  repeat' split
  all_goals first | rfl | (simp_all)
theorem ovE_bad {x : Sp} (h : x.lo < 0 ∨ x.hi < x.lo ∨ 1000000 < x.hi) : ovE x = 1 := by
  unfold ovE
  split
  · rfl
  split
  · rfl
  rename_i g1 g2
  have h1 := btw_true.1 (by simpa using g1)
  have h2 := btw_true.1 (by simpa using g2)
  omega
theorem ovE_good {x : Sp} (h1 : ¬ x.lo < 0) (h2 : ¬ x.hi < x.lo) (h3 : ¬ 1000000 < x.hi) : ovE x = 0 := by
  unfold ovE
  rw [if_neg (by rw [btw_true.2 (by omega)]; decide), if_neg (by rw [btw_true.2 (by omega)]; decide)]
theorem ovF_at8 {s : Sn} {k : Nat} (hk : k < s.ovens.length) : ovF s k = ovE s.ovens[k] := by unfold ovF; rw [List.getElem?_eq_getElem hk]
theorem mkF_at8 {s : Sn} {k : Nat} (hk : k < s.mks.length) : mkF s k = mkE s.mks[k] s.ovens.length s.arts.length := by unfold mkF; rw [List.getElem?_eq_getElem hk]

set_option maxHeartbeats 16000000 in
set_option maxRecDepth 100000 in
theorem rframe_any (s : Sn) (d : SA) (w : World) (h : SnD w s d) : Calls Try.prog 40 #[.agg #[.int .i64 s.days, .slice d.a1 s.arts.length d.c1, .slice d.a2 s.ovens.length d.c2, .slice d.a3 s.mks.length d.c3, .slice d.a4 s.jobs.length d.c4, .slice d.a5 s.cols.length d.c5, .slice d.a6 s.ods.length d.c6]] w fun e w' => e = .returned (.int .i64 (partsE s)) ∧ Below w.heap.size w w' := by
  have hA := below_box w (.cells #[.int .i64 s.days, .slice d.a1 s.arts.length d.c1, .slice d.a2 s.ovens.length d.c2, .slice d.a3 s.mks.length d.c3, .slice d.a4 s.jobs.length d.c4, .slice d.a5 s.cols.length d.c5, .slice d.a6 s.ods.length d.c6] 28)
  have hB := Blk.new w #[.int .i64 s.days, .slice d.a1 s.arts.length d.c1, .slice d.a2 s.ovens.length d.c2, .slice d.a3 s.mks.length d.c3, .slice d.a4 s.jobs.length d.c4, .slice d.a5 s.cols.length d.c5, .slice d.a6 s.ods.length d.c6] 28
  have HS := Lib.hid (fun V (hV : Below w.heap.size w V) => h.mono (ext_of_below hV))
  have la := h.arts.len
  have lo := h.ovens.len
  have lm := h.mks.len
  have lj := h.jobs.len
  have lc := h.cols.len
  have ld := h.ods.len
  clear h
  go_enter Try.func40, Try.ntmps40
  go_upto_region 1 with (fail)
  generalize w.alloc (.cells #[.int .i64 s.days, .slice d.a1 s.arts.length d.c1, .slice d.a2 s.ovens.length d.c2, .slice d.a3 s.mks.length d.c3, .slice d.a4 s.jobs.length d.c4, .slice d.a5 s.cols.length d.c5, .slice d.a6 s.ods.length d.c6] 28) = W at *
  have x0 := hB.cell 0 _ rfl
  go_wp2_with fail
  refine (rwithin8_any s.days 1 14 _).mono ?_
  rintro e w' ⟨rfl, hw'⟩
  obtain rfl := hw'.symm
  clear hw' x0
  cases hd : btw s.days 1 14 with
  | false =>
    have HE : Hid (partsE s = 1) := Lib.hid (by unfold partsE; rw [if_pos hd])
    clear hd
    go_wp2
    go_ret
    exact ⟨ret_int HE.out.symm, hA⟩
  | true =>
  have hP := partsE_eq hd
  have hdd := btw_true.1 hd
  have x1 := hB.cell 1 _ rfl
  have P1 : Hid (∀ r, artsE s = r → r ≠ 0 → partsE s = r) := Lib.hid (fun r hr h0 => by rw [hP, if_neg (by rw [hr]; exact h0)]; exact hr)
  have P2 : Hid (artsE s = 0 → ∀ r, ovsE s = r → r ≠ 0 → partsE s = r) := Lib.hid (fun h1 r hr h0 => by rw [hP, if_pos h1, if_neg (by rw [hr]; exact h0)]; exact hr)
  have P3 : Hid (artsE s = 0 → ovsE s = 0 → ∀ r, mksE s = r → r ≠ 0 → partsE s = r) := Lib.hid (fun h1 h2 r hr h0 => by rw [hP, if_pos h1, if_pos h2, if_neg (by rw [hr]; exact h0)]; exact hr)
  have P4 : Hid (artsE s = 0 → ovsE s = 0 → mksE s = 0 → ∀ r, turnsE s = r → r ≠ 0 → partsE s = r) := Lib.hid (fun h1 h2 h3 r hr h0 => by rw [hP, if_pos h1, if_pos h2, if_pos h3, if_neg (by rw [hr]; exact h0)]; exact hr)
  have P5 : Hid (artsE s = 0 → ovsE s = 0 → mksE s = 0 → turnsE s = 0 → partsE s = odsE s) := Lib.hid (fun h1 h2 h3 h4 => by rw [hP, if_pos h1, if_pos h2, if_pos h3, if_pos h4])
  have HDD := Lib.hid hdd
  clear hP hd hdd
  by_cases h8 : 8 < s.arts.length
  · have hq : (8 : Int) < (s.arts.length : Int) := by omega
    have HE := Lib.hid (P1.out 3 (by simp [artsE, h8]) (by decide))
    clear P1 P2 P3 P4 P5 h8
    go_wp2
    go_ret
    exact ⟨ret_int HE.out.symm, hA⟩
  have hq8 : ¬ (8 : Int) < (s.arts.length : Int) := by omega
  have HE0 : Hid (artsE s = fe (artF s) 0 (s.arts.length - 0)) := Lib.hid (by simp [artsE, h8])
  clear h8
  go_upto_region 6 with (fail)
  clear hq8 x1
  go_loopw [3] (fun v wr => ∃ k : Nat, k ≤ s.arts.length ∧ v = .int .i64 k ∧ Hid (artsE s = fe (artF s) k (s.arts.length - k)) ∧ Below W.heap.size W wr) (fun v _ => s.arts.length - (intOf v).toNat)
  case atStart => exact ⟨0, Nat.zero_le _, rfl, HE0, Below.refl _ _⟩
  case round =>
  obtain ⟨k3, hk3, rfl, hx, hb⟩ := hrel
  have hE := hA.trans (hb.mono hA.size)
  have z0 := (hB.below hb hB.lt).cell 0 _ rfl
  have z1 := (hB.below hb hB.lt).cell 1 _ rfl
  have z2 := (hB.below hb hB.lt).cell 2 _ rfl
  have z3 := (hB.below hb hB.lt).cell 3 _ rfl
  have z4 := (hB.below hb hB.lt).cell 4 _ rfl
  have z5 := (hB.below hb hB.lt).cell 5 _ rfl
  have z6 := (hB.below hb hB.lt).cell 6 _ rfl
  by_cases hlt3 : k3 < s.arts.length
  · have HF := fe_rel hx hlt3
    have a1 : (0 : Int) ≤ (k3 : Int) := Int.natCast_nonneg _
    have a2 : (k3 : Int) < (s.arts.length : Int) := by omega
    clear hx
    go_wp2_with fail
    refine (rart_any s d k3 wr (HS.out _ hE) hlt3).mono ?_
    rintro e w1 ⟨rfl, hb1⟩
    have hE1 := hE.trans (hb1.mono hE.size)
    have hbn := hb.trans (hb1.mono hb.size)
    clear z0 z1 z2 z3 z4 z5 z6
    obtain ⟨r, hr⟩ : ∃ r, artF s k3 = r := ⟨_, rfl⟩
    rw [hr] at HF ⊢
    by_cases h0 : r = 0
    · subst h0
      have HN := HF.out.1 rfl
      clear HF hr
      go_wp2
      go_roundw
      case rel => exact ⟨k3 + 1, by omega, by go_num, HN, hbn⟩
      case measure => simp [intOf]; omega
    · have hq : (r != 0) = true := by simpa using h0
      have HE := Lib.hid (P1.out r (HF.out.2 r rfl h0) h0)
      clear HF hr h0 P1 P2 P3 P4 P5
      go_wp2
      go_ret
      exact ⟨ret_int HE.out.symm, hE1⟩
  obtain rfl : k3 = s.arts.length := by omega
  have HA0 := Lib.hid (fe_end hx)
  have aN : ¬ (s.arts.length : Int) < (s.arts.length : Int) := by omega
  clear hx hlt3
  by_cases h3 : 3 < s.ovens.length
  · have hq : (3 : Int) < (s.ovens.length : Int) := by omega
    have HE := Lib.hid (P2.out HA0.out 3 (by simp [ovsE, h3]) (by decide))
    clear P1 P2 P3 P4 P5 h3
    go_wp2
    go_ret
    exact ⟨ret_int HE.out.symm, hE⟩
  have hq3 : ¬ (3 : Int) < (s.ovens.length : Int) := by omega
  have HE0 : Hid (ovsE s = fe (ovF s) 0 (s.ovens.length - 0)) := Lib.hid (by simp [ovsE, h3])
  clear h3
  go_upto_region 14 with (fail)
  clear hq3 aN
  clear z0 z1 z2 z3 z4 z5 z6
  go_loopw [5] (fun v wx => ∃ k : Nat, k ≤ s.ovens.length ∧ v = .int .i64 k ∧ Hid (ovsE s = fe (ovF s) k (s.ovens.length - k)) ∧ Below W.heap.size W wx) (fun v _ => s.ovens.length - (intOf v).toNat)
  case atStart => exact ⟨0, Nat.zero_le _, rfl, HE0, hb⟩
  clear hb hE
  case round =>
  obtain ⟨k5, hk5, rfl, hx, hb⟩ := hrel
  have hE := hA.trans (hb.mono hA.size)
  have z0 := (hB.below hb hB.lt).cell 0 _ rfl
  have z1 := (hB.below hb hB.lt).cell 1 _ rfl
  have z2 := (hB.below hb hB.lt).cell 2 _ rfl
  have z3 := (hB.below hb hB.lt).cell 3 _ rfl
  have z4 := (hB.below hb hB.lt).cell 4 _ rfl
  have z5 := (hB.below hb hB.lt).cell 5 _ rfl
  have z6 := (hB.below hb hB.lt).cell 6 _ rfl
  by_cases hlt5 : k5 < s.ovens.length
  · have HF := fe_rel hx hlt5
    rw [ovF_at8 hlt5] at HF
    have a1 : (0 : Int) ≤ (k5 : Int) := Int.natCast_nonneg _
    have a2 : (k5 : Int) < (s.ovens.length : Int) := by omega
    obtain ⟨b1, o1, he1, ⟨q0, q1, -⟩⟩ := rsl_at (HS.out _ hE).ovens hlt5
    simp only at q0 q1
    rw [he1] at z2
    generalize s.ovens[k5] = x at *
    have hBx := Blk.new wr #[.int .i64 x.lo, .int .i64 x.hi] 51
    have hbn := hb.alloc hb.size (.cells #[.int .i64 x.lo, .int .i64 x.hi] 51)
    have hEn := hE.alloc hE.size (.cells #[.int .i64 x.lo, .int .i64 x.hi] 51)
    have y0 := hBx.cell 0 _ rfl
    have y1 := hBx.cell 1 _ rfl
    clear hx he1
    by_cases hbad : x.lo < 0 ∨ x.hi < x.lo ∨ 1000000 < x.hi
    · have HE := Lib.hid (P2.out HA0.out 1 (HF.out.2 1 (ovE_bad hbad) (by decide)) (by decide))
      clear HF P1 P2 P3 P4 P5
      by_cases g1 : x.lo < 0
      · clear hbad
        go_wp2
        go_ret
        exact ⟨ret_int HE.out.symm, hEn⟩
      by_cases g2 : x.hi < x.lo
      · clear hbad
        go_wp2
        go_ret
        exact ⟨ret_int HE.out.symm, hEn⟩
      have g3 : 1000000 < x.hi := by omega
      clear hbad
      go_wp2
      go_ret
      exact ⟨ret_int HE.out.symm, hEn⟩
    · have g1 : ¬ x.lo < 0 := by omega
      have g2 : ¬ x.hi < x.lo := by omega
      have g3 : ¬ 1000000 < x.hi := by omega
      have HN := HF.out.1 (ovE_good g1 g2 g3)
      clear HF hbad
      go_wp2
      go_roundw
      case rel => exact ⟨k5 + 1, by omega, by go_num, HN, hbn⟩
      case measure => simp [intOf]; omega
  obtain rfl : k5 = s.ovens.length := by omega
  have HO0 := Lib.hid (fe_end hx)
  have aN : ¬ (s.ovens.length : Int) < (s.ovens.length : Int) := by omega
  clear hx hlt5
  by_cases h6 : 6 < s.mks.length
  · have hq : (6 : Int) < (s.mks.length : Int) := by omega
    have HE := Lib.hid (P3.out HA0.out HO0.out 3 (by simp [mksE, h6]) (by decide))
    clear P1 P2 P3 P4 P5 h6
    go_wp2
    go_ret
    exact ⟨ret_int HE.out.symm, hE⟩
  have hq6 : ¬ (6 : Int) < (s.mks.length : Int) := by omega
  have HE0 : Hid (mksE s = fe (mkF s) 0 (s.mks.length - 0)) := Lib.hid (by simp [mksE, h6])
  clear h6
  go_upto_region 22 with (fail)
  clear hq6 aN
  clear z0 z1 z2 z3 z4 z5 z6
  go_loopw [7] (fun v wx => ∃ k : Nat, k ≤ s.mks.length ∧ v = .int .i64 k ∧ Hid (mksE s = fe (mkF s) k (s.mks.length - k)) ∧ Below W.heap.size W wx) (fun v _ => s.mks.length - (intOf v).toNat)
  case atStart => exact ⟨0, Nat.zero_le _, rfl, HE0, hb⟩
  clear hb hE
  case round =>
  obtain ⟨k7, hk7, rfl, hx, hb⟩ := hrel
  have hE := hA.trans (hb.mono hA.size)
  have z0 := (hB.below hb hB.lt).cell 0 _ rfl
  have z1 := (hB.below hb hB.lt).cell 1 _ rfl
  have z2 := (hB.below hb hB.lt).cell 2 _ rfl
  have z3 := (hB.below hb hB.lt).cell 3 _ rfl
  have z4 := (hB.below hb hB.lt).cell 4 _ rfl
  have z5 := (hB.below hb hB.lt).cell 5 _ rfl
  have z6 := (hB.below hb hB.lt).cell 6 _ rfl
  by_cases hlt7 : k7 < s.mks.length
  · have HF := fe_rel hx hlt7
    rw [mkF_at8 hlt7] at HF
    have a1 : (0 : Int) ≤ (k7 : Int) := Int.natCast_nonneg _
    have a2 : (k7 : Int) < (s.mks.length : Int) := by omega
    obtain ⟨b1, o1, he1, v1, ⟨q0, q1, q2, q3⟩, -, hri, -⟩ := rsl_at (HS.out _ hE).mks hlt7
    obtain ⟨ar, cr, rfl⟩ := hri.shape
    simp only at q0 q1 q2 q3
    rw [he1] at z3
    have HE1 := Lib.hid he1
    clear hx he1
    generalize s.mks[k7] = x at *
    have hD0 : Below wr.heap.size wr wr.drew := (Below.refl _ _).drew
    have hED := hE.trans (hD0.mono hE.size)
    have hCM := rmk_any s d x ar cr wr.drew (HS.out _ hED) (hri.mono (ext_of_below hD0))
    rw [HE1.out] at hCM
    have HCM := Lib.hid hCM
    have HED := Lib.hid hED
    have HBD := Lib.hid (hb.trans (hD0.mono hb.size))
    have hW7 : wr.drew.heap.size = wr.heap.size := rfl
    clear hCM hri hD0 hED hW7
    go_upto_region 24 with (fail)
    go_still_tail 6, (by kernel_rfl)
    go_wp2_with fail
    refine HCM.out.mono ?_
    rintro e w1 ⟨rfl, hb1⟩
    have hE1 := HED.out.trans (hb1.mono HED.out.size)
    have hbn := HBD.out.trans (hb1.mono HBD.out.size)
    clear HCM HED HBD q0 q1 q2 q3 hb1
    clear z0 z1 z2 z3 z4 z5 z6
    obtain ⟨r, hr⟩ : ∃ r, mkE x s.ovens.length s.arts.length = r := ⟨_, rfl⟩
    rw [hr] at HF ⊢
    by_cases h0 : r = 0
    · subst h0
      have HN := HF.out.1 rfl
      clear HF hr
      go_wp2
      go_roundw
      case rel => exact ⟨k7 + 1, by omega, by go_num, HN, hbn⟩
      case measure => simp [intOf]; omega
    · have hq : (r != 0) = true := by simpa using h0
      have HE := Lib.hid (P3.out HA0.out HO0.out r (HF.out.2 r rfl h0) h0)
      clear HF hr h0 P1 P2 P3 P4 P5
      go_wp2
      go_ret
      exact ⟨ret_int HE.out.symm, hE1⟩
  obtain rfl : k7 = s.mks.length := by omega
  have HM0 := Lib.hid (fe_end hx)
  have aN : ¬ (s.mks.length : Int) < (s.mks.length : Int) := by omega
  clear hx hlt7
  have hJ := (HS.out _ hE).jobs
  have hC := (HS.out _ hE).cols
  go_wp2_with fail
  refine (rturns_any _ s.jobs s.arts.length _ hJ la).mono ?_
  rintro e w' ⟨rfl, hw'⟩
  obtain rfl := hw'.symm
  clear hw'
  cases hj : tabB s.jobs s.arts.length with
  | false =>
    have HE := Lib.hid (P4.out HA0.out HO0.out HM0.out 1 (by unfold turnsE; rw [if_pos hj]) (by decide))
    clear P1 P2 P3 P4 P5 hj
    go_wp2
    go_ret
    exact ⟨ret_int HE.out.symm, hE⟩
  | true =>
  by_cases h6 : 6 < s.cols.length
  · have hq : (6 : Int) < (s.cols.length : Int) := by omega
    have HE := Lib.hid (P4.out HA0.out HO0.out HM0.out 3 (by unfold turnsE; rw [if_neg (by rw [hj]; decide), if_pos h6]) (by decide))
    clear P1 P2 P3 P4 P5 h6 hj
    go_wp2
    go_ret
    exact ⟨ret_int HE.out.symm, hE⟩
  have hq6 : ¬ (6 : Int) < (s.cols.length : Int) := by omega
  have HJ := Lib.hid hj
  have HC6 := Lib.hid h6
  clear hj h6
  go_wp2_with fail
  refine (rturns_any _ s.cols s.cols.length _ hC lc).mono ?_
  rintro e w' ⟨rfl, hw'⟩
  obtain rfl := hw'.symm
  clear hw'
  cases hj : tabB s.cols s.cols.length with
  | false =>
    have HE := Lib.hid (P4.out HA0.out HO0.out HM0.out 1 (by unfold turnsE; rw [if_neg (by rw [HJ.out]; decide), if_neg HC6.out, if_pos hj]) (by decide))
    clear P1 P2 P3 P4 P5 hj hq6
    go_wp2
    go_ret
    exact ⟨ret_int HE.out.symm, hE⟩
  | true =>
  have HP := Lib.hid (P5.out HA0.out HO0.out HM0.out (by unfold turnsE; rw [if_neg (by rw [HJ.out]; decide), if_neg HC6.out, if_neg (by rw [hj]; decide)]))
  clear P1 P2 P3 P4 P5 hj hq6 HJ HC6 hJ hC
  by_cases hod : s.arts.length < s.ods.length
  · have hq : (s.arts.length : Int) < (s.ods.length : Int) := by omega
    have HE : Hid (partsE s = 3) := Lib.hid (by rw [HP.out]; unfold odsE; rw [if_pos hod])
    clear HP hod
    go_wp2
    go_ret
    exact ⟨ret_int HE.out.symm, hE⟩
  have hqd : ¬ (s.arts.length : Int) < (s.ods.length : Int) := by omega
  have HE0 : Hid (odsE s = fe (odF s) 0 (s.ods.length - 0)) := Lib.hid (by unfold odsE; rw [if_neg hod, Nat.sub_zero])
  have hodd : decide (s.arts.length < s.ods.length) = false := decide_eq_false hod
  go_upto_region 36 with (fail)
  clear hqd aN hod hodd
  clear z0 z1 z2 z3 z4 z5 z6
  go_loopw [9] (fun v wx => ∃ k : Nat, k ≤ s.ods.length ∧ v = .int .i64 k ∧ Hid (odsE s = fe (odF s) k (s.ods.length - k)) ∧ Below W.heap.size W wx) (fun v _ => s.ods.length - (intOf v).toNat)
  case atStart => exact ⟨0, Nat.zero_le _, rfl, HE0, hb⟩
  clear hb hE
  case round =>
  obtain ⟨k9, hk9, rfl, hx, hb⟩ := hrel
  have hE := hA.trans (hb.mono hA.size)
  have z0 := (hB.below hb hB.lt).cell 0 _ rfl
  have z1 := (hB.below hb hB.lt).cell 1 _ rfl
  have z2 := (hB.below hb hB.lt).cell 2 _ rfl
  have z3 := (hB.below hb hB.lt).cell 3 _ rfl
  have z4 := (hB.below hb hB.lt).cell 4 _ rfl
  have z5 := (hB.below hb hB.lt).cell 5 _ rfl
  have z6 := (hB.below hb hB.lt).cell 6 _ rfl
  by_cases hlt9 : k9 < s.ods.length
  · have HF := fe_rel hx hlt9
    have a1 : (0 : Int) ≤ (k9 : Int) := Int.natCast_nonneg _
    have a2 : (k9 : Int) < (s.ods.length : Int) := by omega
    clear hx
    go_wp2_with fail
    refine (rord_any s d k9 wr (HS.out _ hE) hlt9 HDD.out).mono ?_
    rintro e w1 ⟨rfl, hb1⟩
    have hE1 := hE.trans (hb1.mono hE.size)
    have hbn := hb.trans (hb1.mono hb.size)
    clear z0 z1 z2 z3 z4 z5 z6
    obtain ⟨r, hr⟩ : ∃ r, odF s k9 = r := ⟨_, rfl⟩
    rw [hr] at HF ⊢
    by_cases h0 : r = 0
    · subst h0
      have HN := HF.out.1 rfl
      clear HF hr
      go_wp2
      go_roundw
      case rel => exact ⟨k9 + 1, by omega, by go_num, HN, hbn⟩
      case measure => simp [intOf]; omega
    · have hq : (r != 0) = true := by simpa using h0
      have HE : Hid (partsE s = r) := Lib.hid (by rw [HP.out]; exact HF.out.2 r rfl h0)
      clear HF hr h0
      go_wp2
      go_ret
      exact ⟨ret_int HE.out.symm, hE1⟩
  obtain rfl : k9 = s.ods.length := by omega
  have HE : Hid (partsE s = 0) := Lib.hid (by rw [HP.out]; exact fe_end hx)
  have aN : ¬ (s.ods.length : Int) < (s.ods.length : Int) := by omega
  clear hx hlt9
  go_wp2
  go_ret
  exact ⟨ret_int HE.out.symm, hE⟩
end Go.Proofs.Ytdffhkbncencgaa
