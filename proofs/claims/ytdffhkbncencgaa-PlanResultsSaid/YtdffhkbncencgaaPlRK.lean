/- The specification's planned and shift; no statement is proved here. -/
import Derived.Test.YtdffhkbncencgaaPlRC
import Derived.Test.YtdffhkbncencgaaPlPlan
import Derived.Test.YtdffhkbncencgaaPlShM
import Derived.Test.YtdffhkbncencgaaPlCost
namespace Go.Proofs.Ytdffhkbncencgaa
open Go.RowKit Go.PlainAid
set_option linter.unusedVariables false
set_option linter.unusedSimpArgs false

def rowOk (s : Sn) (r : List Int) : Bool := allB r s.days (-1) ((s.arts.length : Int) - 1)
theorem rowOk_len {s : Sn} {r : List Int} (h : (r.length : Int) ≠ s.days) : rowOk s r = false := by
  rw [Bool.eq_false_iff]; intro e; exact h (allB_true.1 e).1
theorem rowOk_bad {s : Sn} {r : List Int} {m : Nat} (h : m < r.length) (hb : btw r[m] (-1) ((s.arts.length : Int) - 1) = false) : rowOk s r = false := by
  rw [Bool.eq_false_iff]; intro e
  have := btw_true.2 ((allB_true.1 e).2 _ (List.getElem_mem h))
  rw [hb] at this; cases this
theorem rowOk_mk {s : Sn} {r : List Int} (h : (r.length : Int) = s.days) (hb : ∀ m (hm : m < r.length), btw r[m] (-1) ((s.arts.length : Int) - 1) = true) : rowOk s r = true :=
  allB_true.2 ⟨h, fun x hx => by
    obtain ⟨m, hm, rfl⟩ := List.getElem_of_mem hx
    exact btw_true.1 (hb m hm)⟩

set_option maxHeartbeats 8000000 in
set_option maxRecDepth 100000 in
theorem rplanned_any (s : Sn) (d : SA) (T : List (List Int)) (vt : Value) (w : World) (h : SnD w s d) (hT : RRows w vt T) : Calls Try.prog 38 #[.agg #[.int .i64 s.days, .slice d.a1 s.arts.length d.c1, .slice d.a2 s.ovens.length d.c2, .slice d.a3 s.mks.length d.c3, .slice d.a4 s.jobs.length d.c4, .slice d.a5 s.cols.length d.c5, .slice d.a6 s.ods.length d.c6], vt] w fun e w' => e = .returned (.int .i64 (plE s T)) ∧ Below w.heap.size w w' := by
  obtain ⟨at', ct, rfl, -, ⟨-, htm⟩, hlt⟩ := hT
  have hA := below_box w (.cells #[.int .i64 s.days, .slice d.a1 s.arts.length d.c1, .slice d.a2 s.ovens.length d.c2, .slice d.a3 s.mks.length d.c3, .slice d.a4 s.jobs.length d.c4, .slice d.a5 s.cols.length d.c5, .slice d.a6 s.ods.length d.c6] 28)
  have hB := Blk.new w #[.int .i64 s.days, .slice d.a1 s.arts.length d.c1, .slice d.a2 s.ovens.length d.c2, .slice d.a3 s.mks.length d.c3, .slice d.a4 s.jobs.length d.c4, .slice d.a5 s.cols.length d.c5, .slice d.a6 s.ods.length d.c6] 28
  have HS := Lib.hid (fun V (hV : Below w.heap.size w V) => h.mono (ext_of_below hV))
  have HLT := Lib.hid hlt
  clear h hlt
  go_enter Try.func38, Try.ntmps38
  go_upto_region 1 with (fail)
  generalize w.alloc (.cells #[.int .i64 s.days, .slice d.a1 s.arts.length d.c1, .slice d.a2 s.ovens.length d.c2, .slice d.a3 s.mks.length d.c3, .slice d.a4 s.jobs.length d.c4, .slice d.a5 s.cols.length d.c5, .slice d.a6 s.ods.length d.c6] 28) = W at *
  have x0 := hB.cell 0 _ rfl
  have x1 := hB.cell 1 _ rfl
  have x2 := hB.cell 2 _ rfl
  have x3 := hB.cell 3 _ rfl
  have x4 := hB.cell 4 _ rfl
  have x5 := hB.cell 5 _ rfl
  have x6 := hB.cell 6 _ rfl
  go_wp2_with fail
  refine (rCheck_any s d W (HS.out _ hA)).mono ?_
  rintro e w1 ⟨rfl, hb⟩
  clear x0 x1 x2 x3 x4 x5 x6
  replace hB := hB.below hb hB.lt
  replace hA := hA.trans (hb.mono hA.size)
  clear hb
  by_cases hE : worksE s = 0
  case neg =>
    obtain ⟨r, hr⟩ : ∃ r, worksE s = r := ⟨_, rfl⟩
    have hq : (r != 0) = true := by rw [← hr]; simpa using hE
    have HE : Hid (plE s T = r) := Lib.hid (by unfold plE; rw [if_neg hE]; exact hr)
    rw [hr]
    clear hE hr
    go_wp2
    go_ret
    exact ⟨ret_int HE.out.symm, hA⟩
  case pos =>
  have ok := worksE_ok hE
  have HOK := Lib.hid ok
  have HWK := Lib.hid hE
  rw [hE]
  clear hE
  by_cases hl : T.length = s.mks.length
  case neg =>
    have hq : ((T.length : Int) != (s.mks.length : Int)) = true := by simp; omega
    have HE : Hid (plE s T = 1) := Lib.hid (by unfold plE; rw [if_pos HWK.out, if_neg hl])
    have x3 := hB.cell 3 _ rfl
    clear hl ok
    go_wp2
    go_ret
    exact ⟨ret_int HE.out.symm, hA⟩
  case pos =>
  have hq : ((T.length : Int) != (s.mks.length : Int)) = false := by simp; omega
  have HBAD : Hid (∀ k (h : k < T.length), rowOk s T[k] = false → plE s T = 1) := Lib.hid (fun k hk hp => by
    unfold plE
    rw [if_pos HWK.out, if_pos hl, if_neg]
    unfold rowsB
    rw [Bool.not_eq_true, List.all_eq_false]
    exact ⟨_, List.getElem_mem hk, by unfold rowOk at hp; rw [hp]; decide⟩)
  have HGO : Hid ((∀ k (h : k < T.length), rowOk s T[k] = true) → plE s T = 0) := Lib.hid (fun hall => by
    unfold plE
    rw [if_pos HWK.out, if_pos hl, if_pos]
    unfold rowsB
    rw [List.all_eq_true]
    intro x hx
    obtain ⟨j, hj, rfl⟩ := List.getElem_of_mem hx
    exact hall j hj)
  have x3 := hB.cell 3 _ rfl
  have HD : Hid (1 ≤ s.days ∧ s.days ≤ 14) := Lib.hid ok.days
  have hna := ok.na
  clear hl ok
  go_upto_region 7 with (fail)
  clear x3 hq
  go_loopw [6] (fun i wr => ∃ k : Nat, k ≤ T.length ∧ i = .int .i64 k ∧ Hid (∀ j (h : j < T.length), j < k → rowOk s T[j] = true) ∧ Below w1.heap.size w1 wr) (fun i _ => T.length - (intOf i).toNat)
  case atStart => exact ⟨0, Nat.zero_le _, rfl, Lib.hid (fun j _ h => absurd h (by omega)), Below.refl _ _⟩
  case round =>
    obtain ⟨k, hk, rfl, hall, hb⟩ := hrel
    have hE := hA.trans (hb.mono hA.size)
    by_cases hlt : k < T.length
    case neg =>
      obtain rfl : k = T.length := by omega
      have aN : ¬ (T.length : Int) < (T.length : Int) := by omega
      have HP := Lib.hid (HGO.out (fun j hj => hall.out j hj hj))
      clear hall
      go_wp2
      go_ret
      exact ⟨ret_int HP.out.symm, hE⟩
    case pos =>
    obtain ⟨b1, o1, he1, v, q0, hri⟩ := HLT.out k hlt
    subst he1
    replace q0 := ext_of_below hE _ _ q0
    replace hri := hri.mono (ext_of_below hE)
    rw [Nat.mul_one] at q0
    have j1 : (0 : Int) ≤ (k : Int) := Int.natCast_nonneg _
    have j2 : (k : Int) < (T.length : Int) := by omega
    have x0 := (hB.below hb hB.lt).cell 0 _ rfl
    have HN : Hid (rowOk s T[k] = true → ∀ j (h : j < T.length), j < k + 1 → rowOk s T[j] = true) := Lib.hid (fun h1 j hj hjk => by
      by_cases e : j = k
      · subst e; exact h1
      · exact hall.out j hj (by omega))
    have HF := Lib.hid (HBAD.out k hlt)
    clear hall
    generalize T[k] = r at *
    obtain ⟨ar, cr, rfl⟩ := hri.shape
    have HR := Lib.hid hri
    clear hri
    by_cases hrd : (r.length : Int) = s.days
    case neg =>
      have hq2 : ((r.length : Int) != s.days) = true := by simp; omega
      have HP := Lib.hid (HF.out (rowOk_len hrd))
      have HE := Lib.hid hE
      have HRL := Lib.hid (show r.length = r.length from rfl)
      clear HN HF hrd hE hb
      generalize r.length = rl at *
      go_wp2_with fail
      go_quiet (fail)
      go_wp2
      go_ret
      exact ⟨ret_int HP.out.symm, below_drewN HE.out _⟩
    case pos =>
    have hq2 : ((r.length : Int) != s.days) = false := by simp; omega
    have HRD := Lib.hid hrd
    have HE := Lib.hid hE
    have HB1 := Lib.hid hb
    clear hrd hE hb
    obtain ⟨rl, hrl⟩ : ∃ n, r.length = n := ⟨_, rfl⟩
    have HRL := Lib.hid hrl
    rw [hrl] at hq2 HR q0
    clear hrl
    go_wp2_with fail
    go_quiet (fail)
    go_wp2_with fail
    have HQ0 := Lib.hid q0
    clear q0 x0 hq2
    go_loopw [7] (fun i wx => ∃ m : Nat, m ≤ rl ∧ i = .int .i64 m ∧ Hid (∀ j (h : j < r.length), j < m → btw r[j] (-1) ((s.arts.length : Int) - 1) = true) ∧ Below wr.heap.size wr wx) (fun i _ => rl - (intOf i).toNat)
    case atStart => exact ⟨0, Nat.zero_le _, rfl, Lib.hid (fun j _ h => absurd h (by omega)), below_drewN (Below.refl _ _) _⟩
    case round =>
      obtain ⟨m, hm, rfl, hall, hb⟩ := hrel
      have hE2 := HE.out.trans (hb.mono HE.out.size)
      have hBx := (hB.below HB1.out hB.lt).below hb (hB.below HB1.out hB.lt).lt
      have x0 := hBx.cell 0 _ rfl
      by_cases hlm : m < rl
      case neg =>
        obtain rfl : m = rl := by omega
        have aN : ¬ (m : Int) < s.days := by have := HRD.out; have := HRL.out; omega
        have HX := Lib.hid (HN.out (rowOk_mk HRD.out (fun j hj => hall.out j hj (by have := HRL.out; omega))))
        clear hall hBx
        go_wp2
        go_roundw
        case rel => exact ⟨k + 1, by omega, by go_num, HX, HB1.out.trans (hb.mono HB1.out.size)⟩
        case measure => simp [intOf]; omega
      case pos =>
      have hlm2 : m < r.length := by have := HRL.out; omega
      have hr14 : rl ≤ 14 := by have := HD.out; have := HRD.out; have := HRL.out; omega
      have j3 : (0 : Int) ≤ (m : Int) := Int.natCast_nonneg _
      have j4 : (m : Int) < s.days := by have := HRD.out; have := HRL.out; omega
      have j5 : (m : Int) < (rl : Int) := by omega
      have q0 := ext_of_below hb _ _ HQ0.out
      obtain ⟨b2, o2, he2, r0, -⟩ := ints_at HR.out hlm2
      subst he2
      replace r0 := ext_of_below hb _ _ r0
      have x1 := hBx.cell 1 _ rfl
      have zn : wrap64 ((s.arts.length : Int) - 1) = (s.arts.length : Int) - 1 := wrap_id _ (by unfold I64; omega)
      have HN2 : Hid (btw r[m] (-1) ((s.arts.length : Int) - 1) = true → ∀ j (h : j < r.length), j < m + 1 → btw r[j] (-1) ((s.arts.length : Int) - 1) = true) := Lib.hid (fun h1 j hj hjk => by
        by_cases e : j = m
        · subst e; exact h1
        · exact hall.out j hj (by omega))
      have HF2 : Hid (btw r[m] (-1) ((s.arts.length : Int) - 1) = false → plE s T = 1) := Lib.hid (fun h1 => HF.out (rowOk_bad hlm2 h1))
      have HC : Hid (∀ n, Calls Try.prog 34 #[.int .i64 r[m], .int .i64 (-1), .int .i64 ((s.arts.length : Int) - 1)] (wr.drewN n) fun e w' => e = .returned (.bool (btw r[m] (-1) ((s.arts.length : Int) - 1))) ∧ w' = wr.drewN n) := Lib.hid (fun n => rwithin8_any _ _ _ _)
      have HE2 := Lib.hid hE2
      have HBX := Lib.hid hb
      clear hall hBx hE2 hb
      generalize r[m] = rv at *
      cases hp : btw rv (-1) ((s.arts.length : Int) - 1) with
      | true =>
        have HX := Lib.hid (HN2.out hp)
        rw [hp] at HC
        clear HN2 HF2 hp
        go_wp2_with fail
        go_quiet ((go_at_call 34; exact Calls.quiet_of_same (HC.out _)))
        go_wp2
        go_roundw
        case rel => exact ⟨m + 1, by omega, by go_num, HX, below_drewN HBX.out _⟩
        case measure => simp [intOf]; omega
      | false =>
        have HP := Lib.hid (HF2.out hp)
        rw [hp] at HC
        clear HN2 HF2 hp
        go_wp2_with fail
        go_quiet ((go_at_call 34; exact Calls.quiet_of_same (HC.out _)))
        go_wp2
        go_ret
        exact ⟨ret_int HP.out.symm, below_drewN HE2.out _⟩

theorem nowD_bd {s : Sn} {T : List (List Int)} (ok : OkS s) (pk : PlOk s T) (k : Nat) {day : Int} (h1 : -1 ≤ day) (h2 : day < s.days) : ∀ x ∈ (mksAt s k).map (planC s T day), -1 ≤ x ∧ x < s.arts.length := fun x hx => by
  obtain ⟨m, hm, rfl⟩ := List.mem_map.1 hx
  have hms := mksAt_ok s k m hm
  exact planC_bd ok pk h1 h2 hms
theorem own_drew8 {X : World} {base : Nat} {e : TypeId} {size : Nat} {v : Value} {n : Nat} {xs : List Value} (h : X.ownsRow base e size v n xs) : X.drew.ownsRow base e size v n xs := own_grown2 h (below_grown8 (Below.refl _ _).drew none) (fun g _ e => by cases e)
set_option maxHeartbeats 8000000 in
set_option maxRecDepth 100000 in
theorem rshift_any (s : Sn) (d : SA) (T : List (List Int)) (vt : Value) (k : Nat) (day : Int) (w : World) (h : SnD w s d) (hT : RRows w vt T) (ok : OkS s) (pk : PlOk s T) (hd1 : -1 ≤ day) (hd2 : day < s.days) :
    Calls Try.prog 48 #[.agg #[.int .i64 s.days, .slice d.a1 s.arts.length d.c1, .slice d.a2 s.ovens.length d.c2, .slice d.a3 s.mks.length d.c3, .slice d.a4 s.jobs.length d.c4, .slice d.a5 s.cols.length d.c5, .slice d.a6 s.ods.length d.c6], vt, .int .i64 k, .int .i64 day] w fun e w' => (∃ v, e = .returned v ∧ RInts (vis (w.heap.size ≤ ·) w') v ((mksAt s k).map (planC s T day))) ∧ Below w.heap.size w w' := by
  obtain ⟨ii, hi, hzz⟩ := Option.map_eq_some_iff.1 info_int
  obtain ⟨hz0, hz1⟩ := Prod.mk.inj hzz
  obtain ⟨hz1, hz2⟩ := Prod.mk.inj hz1
  clear hzz
  have hA := below_box w (.cells #[.int .i64 s.days, .slice d.a1 s.arts.length d.c1, .slice d.a2 s.ovens.length d.c2, .slice d.a3 s.mks.length d.c3, .slice d.a4 s.jobs.length d.c4, .slice d.a5 s.cols.length d.c5, .slice d.a6 s.ods.length d.c6] 28)
  have hB := Blk.new w #[.int .i64 s.days, .slice d.a1 s.arts.length d.c1, .slice d.a2 s.ovens.length d.c2, .slice d.a3 s.mks.length d.c3, .slice d.a4 s.jobs.length d.c4, .slice d.a5 s.cols.length d.c5, .slice d.a6 s.ods.length d.c6] 28
  have HS := Lib.hid (fun V (hV : Below w.heap.size w V) => h.mono (ext_of_below hV))
  have HBD := Lib.hid (nowD_bd ok pk k hd1 hd2)
  have hnm := ok.nm
  have HSD := Lib.hid pk.shp
  obtain ⟨at', ct, rfl⟩ := hT.shape
  rw [pk.len] at hT ⊢
  have HT := Lib.hid hT
  have hsd := ok.days
  have HDD := Lib.hid (And.intro hd1 hd2)
  have hL6 := Nat.le_trans (mksAt_len s k) hnm
  have hms := mksAt_ok s k
  clear h hT ok pk hd1 hd2
  go_enter Try.func48, Try.ntmps48
  go_upto_region 1 with (fail)
  generalize w.alloc (.cells #[.int .i64 s.days, .slice d.a1 s.arts.length d.c1, .slice d.a2 s.ovens.length d.c2, .slice d.a3 s.mks.length d.c3, .slice d.a4 s.jobs.length d.c4, .slice d.a5 s.cols.length d.c5, .slice d.a6 s.ods.length d.c6] 28) = W at *
  have x0 := hB.cell 0 _ rfl
  have x1 := hB.cell 1 _ rfl
  have x2 := hB.cell 2 _ rfl
  have x3 := hB.cell 3 _ rfl
  have x4 := hB.cell 4 _ rfl
  have x5 := hB.cell 5 _ rfl
  have x6 := hB.cell 6 _ rfl
  go_wp2_with fail
  refine (rAt_any s d (k : Int) W (HS.out _ hA) hnm).mono ?_
  rintro e w1 ⟨⟨v, rfl, hv⟩, hb⟩
  replace hv := hv.mono vis_out
  clear x0 x1 x2 x3 x4 x5 x6
  replace hB := hB.below hb hB.lt
  replace hA := hA.trans (hb.mono hA.size)
  clear hb
  obtain ⟨am, cm, rfl⟩ := hv.shape
  have HM := Lib.hid hv
  clear hv
  generalize hmse : mksAt s k = ms at *
  have HMS := Lib.hid hmse
  clear hmse
  go_upto_region 4 with (fail)
  have hWs := hB.lt
  have hSZ := hA.size
  go_loopw [9, 11] (fun v i wr => ∃ (j : Nat) (l : List Int), j ≤ ms.length ∧ i = .int .i64 j ∧ Hid (l = (ms.take j).map (planC s T day)) ∧ wr.ownsRow w1.heap.size 3 1 v l.length (l.map (Value.int .i64)) ∧ Below w1.heap.size w1 wr) (fun _ i _ => ms.length - (intOf i).toNat)
  case atStart => exact ⟨0, [], Nat.zero_le _, rfl, Lib.hid rfl, World.ownsRow_nil _ _ _ _, Below.refl _ _⟩
  case round =>
    obtain ⟨j, l, hj, rfl, hx, hown, hb⟩ := hrel
    have hE := hA.trans (hb.mono hA.size)
    have hsz := hb.size
    have hll : l.length ≤ 6 := by rw [hx.out, List.length_map]; exact Nat.le_trans (List.length_take_le _ _) (by omega)
    by_cases hlt : j < ms.length
    case neg =>
      obtain rfl : j = ms.length := by omega
      have aN : ¬ (ms.length : Int) < (ms.length : Int) := by omega
      have HR : Hid (RInts (vis (w.heap.size ≤ ·) wr) u9 (ms.map (planC s T day))) := Lib.hid (by
        have hx2 : l = ms.map (planC s T day) := by rw [hx.out, List.take_length]
        rw [← hx2]
        refine own_RInts (own_vis hown (fun q hq => by have := (hown.lt q hq).1; omega)) (by omega) (fun y hy => ?_)
        rw [hx2] at hy
        have := HBD.out y hy
        have := hE.size
        have h9 := (HS.out _ hE).arts.len
        unfold I64; omega)
      clear hx hown
      go_wp2
      go_ret
      exact ⟨⟨_, rfl, by rw [HMS.out]; exact HR.out⟩, hE⟩
    case pos =>
    have hst : l ++ [planC s T day ms[j]] = (ms.take (j + 1)).map (planC s T day) := by rw [List.take_succ_eq_append_getElem hlt, List.map_append, hx.out]; rfl
    obtain ⟨b1, o1, he1, r1, -⟩ := ints_at HM.out hlt
    subst he1
    have j1 : (0 : Int) ≤ (j : Int) := Int.natCast_nonneg _
    have j2 : (j : Int) < (ms.length : Int) := by omega
    have hmb := hms _ (List.getElem_mem hlt)
    generalize ms[j] = mm at *
    obtain ⟨mn, rfl⟩ := Int.eq_ofNat_of_zero_le hmb.1
    have hml : mn < s.mks.length := by omega
    have j3 : (mn : Int) < (s.mks.length : Int) := by omega
    have j4 : (0 : Int) ≤ (mn : Int) := Int.natCast_nonneg _
    have hlow : ∀ q, u9.ownBlock = some q → w1.heap.size ≤ q := fun q hq => (hown.lt q hq).1
    have hsm := hb.size
    by_cases hd : day < 0
    · have hpl : planC s T day (mn : Int) = s.mks[mn].start := by unfold planC; rw [if_pos hd]; simp [List.getElem?_eq_getElem hml]
      rw [hpl] at hst
      have HXX := Lib.hid hst
      obtain ⟨b4, o4, he4, v4, ⟨-, -, -, p3⟩, -⟩ := rsl_at (HS.out _ hA).mks hml
      have x3 := hB.cell 3 _ rfl
      rw [he4] at x3
      try simp only at p3
      clear he4 hst hpl hx hmb
      generalize s.mks[mn].start = av at *
      have HE := Lib.hid hE
      have D0 := hb.drew
      have hsv : ∀ V, Below w1.heap.size w1 V → (fun w' : World => w'.cell? ⟨w.heap.size, 3, none⟩ = some (.slice (some ⟨b4, o4, none⟩) s.mks.length d.c3) ∧ w'.cell? ⟨b1, o1 + j, none⟩ = some (.int .i64 (mn : Int)) ∧ w'.cell? ⟨b4, o4 + mn * 4 + 3, none⟩ = some (.int .i64 av)) V := fun V hV => ⟨ext_of_below hV _ _ x3, ext_of_below hV _ _ r1, ext_of_below hV _ _ p3⟩
      have hown0 := own_drew8 hown
      clear hown hb hE
      go_upto_region 7 with (fail)
      refine wp_region_till (fun w' : World => w'.cell? ⟨w.heap.size, 3, none⟩ = some (.slice (some ⟨b4, o4, none⟩) s.mks.length d.c3) ∧ w'.cell? ⟨b1, o1 + j, none⟩ = some (.int .i64 (mn : Int)) ∧ w'.cell? ⟨b4, o4 + mn * 4 + 3, none⟩ = some (.int .i64 av)) 13 (by kernel_rfl) (hsv _ D0) (fun hHeld => ?_)
      clear x3 r1 p3
      refine Till.take 0 (some 23) (v := ?_) rfl rfl (by kernel_rfl) (by kernel_rfl) (by kernel_rfl) (by kernel_rfl) (fun _ _ _ h => h) (Or.inl ⟨by rfl, ?_⟩) (by assumption) ?_
      rotate_left
      · (intro w hSw; (try dsimp only at hSw); go_simp; try with_reducible rfl)
      try simp only [Act.put, List.setIfInBounds_toArray, List.set_cons_zero, List.set_cons_succ]
      refine Till.take 1 (some 24) (v := ?_) rfl rfl (by kernel_rfl) (by kernel_rfl) (by kernel_rfl) (by kernel_rfl) (fun _ _ _ h => h) (Or.inl ⟨by rfl, ?_⟩) (by assumption) ?_
      rotate_left
      · (intro w hSw; (try dsimp only at hSw); go_simp; try with_reducible rfl)
      try simp only [Act.put, List.setIfInBounds_toArray, List.set_cons_zero, List.set_cons_succ]
      refine Till.take 2 (some 25) (v := ?_) rfl rfl (by kernel_rfl) (by kernel_rfl) (by kernel_rfl) (by kernel_rfl) (fun _ _ _ h => h) (Or.inl ⟨by rfl, ?_⟩) (by assumption) ?_
      rotate_left
      · (intro w hSw; (try dsimp only at hSw); go_simp; try with_reducible rfl)
      try simp only [Act.put, List.setIfInBounds_toArray, List.set_cons_zero, List.set_cons_succ]
      refine Till.take 3 (some 26) (v := ?_) rfl rfl (by kernel_rfl) (by kernel_rfl) (by kernel_rfl) (by kernel_rfl) (fun _ _ _ h => h) (Or.inl ⟨by rfl, ?_⟩) (by assumption) ?_
      rotate_left
      · (intro w hSw; (try dsimp only at hSw); go_simp; try with_reducible rfl)
      try simp only [Act.put, List.setIfInBounds_toArray, List.set_cons_zero, List.set_cons_succ]
      refine Till.take 4 (some 27) (v := ?_) rfl rfl (by kernel_rfl) (by kernel_rfl) (by kernel_rfl) (by kernel_rfl) (fun _ _ _ h => h) (Or.inl ⟨by rfl, ?_⟩) (by assumption) ?_
      rotate_left
      · (intro w hSw; (try dsimp only at hSw); go_simp; try with_reducible rfl)
      try simp only [Act.put, List.setIfInBounds_toArray, List.set_cons_zero, List.set_cons_succ]
      refine Till.take 5 (some 28) (v := ?_) rfl rfl (by kernel_rfl) (by kernel_rfl) (by kernel_rfl) (by kernel_rfl) (fun _ _ _ h => h) (Or.inl ⟨by rfl, ?_⟩) (by assumption) ?_
      rotate_left
      · (intro w hSw; (try dsimp only at hSw); go_simp; try with_reducible rfl)
      try simp only [Act.put, List.setIfInBounds_toArray, List.set_cons_zero, List.set_cons_succ]
      refine Till.take 6 (some 29) (v := ?_) rfl rfl (by kernel_rfl) (by kernel_rfl) (by kernel_rfl) (by kernel_rfl) (fun _ _ _ h => h) (Or.inl ⟨by rfl, ?_⟩) (by assumption) ?_
      rotate_left
      · (intro w hSw; (try dsimp only at hSw); go_simp; try with_reducible rfl)
      try simp only [Act.put, List.setIfInBounds_toArray, List.set_cons_zero, List.set_cons_succ]
      refine Till.take 7 (some 30) (v := ?_) rfl rfl (by kernel_rfl) (by kernel_rfl) (by kernel_rfl) (by kernel_rfl) (fun _ _ _ h => h) (Or.inl ⟨by rfl, ?_⟩) (by assumption) ?_
      rotate_left
      · (intro w hSw; (try dsimp only at hSw); go_simp; try with_reducible rfl)
      try simp only [Act.put, List.setIfInBounds_toArray, List.set_cons_zero, List.set_cons_succ]
      refine Till.take 8 (some 31) (v := ?_) rfl rfl (by kernel_rfl) (by kernel_rfl) (by kernel_rfl) (by kernel_rfl) (fun _ _ _ h => h) (Or.inl ⟨by rfl, ?_⟩) (by assumption) ?_
      rotate_left
      · (intro w hSw; (try dsimp only at hSw); go_simp; try with_reducible rfl)
      try simp only [Act.put, List.setIfInBounds_toArray, List.set_cons_zero, List.set_cons_succ]
      refine Till.take 9 (some 32) (v := ?_) rfl rfl (by kernel_rfl) (by kernel_rfl) (by kernel_rfl) (by kernel_rfl) (fun _ _ _ h => h) (Or.inl ⟨by rfl, ?_⟩) (by assumption) ?_
      rotate_left
      · (intro w hSw; (try dsimp only at hSw); go_simp; try with_reducible rfl)
      try simp only [Act.put, List.setIfInBounds_toArray, List.set_cons_zero, List.set_cons_succ]
      refine Till.one 10 rfl (by kernel_rfl) (fun K hK => ?_)
      go_simp
      have BK := Blk.new wr.drew #[.int .i64 av] 3
      have D2 := D0.alloc hsm (.cells #[.int .i64 av] 3)
      have hown2 := hown0.alloc (.cells #[.int .i64 av] 3)
      refine hK.out _ _ (fun _ => hsv _ D2) (fun hHeld => ?_)
      clear hK K
      try simp only [Act.put, List.setIfInBounds_toArray]
      refine Till.one 11 rfl (by kernel_rfl) (fun K hK => ?_)
      refine step_append_lies _ rfl _ _ 30 rfl w1.heap.size 3 ii (.int .i64 0) 1 8 Try.underlying30 hi hz0 hz1 hz2 rfl (by decide) _ l.length (l.map (Value.int .i64)) rfl hown2 ⟨wr.drew.heap.size, 0, none⟩ 1 1 [.int .i64 av] rfl rfl (World.news_of_block BK) (by simp [Value.oneCell']) (by decide) (by unfold maxLen; omega) (by omega) D2.size _ rfl (fun g cap wb hob hgb hgg hgl => ?_)
      have D3 := D2.grown hgb D2.size (fun q e => hlow q e)
      have HO3 : Hid (wb.ownsRow w1.heap.size 3 1 (.slice (some ⟨g, 0, none⟩) (l.length + 1) cap) (l ++ [av]).length ((l ++ [av]).map (Value.int .i64))) := Lib.hid (by simpa using hob)
      have hh3 := hsv _ D3
      refine hK.out _ _ (fun _ => hh3) (fun hHeld => ?_)
      clear hK K
      try simp only [Act.put, List.setIfInBounds_toArray, List.set_cons_zero, List.set_cons_succ]
      refine Till.take 12 (some 9) (v := ?_) rfl rfl (by kernel_rfl) (by kernel_rfl) (by kernel_rfl) (by kernel_rfl) (fun _ _ _ h => h) (Or.inl ⟨by rfl, ?_⟩) (by assumption) ?_
      rotate_left
      · (intro w hSw; (try dsimp only at hSw); go_simp; try with_reducible rfl)
      try simp only [Act.put, List.setIfInBounds_toArray, List.set_cons_zero, List.set_cons_succ]
      refine Till.done (by kernel_rfl) ?_ _
      have H3 := Lib.hid D3
      clear hh3 hHeld hob hgb hgg hgl hown2 hown0 D3 D2 D0 hsv BK
      go_wp2
      go_roundw
      case rel => exact ⟨j + 1, l ++ [av], by omega, by go_num, HXX, by simpa using HO3.out, H3.out⟩
      case measure => simp [intOf]; omega
    · obtain ⟨dn, rfl⟩ := Int.eq_ofNat_of_zero_le (show 0 ≤ day by omega)
      have hdn : dn < s.days.toNat := by have := HDD.out; omega
      have hpl : planC s T (dn : Int) (mn : Int) = ent T mn dn := planC_ent s T dn mn
      rw [hpl] at hst
      have HXX := Lib.hid hst
      obtain ⟨b8, o8, b9, o9, c9, he8, p0, q1, -⟩ := rows_ent HT.out HSD.out hml hdn
      subst he8
      have hlD : ((s.days.toNat : Nat) : Int) = s.days := by omega
      have j5 : (dn : Int) < ((s.days.toNat : Nat) : Int) := by omega
      have j6 : (0 : Int) ≤ (dn : Int) := Int.natCast_nonneg _
      replace p0 := ext_of_below hE _ _ p0
      replace q1 := ext_of_below hE _ _ q1
      replace r1 := ext_of_below hb _ _ r1
      clear hst hpl hx hmb hlD
      generalize s.days.toNat = DN at *
      generalize ent T mn dn = av at *
      have hown2 := hown.alloc (.cells #[.int .i64 av] 3)
      have hb2 := hb.alloc hb.size (.cells #[.int .i64 av] 3)
      have HB2 := Lib.hid hb2
      clear hown hb hE hb2
      go_wp2_with (at_builtin; refine wpList_append_lies _ rfl _ _ 30 rfl w1.heap.size 3 ii (.int .i64 0) 1 8 Try.underlying30 hi hz0 hz1 hz2 rfl (by decide) _ l.length _ rfl hown2 ⟨wr.heap.size, 0, none⟩ 1 1 [.int .i64 av] rfl rfl (by have := cell_one_new wr (.int .i64 av) 3; simpa using this) (by simp [Value.oneCell']) (by omega) (by unfold maxLen; omega) (by omega) (by simp; omega) _ rfl ?_; intro g6 k6 w6 hown6 hgrow6 hat6 hlt6)
      have hb7 := HB2.out.grown hgrow6 (by simp; omega) (fun q hq => hlow q hq)
      have hownF : w6.ownsRow w1.heap.size 3 1 (.slice (some ⟨g6, 0, none⟩) (l.length + 1) k6) (l ++ [av]).length ((l ++ [av]).map (Value.int .i64)) := by simpa using hown6
      clear hown6 hown2 hgrow6 hat6 HB2
      go_roundw
      case rel => exact ⟨j + 1, l ++ [av], by omega, by go_num, HXX, by simpa using hownF, hb7⟩
      case measure => simp [intOf]; omega
end Go.Proofs.Ytdffhkbncencgaa

namespace Go.Proofs.Ytdffhkbncencgaa
open Go.RowKit Go.PlainAid
set_option linter.unusedVariables false
set_option linter.unusedSimpArgs false

theorem artsI_of {s : Sn} {a : Int} (h1 : -1 ≤ a) (h2 : a < s.arts.length) : a ∈ artsI s := by
  unfold artsI
  rw [List.mem_map]
  exact ⟨(a + 1).toNat, List.mem_range.2 (by omega), by omega⟩
theorem gat_mem {s : Sn} {k : Nat} : ∀ (r : Nat) (have' l : List Int), l ∈ gatL s k r have' ↔ ∃ t, l = have' ++ t ∧ t.length = r ∧ (∀ a ∈ t, a ∈ artsI s) ∧ mayL s k l = true
  | 0, h, l => by
    rw [gatL_zero]
    constructor
    · intro hl
      split at hl
      · rename_i hm
        rw [List.mem_singleton] at hl
        subst hl
        exact ⟨[], by simp, rfl, by simp, hm⟩
      · cases hl
    · rintro ⟨t, rfl, ht, -, hm⟩
      obtain rfl := List.eq_nil_of_length_eq_zero ht
      rw [List.append_nil] at hm ⊢
      rw [if_pos hm]
      exact List.mem_singleton.2 rfl
  | r + 1, h, l => by
    rw [gatL_succ, List.mem_flatMap]
    constructor
    · rintro ⟨a, ha, hl⟩
      obtain ⟨t, rfl, ht, hta, hm⟩ := (gat_mem r (h ++ [a]) l).1 hl
      exact ⟨a :: t, by simp, by simp [ht], fun x hx => by
        rcases List.mem_cons.1 hx with rfl | hx
        · exact ha
        · exact hta x hx, hm⟩
    · rintro ⟨t, rfl, ht, hta, hm⟩
      cases t with
      | nil => cases ht
      | cons a t =>
        refine ⟨a, hta a (List.mem_cons_self ..), (gat_mem r (h ++ [a]) _).2 ⟨t, by simp, by simpa using ht, fun x hx => hta x (List.mem_cons_of_mem _ hx), hm⟩⟩
theorem may_now {s : Sn} (ok : OkS s) {T : List (List Int)} (pk : PlOk s T) (k day : Nat) (hd : (day : Int) < s.days) : mayL s k ((mksAt s k).map (planC s T (day : Int))) = inB s T k day := by
  have hb := nowD_bd ok pk k (show -1 ≤ (day : Int) by omega) hd
  rw [Bool.eq_iff_iff]
  unfold inB
  rw [List.any_eq_true, ← gat_all ok]
  constructor
  · intro h
    refine ⟨_, (gat_mem _ _ _).2 ⟨(mksAt s k).map (planC s T (day : Int)), by simp, by simp, fun a ha => artsI_of (hb a ha).1 (hb a ha).2, h⟩, ?_⟩
    exact decide_eq_true rfl
  · rintro ⟨r, hr, he⟩
    have he := of_decide_eq_true he
    obtain ⟨-, -, -, -, hm⟩ := (gat_mem _ _ _).1 hr
    rw [he] at hm
    exact hm
theorem keeps_bad {s : Sn} (hn : s.mks.length ≤ 6) {T : List (List Int)} {k day : Nat} (hk : k < s.ovens.length) (hd : day < s.days.toNat) (h : inB s T k day = false) : keepsB s T = false := by
  rw [Bool.eq_false_iff]
  intro e
  have := (keepsB_iff hn T).1 e k day hk hd
  rw [h] at this; cases this

set_option maxHeartbeats 8000000 in
set_option maxRecDepth 100000 in
theorem rkeeps_any (s : Sn) (d : SA) (T : List (List Int)) (vt : Value) (w : World) (h : SnD w s d) (hT : RRows w vt T) (ok : OkS s) (pk : PlOk s T) :
    Calls Try.prog 39 #[.agg #[.int .i64 s.days, .slice d.a1 s.arts.length d.c1, .slice d.a2 s.ovens.length d.c2, .slice d.a3 s.mks.length d.c3, .slice d.a4 s.jobs.length d.c4, .slice d.a5 s.cols.length d.c5, .slice d.a6 s.ods.length d.c6], vt] w fun e w' => e = .returned (.bool (keepsB s T)) ∧ Below w.heap.size w w' := by
  have hA := below_box w (.cells #[.int .i64 s.days, .slice d.a1 s.arts.length d.c1, .slice d.a2 s.ovens.length d.c2, .slice d.a3 s.mks.length d.c3, .slice d.a4 s.jobs.length d.c4, .slice d.a5 s.cols.length d.c5, .slice d.a6 s.ods.length d.c6] 28)
  have hB := Blk.new w #[.int .i64 s.days, .slice d.a1 s.arts.length d.c1, .slice d.a2 s.ovens.length d.c2, .slice d.a3 s.mks.length d.c3, .slice d.a4 s.jobs.length d.c4, .slice d.a5 s.cols.length d.c5, .slice d.a6 s.ods.length d.c6] 28
  have HS := Lib.hid (fun V (hV : Below w.heap.size w V) => h.mono (ext_of_below hV))
  have HT := Lib.hid (fun V (hV : Below w.heap.size w V) => hT.mono (ext_of_below hV))
  have HOK := Lib.hid ok
  have HPK := Lib.hid pk
  have hno := ok.no
  obtain ⟨D, hD⟩ : ∃ D, s.days.toNat = D := ⟨_, rfl⟩
  have hDd : s.days = (D : Int) := by have := ok.days; omega
  have hDb : D ≤ 14 := by have := ok.days; omega
  have HFU := allS_full ok.nm T
  rw [hD] at HFU
  have HBAD := Lib.hid (fun k day (hk : k < s.ovens.length) (hd : day < D) => keeps_bad ok.nm (T := T) hk (by rw [hD]; exact hd))
  replace HFU := Lib.hid HFU
  have HDd := Lib.hid hDd
  clear h hT ok pk hD hDd
  go_enter Try.func39, Try.ntmps39
  go_upto_region 2 with (fail)
  generalize w.alloc (.cells #[.int .i64 s.days, .slice d.a1 s.arts.length d.c1, .slice d.a2 s.ovens.length d.c2, .slice d.a3 s.mks.length d.c3, .slice d.a4 s.jobs.length d.c4, .slice d.a5 s.cols.length d.c5, .slice d.a6 s.ods.length d.c6] 28) = W at *
  go_loopw [5] (fun i wr => ∃ o : Nat, o ≤ s.ovens.length ∧ i = .int .i64 o ∧ Hid (allS s T D o 0 = true) ∧ Below W.heap.size W wr) (fun i _ => s.ovens.length - (intOf i).toNat)
  case atStart => exact ⟨0, Nat.zero_le _, rfl, Lib.hid (allS_zero s T D), Below.refl _ _⟩
  case round =>
    obtain ⟨o, ho, rfl, hx, hb⟩ := hrel
    have hE := hA.trans (hb.mono hA.size)
    have hBo := hB.below hb hB.lt
    by_cases hlt : o < s.ovens.length
    case neg =>
      obtain rfl : o = s.ovens.length := by omega
      have aN : ¬ (s.ovens.length : Int) < (s.ovens.length : Int) := by omega
      have HP : Hid (keepsB s T = true) := Lib.hid (by rw [← HFU.out]; exact hx.out)
      have x2 := hBo.cell 2 _ rfl
      clear hx
      go_wp2
      go_ret
      exact ⟨by rw [HP.out]; rfl, hE⟩
    case pos =>
    have j1 : (0 : Int) ≤ (o : Int) := Int.natCast_nonneg _
    have j2 : (o : Int) < (s.ovens.length : Int) := by omega
    have x2 := hBo.cell 2 _ rfl
    have HX := hx
    clear hx
    go_upto_region 5 with (fail)
    clear x2
    have HB1 := Lib.hid hb
    have HE1 := Lib.hid hE
    have HBo := Lib.hid hBo
    clear hb hE hBo
    go_loopw [6] (fun i wr' => ∃ m : Nat, m ≤ D ∧ i = .int .i64 m ∧ Hid (allS s T D o m = true) ∧ Below wr.heap.size wr wr') (fun i _ => D - (intOf i).toNat)
    case atStart => exact ⟨0, Nat.zero_le _, rfl, HX, Below.refl _ _⟩
    case round =>
      obtain ⟨m, hm, rfl, hx, hb⟩ := hrel
      have hE := HE1.out.trans (hb.mono HE1.out.size)
      have hBr := HBo.out.below hb HBo.out.lt
      have x0 := hBr.cell 0 _ rfl
      rw [HDd.out] at x0
      by_cases hlm : m < D
      case neg =>
        obtain rfl : m = D := by omega
        have aN : ¬ (m : Int) < (m : Int) := by omega
        have HX2 : Hid (allS s T m (o + 1) 0 = true) := Lib.hid (by rw [allS_oven]; exact hx.out)
        clear hx hBr
        go_wp2
        go_roundw
        case rel => exact ⟨o + 1, by omega, by go_num, HX2, HB1.out.trans (hb.mono HB1.out.size)⟩
        case measure => simp [intOf]; omega
      case pos =>
      have j3 : (0 : Int) ≤ (m : Int) := Int.natCast_nonneg _
      have j4 : (m : Int) < (D : Int) := by omega
      have hmd : (m : Int) < s.days := by rw [HDd.out]; exact j4
      have hmay := may_now HOK.out HPK.out o m hmd
      have hsh := nowD_bd HOK.out HPK.out o (show -1 ≤ (m : Int) by omega) hmd
      have HGO : Hid (inB s T o m = true → allS s T D o (m + 1) = true) := Lib.hid (fun h1 => by rw [allS_day, hx.out, h1]; rfl)
      have HNO := Lib.hid (HBAD.out o m hlt hlm)
      have hlen : ((mksAt s o).map (planC s T (m : Int))).length = (mksAt s o).length := by simp
      have hcs := fun V (hV : Below w.heap.size w V) => rshift_any s d T vt o (m : Int) V (HS.out _ hV) (HT.out _ hV) HOK.out HPK.out (by omega) hmd
      generalize (mksAt s o).map (planC s T (m : Int)) = l at *
      have HM := Lib.hid hmay
      have HSH := Lib.hid hsh
      have HLN := Lib.hid hlen
      have HCS := Lib.hid hcs
      clear hx hmay hsh hmd hlen hcs
      go_upto_region 7 with (fail)
      clear x0
      have D0 : Below wr.heap.size wr wr.drew := (Below.refl _ _).drew
      have HSV : Hid (∀ V, Below wr.heap.size wr V → (fun w' : World => w'.rangeAt w.heap.size 0 (#[.int .i64 s.days, .slice d.a1 s.arts.length d.c1, .slice d.a2 s.ovens.length d.c2, .slice d.a3 s.mks.length d.c3, .slice d.a4 s.jobs.length d.c4, .slice d.a5 s.cols.length d.c5, .slice d.a6 s.ods.length d.c6]).toList) V) := Lib.hid (fun V hV => (hBr.below hV hBr.lt).range)
      refine wp_region_till (fun w' : World => w'.rangeAt w.heap.size 0 (#[.int .i64 s.days, .slice d.a1 s.arts.length d.c1, .slice d.a2 s.ovens.length d.c2, .slice d.a3 s.mks.length d.c3, .slice d.a4 s.jobs.length d.c4, .slice d.a5 s.cols.length d.c5, .slice d.a6 s.ods.length d.c6]).toList) 9 (by kernel_rfl) (HSV.out _ D0) (fun hHeld => ?_)
      have HD0 := Lib.hid D0
      have HEE := Lib.hid hE
      have HBB := Lib.hid hb
      clear D0 hBr hE hb hB hA
      generalize wr.drew = wd at *
      refine Till.take 0 (some 20) (v := .agg #[.int .i64 s.days, .slice d.a1 s.arts.length d.c1, .slice d.a2 s.ovens.length d.c2, .slice d.a3 s.mks.length d.c3, .slice d.a4 s.jobs.length d.c4, .slice d.a5 s.cols.length d.c5, .slice d.a6 s.ods.length d.c6]) rfl rfl (by kernel_rfl) (by kernel_rfl) (by kernel_rfl) (by kernel_rfl) (fun _ _ _ h => h) (yieldsIf_load_mid rfl 28 (Operand.tmp 2) rfl (w.heap.size) 0 rfl (#[.int .i64 s.days, .slice d.a1 s.arts.length d.c1, .slice d.a2 s.ovens.length d.c2, .slice d.a3 s.mks.length d.c3, .slice d.a4 s.jobs.length d.c4, .slice d.a5 s.cols.length d.c5, .slice d.a6 s.ods.length d.c6]).toList _ (fun _ h => h) Try.underlying28 rfl (by rw [sz_season]; rfl)) (by assumption) ?_
      try simp only [Act.put, List.setIfInBounds_toArray, List.set_cons_zero, List.set_cons_succ]
      refine Till.take 1 (some 21) (v := ?_) rfl rfl (by kernel_rfl) (by kernel_rfl) (by kernel_rfl) (by kernel_rfl) (fun _ _ _ h => h) (Or.inl ⟨by rfl, ?_⟩) (by assumption) ?_
      rotate_left
      · (intro w hSw; (try dsimp only at hSw); go_simp; try with_reducible rfl)
      try simp only [Act.put, List.setIfInBounds_toArray, List.set_cons_zero, List.set_cons_succ]
      refine Till.take 2 (some 22) (v := .agg #[.int .i64 s.days, .slice d.a1 s.arts.length d.c1, .slice d.a2 s.ovens.length d.c2, .slice d.a3 s.mks.length d.c3, .slice d.a4 s.jobs.length d.c4, .slice d.a5 s.cols.length d.c5, .slice d.a6 s.ods.length d.c6]) rfl rfl (by kernel_rfl) (by kernel_rfl) (by kernel_rfl) (by kernel_rfl) (fun _ _ _ h => h) (yieldsIf_load_mid rfl 28 (Operand.tmp 2) rfl (w.heap.size) 0 rfl (#[.int .i64 s.days, .slice d.a1 s.arts.length d.c1, .slice d.a2 s.ovens.length d.c2, .slice d.a3 s.mks.length d.c3, .slice d.a4 s.jobs.length d.c4, .slice d.a5 s.cols.length d.c5, .slice d.a6 s.ods.length d.c6]).toList _ (fun _ h => h) Try.underlying28 rfl (by rw [sz_season]; rfl)) (by assumption) ?_
      try simp only [Act.put, List.setIfInBounds_toArray, List.set_cons_zero, List.set_cons_succ]
      refine Till.take 3 (some 23) (v := ?_) rfl rfl (by kernel_rfl) (by kernel_rfl) (by kernel_rfl) (by kernel_rfl) (fun _ _ _ h => h) (Or.inl ⟨by rfl, ?_⟩) (by assumption) ?_
      rotate_left
      · (intro w hSw; (try dsimp only at hSw); go_simp; try with_reducible rfl)
      try simp only [Act.put, List.setIfInBounds_toArray, List.set_cons_zero, List.set_cons_succ]
      refine Till.take 4 (some 24) (v := ?_) rfl rfl (by kernel_rfl) (by kernel_rfl) (by kernel_rfl) (by kernel_rfl) (fun _ _ _ h => h) (Or.inl ⟨by rfl, ?_⟩) (by assumption) ?_
      rotate_left
      · (intro w hSw; (try dsimp only at hSw); go_simp; try with_reducible rfl)
      try simp only [Act.put, List.setIfInBounds_toArray, List.set_cons_zero, List.set_cons_succ]
      refine Till.take 5 (some 25) (v := ?_) rfl rfl (by kernel_rfl) (by kernel_rfl) (by kernel_rfl) (by kernel_rfl) (fun _ _ _ h => h) (Or.inl ⟨by rfl, ?_⟩) (by assumption) ?_
      rotate_left
      · (intro w hSw; (try dsimp only at hSw); go_simp; try with_reducible rfl)
      try simp only [Act.put, List.setIfInBounds_toArray, List.set_cons_zero, List.set_cons_succ]
      refine Till.one 6 rfl (by kernel_rfl) (fun K hK => ?_)
      go_simp
      go_at_call 48
      have hEd := HEE.out.trans (HD0.out.mono HEE.out.size)
      refine (HCS.out _ hEd).mono ?_
      rintro e w5 ⟨⟨v, rfl, hv⟩, hb5⟩
      have hD5 := HD0.out.trans (hb5.mono HD0.out.size)
      have hh5 := HSV.out _ hD5
      replace hv := hv.mono vis_out
      obtain ⟨al, cl, rfl⟩ := hv.shape
      have HV := Lib.hid hv
      refine hK.out _ _ (fun _ => hh5) (fun hHeld5 => ?_)
      clear hK K hb5 hv
      try simp only [Act.put, List.setIfInBounds_toArray, List.set_cons_zero, List.set_cons_succ]
      refine Till.one 7 rfl (by kernel_rfl) (fun K hK => ?_)
      go_simp
      go_at_call 63
      have hE5 := HEE.out.trans (hD5.mono HEE.out.size)
      refine (rmay_any s d o l al cl w5 (HS.out _ hE5) HOK.out hlt HV.out HSH.out HLN.out).mono ?_
      rintro e w6 ⟨rfl, hb6⟩
      have hD6 := hD5.trans (hb6.mono hD5.size)
      have hh6 := HSV.out _ hD6
      refine hK.out _ _ (fun _ => hh6) (fun hHeld6 => ?_)
      clear hK K hb6
      try simp only [Act.put, List.setIfInBounds_toArray, List.set_cons_zero, List.set_cons_succ]
      have HE6 := Lib.hid (HEE.out.trans (hD6.mono HEE.out.size))
      have HB6 := Lib.hid (HBB.out.trans (hD6.mono HBB.out.size))
      rw [HM.out]
      clear hHeld hHeld5 HSV HD0 hEd hD5 hD6 HBB hE5 hh5
      generalize hin : inB s T o m = b at *
      have HIN := Lib.hid hin
      clear hin
      cases b with
      | true =>
        have HX2 := Lib.hid (HGO.out rfl)
        clear HGO HNO
        refine Till.take 8 (some 28) (v := ?_) rfl rfl (by kernel_rfl) (by kernel_rfl) (by kernel_rfl) (by kernel_rfl) (fun _ _ _ h => h) (Or.inl ⟨by rfl, ?_⟩) (by assumption) ?_
        rotate_left
        · (intro w hSw; (try dsimp only at hSw); go_simp; try with_reducible rfl)
        try simp only [Act.put, List.setIfInBounds_toArray, List.set_cons_zero, List.set_cons_succ]
        refine Till.done (by kernel_rfl) ?_ _
        clear hh6 hHeld6
        go_wp2
        go_roundw
        case rel => exact ⟨m + 1, by omega, by go_num, HX2, HB6.out⟩
        case measure => simp [intOf]; omega
      | false =>
        have HX2 := Lib.hid (HNO.out rfl)
        clear HGO HNO
        refine Till.take 8 (some 28) (v := ?_) rfl rfl (by kernel_rfl) (by kernel_rfl) (by kernel_rfl) (by kernel_rfl) (fun _ _ _ h => h) (Or.inl ⟨by rfl, ?_⟩) (by assumption) ?_
        rotate_left
        · (intro w hSw; (try dsimp only at hSw); go_simp; try with_reducible rfl)
        try simp only [Act.put, List.setIfInBounds_toArray, List.set_cons_zero, List.set_cons_succ]
        refine Till.done (by kernel_rfl) ?_ _
        clear hh6 hHeld6
        go_wp2
        go_ret
        exact ⟨by rw [HX2.out]; rfl, HE6.out⟩

set_option maxHeartbeats 8000000 in
set_option maxRecDepth 100000 in
theorem rKeeps_any (s : Sn) (d : SA) (T : List (List Int)) (vt : Value) (w : World) (h : SnD w s d) (hT : RRows w vt T) :
    Calls Try.prog 15 #[.agg #[.int .i64 s.days, .slice d.a1 s.arts.length d.c1, .slice d.a2 s.ovens.length d.c2, .slice d.a3 s.mks.length d.c3, .slice d.a4 s.jobs.length d.c4, .slice d.a5 s.cols.length d.c5, .slice d.a6 s.ods.length d.c6], vt] w fun e w' => e = .returned (.tuple #[.bool (kpA s T), .int .i64 (plE s T)]) ∧ Below w.heap.size w w' := by
  have hA := below_box w (.cells #[.int .i64 s.days, .slice d.a1 s.arts.length d.c1, .slice d.a2 s.ovens.length d.c2, .slice d.a3 s.mks.length d.c3, .slice d.a4 s.jobs.length d.c4, .slice d.a5 s.cols.length d.c5, .slice d.a6 s.ods.length d.c6] 28)
  have hB := Blk.new w #[.int .i64 s.days, .slice d.a1 s.arts.length d.c1, .slice d.a2 s.ovens.length d.c2, .slice d.a3 s.mks.length d.c3, .slice d.a4 s.jobs.length d.c4, .slice d.a5 s.cols.length d.c5, .slice d.a6 s.ods.length d.c6] 28
  have HS := Lib.hid (fun V (hV : Below w.heap.size w V) => h.mono (ext_of_below hV))
  have HT := Lib.hid (fun V (hV : Below w.heap.size w V) => hT.mono (ext_of_below hV))
  clear h hT
  go_enter Try.func15, Try.ntmps15
  go_upto_region 1 with (fail)
  generalize w.alloc (.cells #[.int .i64 s.days, .slice d.a1 s.arts.length d.c1, .slice d.a2 s.ovens.length d.c2, .slice d.a3 s.mks.length d.c3, .slice d.a4 s.jobs.length d.c4, .slice d.a5 s.cols.length d.c5, .slice d.a6 s.ods.length d.c6] 28) = W at *
  have x0 := hB.cell 0 _ rfl
  have x1 := hB.cell 1 _ rfl
  have x2 := hB.cell 2 _ rfl
  have x3 := hB.cell 3 _ rfl
  have x4 := hB.cell 4 _ rfl
  have x5 := hB.cell 5 _ rfl
  have x6 := hB.cell 6 _ rfl
  go_wp2_with fail
  refine (rplanned_any s d T vt W (HS.out _ hA) (HT.out _ hA)).mono ?_
  rintro e w1 ⟨rfl, hb⟩
  clear x0 x1 x2 x3 x4 x5 x6
  replace hB := hB.below hb hB.lt
  replace hA := hA.trans (hb.mono hA.size)
  clear hb
  by_cases hE : plE s T = 0
  case neg =>
    obtain ⟨r, hr⟩ : ∃ r, plE s T = r := ⟨_, rfl⟩
    have hq : (r != 0) = true := by rw [← hr]; simpa using hE
    have HE := Lib.hid hr
    have HK : Hid (kpA s T = false) := Lib.hid (by unfold kpA; simp [hE])
    rw [hr]
    clear hE hr
    go_wp2
    go_ret2
    exact ⟨by rw [HE.out, HK.out]; rfl, hA⟩
  case pos =>
  obtain ⟨hwk, ok, pk⟩ := plE_ok hE
  have HE := Lib.hid hE
  have HK : Hid (kpA s T = keepsB s T) := Lib.hid (by unfold kpA; simp [hE])
  rw [hE]
  clear hE hwk
  have x0 := hB.cell 0 _ rfl
  have x1 := hB.cell 1 _ rfl
  have x2 := hB.cell 2 _ rfl
  have x3 := hB.cell 3 _ rfl
  have x4 := hB.cell 4 _ rfl
  have x5 := hB.cell 5 _ rfl
  have x6 := hB.cell 6 _ rfl
  go_wp2_with fail
  refine (rkeeps_any s d T vt w1 (HS.out _ hA) (HT.out _ hA) ok pk).mono ?_
  rintro e w2 ⟨rfl, hb⟩
  clear x0 x1 x2 x3 x4 x5 x6
  replace hA := hA.trans (hb.mono hA.size)
  clear hb hB ok pk
  go_wp2
  go_ret2
  exact ⟨by rw [HE.out, HK.out]; rfl, hA⟩
end Go.Proofs.Ytdffhkbncencgaa
