/- The specification's keeps and Keeps; no statement is proved here. -/
import Derived.Test.YtdffhkbncencgaaPlRP
import Derived.Test.YtdffhkbncencgaaPlCost
namespace Go.Proofs.Ytdffhkbncencgaa
open Go.RowKit Go.PlainAid
set_option linter.unusedVariables false
set_option linter.unusedSimpArgs false

theorem artsI_of {s : Sn} {a : Int} (h1 : -1 ≤ a) (h2 : a < s.arts.length) : a ∈ artsI s := by
  unfold artsI
  rw [List.mem_map]
  exact ⟨(a + 1).toNat, List.mem_range.2 (by omega), by omega⟩
theorem gat_mem {s : Sn} {k : Nat} : ∀ (r : Nat) (have' l : List Int), l ∈ gatL s k r have' ↔ ∃ t, l = have' ++ t ∧ t.length = r ∧ (∀ a ∈ t, a ∈ artsI s) ∧ mayL s k l = true
  | 0, h, l => by
    rw [gatL_zero]
    constructor
    · intro hl
      split at hl
      · rename_i hm
        rw [List.mem_singleton] at hl
        subst hl
        exact ⟨[], by simp, rfl, by simp, hm⟩
      · cases hl
    · rintro ⟨t, rfl, ht, -, hm⟩
      obtain rfl := List.eq_nil_of_length_eq_zero ht
      rw [List.append_nil] at hm ⊢
      rw [if_pos hm]
      exact List.mem_singleton.2 rfl
  | r + 1, h, l => by
    rw [gatL_succ, List.mem_flatMap]
    constructor
    · rintro ⟨a, ha, hl⟩
      obtain ⟨t, rfl, ht, hta, hm⟩ := (gat_mem r (h ++ [a]) l).1 hl
      exact ⟨a :: t, by simp, by simp [ht], fun x hx => by
        rcases List.mem_cons.1 hx with rfl | hx
        · exact ha
        · exact hta x hx, hm⟩
    · rintro ⟨t, rfl, ht, hta, hm⟩
      cases t with
      | nil => cases ht
      | cons a t =>
        refine ⟨a, hta a (List.mem_cons_self ..), (gat_mem r (h ++ [a]) _).2 ⟨t, by simp, by simpa using ht, fun x hx => hta x (List.mem_cons_of_mem _ hx), hm⟩⟩
theorem may_now {s : Sn} (ok : OkS s) {T : List (List Int)} (pk : PlOk s T) (k day : Nat) (hd : (day : Int) < s.days) : mayL s k ((mksAt s k).map (planC s T (day : Int))) = inB s T k day := by
  have hb := nowD_bd ok pk k (show -1 ≤ (day : Int) by omega) hd
  rw [Bool.eq_iff_iff]
  unfold inB
  rw [List.any_eq_true, ← gat_all ok]
  constructor
  · intro h
    refine ⟨_, (gat_mem _ _ _).2 ⟨(mksAt s k).map (planC s T (day : Int)), by simp, by simp, fun a ha => artsI_of (hb a ha).1 (hb a ha).2, h⟩, ?_⟩
    exact decide_eq_true rfl
  · rintro ⟨r, hr, he⟩
    have he := of_decide_eq_true he
    obtain ⟨-, -, -, -, hm⟩ := (gat_mem _ _ _).1 hr
    rw [he] at hm
    exact hm
theorem keeps_bad {s : Sn} (hn : s.mks.length ≤ 6) {T : List (List Int)} {k day : Nat} (hk : k < s.ovens.length) (hd : day < s.days.toNat) (h : inB s T k day = false) : keepsB s T = false := by
  rw [Bool.eq_false_iff]
  intro e
  have := (keepsB_iff hn T).1 e k day hk hd
  rw [h] at this; cases this

set_option maxHeartbeats 8000000 in
set_option maxRecDepth 100000 in
theorem rkeeps_any (s : Sn) (d : SA) (T : List (List Int)) (vt : Value) (w : World) (h : SnD w s d) (hT : RRows w vt T) (ok : OkS s) (pk : PlOk s T) :
    Calls Try.prog 39 #[.agg #[.int .i64 s.days, .slice d.a1 s.arts.length d.c1, .slice d.a2 s.ovens.length d.c2, .slice d.a3 s.mks.length d.c3, .slice d.a4 s.jobs.length d.c4, .slice d.a5 s.cols.length d.c5, .slice d.a6 s.ods.length d.c6], vt] w fun e w' => e = .returned (.bool (keepsB s T)) ∧ Below w.heap.size w w' := by
  have hA := below_box w (.cells #[.int .i64 s.days, .slice d.a1 s.arts.length d.c1, .slice d.a2 s.ovens.length d.c2, .slice d.a3 s.mks.length d.c3, .slice d.a4 s.jobs.length d.c4, .slice d.a5 s.cols.length d.c5, .slice d.a6 s.ods.length d.c6] 28)
  have hB := Blk.new w #[.int .i64 s.days, .slice d.a1 s.arts.length d.c1, .slice d.a2 s.ovens.length d.c2, .slice d.a3 s.mks.length d.c3, .slice d.a4 s.jobs.length d.c4, .slice d.a5 s.cols.length d.c5, .slice d.a6 s.ods.length d.c6] 28
  have HS := Lib.hid (fun V (hV : Below w.heap.size w V) => h.mono (ext_of_below hV))
  have HT := Lib.hid (fun V (hV : Below w.heap.size w V) => hT.mono (ext_of_below hV))
  have HOK := Lib.hid ok
  have HPK := Lib.hid pk
  have hno := ok.no
  obtain ⟨D, hD⟩ : ∃ D, s.days.toNat = D := ⟨_, rfl⟩
  have hDd : s.days = (D : Int) := by have := ok.days; omega
  have hDb : D ≤ 14 := by have := ok.days; omega
  have HFU := allS_full ok.nm T
  rw [hD] at HFU
  have HBAD := Lib.hid (fun k day (hk : k < s.ovens.length) (hd : day < D) => keeps_bad ok.nm (T := T) hk (by rw [hD]; exact hd))
  replace HFU := Lib.hid HFU
  have HDd := Lib.hid hDd
  clear h hT ok pk hD hDd
  go_enter Try.func39, Try.ntmps39
  go_upto_region 2 with (fail)
  generalize w.alloc (.cells #[.int .i64 s.days, .slice d.a1 s.arts.length d.c1, .slice d.a2 s.ovens.length d.c2, .slice d.a3 s.mks.length d.c3, .slice d.a4 s.jobs.length d.c4, .slice d.a5 s.cols.length d.c5, .slice d.a6 s.ods.length d.c6] 28) = W at *
  go_loopw [5] (fun i wr => ∃ o : Nat, o ≤ s.ovens.length ∧ i = .int .i64 o ∧ Hid (allS s T D o 0 = true) ∧ Below W.heap.size W wr) (fun i _ => s.ovens.length - (intOf i).toNat)
  case atStart => exact ⟨0, Nat.zero_le _, rfl, Lib.hid (allS_zero s T D), Below.refl _ _⟩
  case round =>
    obtain ⟨o, ho, rfl, hx, hb⟩ := hrel
    have hE := hA.trans (hb.mono hA.size)
    have hBo := hB.below hb hB.lt
    by_cases hlt : o < s.ovens.length
    case neg =>
      obtain rfl : o = s.ovens.length := by omega
      have aN : ¬ (s.ovens.length : Int) < (s.ovens.length : Int) := by omega
      have HP : Hid (keepsB s T = true) := Lib.hid (by rw [← HFU.out]; exact hx.out)
      have x2 := hBo.cell 2 _ rfl
      clear hx
      go_wp2
      go_ret
      exact ⟨by rw [HP.out]; rfl, hE⟩
    case pos =>
    have j1 : (0 : Int) ≤ (o : Int) := Int.natCast_nonneg _
    have j2 : (o : Int) < (s.ovens.length : Int) := by omega
    have x2 := hBo.cell 2 _ rfl
    have HX := hx
    clear hx
    go_upto_region 5 with (fail)
    clear x2
    have HB1 := Lib.hid hb
    have HE1 := Lib.hid hE
    have HBo := Lib.hid hBo
    clear hb hE hBo
    go_loopw [6] (fun i wr' => ∃ m : Nat, m ≤ D ∧ i = .int .i64 m ∧ Hid (allS s T D o m = true) ∧ Below wr.heap.size wr wr') (fun i _ => D - (intOf i).toNat)
    case atStart => exact ⟨0, Nat.zero_le _, rfl, HX, Below.refl _ _⟩
    case round =>
      obtain ⟨m, hm, rfl, hx, hb⟩ := hrel
      have hE := HE1.out.trans (hb.mono HE1.out.size)
      have hBr := HBo.out.below hb HBo.out.lt
      have x0 := hBr.cell 0 _ rfl
      rw [HDd.out] at x0
      by_cases hlm : m < D
      case neg =>
        obtain rfl : m = D := by omega
        have aN : ¬ (m : Int) < (m : Int) := by omega
        have HX2 : Hid (allS s T m (o + 1) 0 = true) := Lib.hid (by rw [allS_oven]; exact hx.out)
        clear hx hBr
        go_wp2
        go_roundw
        case rel => exact ⟨o + 1, by omega, by go_num, HX2, HB1.out.trans (hb.mono HB1.out.size)⟩
        case measure => simp [intOf]; omega
      case pos =>
      have j3 : (0 : Int) ≤ (m : Int) := Int.natCast_nonneg _
      have j4 : (m : Int) < (D : Int) := by omega
      have hmd : (m : Int) < s.days := by rw [HDd.out]; exact j4
      have hmay := may_now HOK.out HPK.out o m hmd
      have hsh := nowD_bd HOK.out HPK.out o (show -1 ≤ (m : Int) by omega) hmd
      have HGO : Hid (inB s T o m = true → allS s T D o (m + 1) = true) := Lib.hid (fun h1 => by rw [allS_day, hx.out, h1]; rfl)
      have HNO := Lib.hid (HBAD.out o m hlt hlm)
      have hlen : ((mksAt s o).map (planC s T (m : Int))).length = (mksAt s o).length := by simp
      have hcs := fun V (hV : Below w.heap.size w V) => rshift_any s d T vt o (m : Int) V (HS.out _ hV) (HT.out _ hV) HOK.out HPK.out (by omega) hmd
      generalize (mksAt s o).map (planC s T (m : Int)) = l at *
      have HM := Lib.hid hmay
      have HSH := Lib.hid hsh
      have HLN := Lib.hid hlen
      have HCS := Lib.hid hcs
      clear hx hmay hsh hmd hlen hcs
      go_upto_region 7 with (fail)
      clear x0
      have D0 : Below wr.heap.size wr wr.drew := (Below.refl _ _).drew
      have HSV : Hid (∀ V, Below wr.heap.size wr V → (fun w' : World => w'.rangeAt w.heap.size 0 (#[.int .i64 s.days, .slice d.a1 s.arts.length d.c1, .slice d.a2 s.ovens.length d.c2, .slice d.a3 s.mks.length d.c3, .slice d.a4 s.jobs.length d.c4, .slice d.a5 s.cols.length d.c5, .slice d.a6 s.ods.length d.c6]).toList) V) := Lib.hid (fun V hV => (hBr.below hV hBr.lt).range)
      refine wp_region_till (fun w' : World => w'.rangeAt w.heap.size 0 (#[.int .i64 s.days, .slice d.a1 s.arts.length d.c1, .slice d.a2 s.ovens.length d.c2, .slice d.a3 s.mks.length d.c3, .slice d.a4 s.jobs.length d.c4, .slice d.a5 s.cols.length d.c5, .slice d.a6 s.ods.length d.c6]).toList) 9 (by kernel_rfl) (HSV.out _ D0) (fun hHeld => ?_)
      have HD0 := Lib.hid D0
      have HEE := Lib.hid hE
      have HBB := Lib.hid hb
      clear D0 hBr hE hb hB hA
      generalize wr.drew = wd at *
      refine Till.take 0 (some 20) (v := .agg #[.int .i64 s.days, .slice d.a1 s.arts.length d.c1, .slice d.a2 s.ovens.length d.c2, .slice d.a3 s.mks.length d.c3, .slice d.a4 s.jobs.length d.c4, .slice d.a5 s.cols.length d.c5, .slice d.a6 s.ods.length d.c6]) rfl rfl (by kernel_rfl) (by kernel_rfl) (by kernel_rfl) (by kernel_rfl) (fun _ _ _ h => h) (yieldsIf_load_mid rfl 28 (Operand.tmp 2) rfl (w.heap.size) 0 rfl (#[.int .i64 s.days, .slice d.a1 s.arts.length d.c1, .slice d.a2 s.ovens.length d.c2, .slice d.a3 s.mks.length d.c3, .slice d.a4 s.jobs.length d.c4, .slice d.a5 s.cols.length d.c5, .slice d.a6 s.ods.length d.c6]).toList _ (fun _ h => h) Try.underlying28 rfl (by rw [sz_season]; rfl)) (by assumption) ?_
      try simp only [Act.put, List.setIfInBounds_toArray, List.set_cons_zero, List.set_cons_succ]
      refine Till.take 1 (some 21) (v := ?_) rfl rfl (by kernel_rfl) (by kernel_rfl) (by kernel_rfl) (by kernel_rfl) (fun _ _ _ h => h) (Or.inl ⟨by rfl, ?_⟩) (by assumption) ?_
      rotate_left
      · (intro w hSw; (try dsimp only at hSw); go_simp; try with_reducible rfl)
      try simp only [Act.put, List.setIfInBounds_toArray, List.set_cons_zero, List.set_cons_succ]
      refine Till.take 2 (some 22) (v := .agg #[.int .i64 s.days, .slice d.a1 s.arts.length d.c1, .slice d.a2 s.ovens.length d.c2, .slice d.a3 s.mks.length d.c3, .slice d.a4 s.jobs.length d.c4, .slice d.a5 s.cols.length d.c5, .slice d.a6 s.ods.length d.c6]) rfl rfl (by kernel_rfl) (by kernel_rfl) (by kernel_rfl) (by kernel_rfl) (fun _ _ _ h => h) (yieldsIf_load_mid rfl 28 (Operand.tmp 2) rfl (w.heap.size) 0 rfl (#[.int .i64 s.days, .slice d.a1 s.arts.length d.c1, .slice d.a2 s.ovens.length d.c2, .slice d.a3 s.mks.length d.c3, .slice d.a4 s.jobs.length d.c4, .slice d.a5 s.cols.length d.c5, .slice d.a6 s.ods.length d.c6]).toList _ (fun _ h => h) Try.underlying28 rfl (by rw [sz_season]; rfl)) (by assumption) ?_
      try simp only [Act.put, List.setIfInBounds_toArray, List.set_cons_zero, List.set_cons_succ]
      refine Till.take 3 (some 23) (v := ?_) rfl rfl (by kernel_rfl) (by kernel_rfl) (by kernel_rfl) (by kernel_rfl) (fun _ _ _ h => h) (Or.inl ⟨by rfl, ?_⟩) (by assumption) ?_
      rotate_left
      · (intro w hSw; (try dsimp only at hSw); go_simp; try with_reducible rfl)
      try simp only [Act.put, List.setIfInBounds_toArray, List.set_cons_zero, List.set_cons_succ]
      refine Till.take 4 (some 24) (v := ?_) rfl rfl (by kernel_rfl) (by kernel_rfl) (by kernel_rfl) (by kernel_rfl) (fun _ _ _ h => h) (Or.inl ⟨by rfl, ?_⟩) (by assumption) ?_
      rotate_left
      · (intro w hSw; (try dsimp only at hSw); go_simp; try with_reducible rfl)
      try simp only [Act.put, List.setIfInBounds_toArray, List.set_cons_zero, List.set_cons_succ]
      refine Till.take 5 (some 25) (v := ?_) rfl rfl (by kernel_rfl) (by kernel_rfl) (by kernel_rfl) (by kernel_rfl) (fun _ _ _ h => h) (Or.inl ⟨by rfl, ?_⟩) (by assumption) ?_
      rotate_left
      · (intro w hSw; (try dsimp only at hSw); go_simp; try with_reducible rfl)
      try simp only [Act.put, List.setIfInBounds_toArray, List.set_cons_zero, List.set_cons_succ]
      refine Till.one 6 rfl (by kernel_rfl) (fun K hK => ?_)
      go_simp
      go_at_call 48
      have hEd := HEE.out.trans (HD0.out.mono HEE.out.size)
      refine (HCS.out _ hEd).mono ?_
      rintro e w5 ⟨⟨v, rfl, hv⟩, hb5⟩
      have hD5 := HD0.out.trans (hb5.mono HD0.out.size)
      have hh5 := HSV.out _ hD5
      replace hv := hv.mono vis_out
      obtain ⟨al, cl, rfl⟩ := hv.shape
      have HV := Lib.hid hv
      refine hK.out _ _ (fun _ => hh5) (fun hHeld5 => ?_)
      clear hK K hb5 hv
      try simp only [Act.put, List.setIfInBounds_toArray, List.set_cons_zero, List.set_cons_succ]
      refine Till.one 7 rfl (by kernel_rfl) (fun K hK => ?_)
      go_simp
      go_at_call 63
      have hE5 := HEE.out.trans (hD5.mono HEE.out.size)
      refine (rmay_any s d o l al cl w5 (HS.out _ hE5) HOK.out hlt HV.out HSH.out HLN.out).mono ?_
      rintro e w6 ⟨rfl, hb6⟩
      have hD6 := hD5.trans (hb6.mono hD5.size)
      have hh6 := HSV.out _ hD6
      refine hK.out _ _ (fun _ => hh6) (fun hHeld6 => ?_)
      clear hK K hb6
      try simp only [Act.put, List.setIfInBounds_toArray, List.set_cons_zero, List.set_cons_succ]
      have HE6 := Lib.hid (HEE.out.trans (hD6.mono HEE.out.size))
      have HB6 := Lib.hid (HBB.out.trans (hD6.mono HBB.out.size))
      rw [HM.out]
      clear hHeld hHeld5 HSV HD0 hEd hD5 hD6 HBB hE5 hh5
      generalize hin : inB s T o m = b at *
      have HIN := Lib.hid hin
      clear hin
      cases b with
      | true =>
        have HX2 := Lib.hid (HGO.out rfl)
        clear HGO HNO
        refine Till.take 8 (some 28) (v := ?_) rfl rfl (by kernel_rfl) (by kernel_rfl) (by kernel_rfl) (by kernel_rfl) (fun _ _ _ h => h) (Or.inl ⟨by rfl, ?_⟩) (by assumption) ?_
        rotate_left
        · (intro w hSw; (try dsimp only at hSw); go_simp; try with_reducible rfl)
        try simp only [Act.put, List.setIfInBounds_toArray, List.set_cons_zero, List.set_cons_succ]
        refine Till.done (by kernel_rfl) ?_ _
        clear hh6 hHeld6
        go_wp2
        go_roundw
        case rel => exact ⟨m + 1, by omega, by go_num, HX2, HB6.out⟩
        case measure => simp [intOf]; omega
      | false =>
        have HX2 := Lib.hid (HNO.out rfl)
        clear HGO HNO
        refine Till.take 8 (some 28) (v := ?_) rfl rfl (by kernel_rfl) (by kernel_rfl) (by kernel_rfl) (by kernel_rfl) (fun _ _ _ h => h) (Or.inl ⟨by rfl, ?_⟩) (by assumption) ?_
        rotate_left
        · (intro w hSw; (try dsimp only at hSw); go_simp; try with_reducible rfl)
        try simp only [Act.put, List.setIfInBounds_toArray, List.set_cons_zero, List.set_cons_succ]
        refine Till.done (by kernel_rfl) ?_ _
        clear hh6 hHeld6
        go_wp2
        go_ret
        exact ⟨by rw [HX2.out]; rfl, HE6.out⟩

set_option maxHeartbeats 8000000 in
set_option maxRecDepth 100000 in
theorem rKeeps_any (s : Sn) (d : SA) (T : List (List Int)) (vt : Value) (w : World) (h : SnD w s d) (hT : RRows w vt T) :
    Calls Try.prog 15 #[.agg #[.int .i64 s.days, .slice d.a1 s.arts.length d.c1, .slice d.a2 s.ovens.length d.c2, .slice d.a3 s.mks.length d.c3, .slice d.a4 s.jobs.length d.c4, .slice d.a5 s.cols.length d.c5, .slice d.a6 s.ods.length d.c6], vt] w fun e w' => e = .returned (.tuple #[.bool (kpA s T), .int .i64 (plE s T)]) ∧ Below w.heap.size w w' := by
  have hA := below_box w (.cells #[.int .i64 s.days, .slice d.a1 s.arts.length d.c1, .slice d.a2 s.ovens.length d.c2, .slice d.a3 s.mks.length d.c3, .slice d.a4 s.jobs.length d.c4, .slice d.a5 s.cols.length d.c5, .slice d.a6 s.ods.length d.c6] 28)
  have hB := Blk.new w #[.int .i64 s.days, .slice d.a1 s.arts.length d.c1, .slice d.a2 s.ovens.length d.c2, .slice d.a3 s.mks.length d.c3, .slice d.a4 s.jobs.length d.c4, .slice d.a5 s.cols.length d.c5, .slice d.a6 s.ods.length d.c6] 28
  have HS := Lib.hid (fun V (hV : Below w.heap.size w V) => h.mono (ext_of_below hV))
  have HT := Lib.hid (fun V (hV : Below w.heap.size w V) => hT.mono (ext_of_below hV))
  clear h hT
  go_enter Try.func15, Try.ntmps15
  go_upto_region 1 with (fail)
  generalize w.alloc (.cells #[.int .i64 s.days, .slice d.a1 s.arts.length d.c1, .slice d.a2 s.ovens.length d.c2, .slice d.a3 s.mks.length d.c3, .slice d.a4 s.jobs.length d.c4, .slice d.a5 s.cols.length d.c5, .slice d.a6 s.ods.length d.c6] 28) = W at *
  have x0 := hB.cell 0 _ rfl
  have x1 := hB.cell 1 _ rfl
  have x2 := hB.cell 2 _ rfl
  have x3 := hB.cell 3 _ rfl
  have x4 := hB.cell 4 _ rfl
  have x5 := hB.cell 5 _ rfl
  have x6 := hB.cell 6 _ rfl
  go_wp2_with fail
  refine (rplanned_any s d T vt W (HS.out _ hA) (HT.out _ hA)).mono ?_
  rintro e w1 ⟨rfl, hb⟩
  clear x0 x1 x2 x3 x4 x5 x6
  replace hB := hB.below hb hB.lt
  replace hA := hA.trans (hb.mono hA.size)
  clear hb
  by_cases hE : plE s T = 0
  case neg =>
    obtain ⟨r, hr⟩ : ∃ r, plE s T = r := ⟨_, rfl⟩
    have hq : (r != 0) = true := by rw [← hr]; simpa using hE
    have HE := Lib.hid hr
    have HK : Hid (kpA s T = false) := Lib.hid (by unfold kpA; simp [hE])
    rw [hr]
    clear hE hr
    go_wp2
    go_ret2
    exact ⟨by rw [HE.out, HK.out]; rfl, hA⟩
  case pos =>
  obtain ⟨hwk, ok, pk⟩ := plE_ok hE
  have HE := Lib.hid hE
  have HK : Hid (kpA s T = keepsB s T) := Lib.hid (by unfold kpA; simp [hE])
  rw [hE]
  clear hE hwk
  have x0 := hB.cell 0 _ rfl
  have x1 := hB.cell 1 _ rfl
  have x2 := hB.cell 2 _ rfl
  have x3 := hB.cell 3 _ rfl
  have x4 := hB.cell 4 _ rfl
  have x5 := hB.cell 5 _ rfl
  have x6 := hB.cell 6 _ rfl
  go_wp2_with fail
  refine (rkeeps_any s d T vt w1 (HS.out _ hA) (HT.out _ hA) ok pk).mono ?_
  rintro e w2 ⟨rfl, hb⟩
  clear x0 x1 x2 x3 x4 x5 x6
  replace hA := hA.trans (hb.mono hA.size)
  clear hb hB ok pk
  go_wp2
  go_ret2
  exact ⟨by rw [HE.out, HK.out]; rfl, hA⟩
end Go.Proofs.Ytdffhkbncencgaa
