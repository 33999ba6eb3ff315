/- The specification's kept and Pulls; no statement is proved here. -/
import Derived.Test.YtdffhkbncencgaaPlRK
import Derived.Sort.CutIn
namespace Go.Proofs.Ytdffhkbncencgaa
open Go.RowKit Go.PlainAid
set_option linter.unusedVariables false
set_option linter.unusedSimpArgs false

theorem shp_ext {n c : Nat} {A B : List (List Int)} (hA : Shp n c A) (hB : Shp n c B) (h : ∀ i j, i < n → j < c → ent A i j = ent B i j) : A = B := by
  refine List.ext_getElem (by rw [hA.1, hB.1]) (fun i h1 h2 => ?_)
  have hi : i < n := by rw [← hA.1]; exact h1
  have l1 := hA.2 _ (List.getElem_mem h1)
  have l2 := hB.2 _ (List.getElem_mem h2)
  refine List.ext_getElem (by rw [l1, l2]) (fun j h3 h4 => ?_)
  have := h i j hi (by rw [← l1]; exact h3)
  unfold ent at this
  rw [getD_at h1, getD_at h2, getD_at h3, getD_at h4] at this
  exact this
/-- a table by its entries. -/
def tblF (f : Nat → Nat → Int) (c n : Nat) : List (List Int) := (List.range n).map fun i => (List.range c).map (f i)
theorem tblF_step (f : Nat → Nat → Int) (c n : Nat) : tblF f c (n + 1) = tblF f c n ++ [(List.range c).map (f n)] := by unfold tblF; rw [List.range_succ, List.map_append]; rfl
theorem tblF_shp (f : Nat → Nat → Int) (c n : Nat) : Shp n c (tblF f c n) := ⟨by simp [tblF], fun r hr => by unfold tblF at hr; obtain ⟨i, -, rfl⟩ := List.mem_map.1 hr; simp⟩
theorem tblF_ent (f : Nat → Nat → Int) {c n i j : Nat} (hi : i < n) (hj : j < c) : ent (tblF f c n) i j = f i j := by
  unfold ent tblF
  simp [List.getD, List.getElem?_map, List.getElem?_range hi, List.getElem?_range hj]
theorem rowF_step (f : Nat → Int) (m : Nat) : (List.range (m + 1)).map f = (List.range m).map f ++ [f m] := by rw [List.range_succ, List.map_append]; rfl
/-- what a furnace pulls on a day. -/
def pvS (s : Sn) (T : List (List Int)) (k day : Nat) : Int := pullS s (dayC s T (day : Int) (ovAt s k)) (ovAt s k).ms
theorem pv_tbl (s : Sn) (T : List (List Int)) : tblF (pvS s T) s.days.toNat s.ovens.length = pulK s T (stL s T).length := by
  refine shp_ext (tblF_shp _ _ _) (pulS_ent s T).1 (fun i j hi hj => ?_)
  rw [tblF_ent _ hi hj, (pulS_ent s T).2 i j hi hj]; rfl
theorem dayC_now {s : Sn} (hn : s.mks.length ≤ 6) (T : List (List Int)) (k : Nat) (day : Int) : ((mksAt s k).map fun m => g (dayC s T day (ovAt s k)) m.toNat) = (mksAt s k).map (planC s T day) := by
  have hms : ∀ m ∈ mksAt s k, 0 ≤ m ∧ m < 6 := fun m hm => by have := mksAt_ok s k m hm; omega
  refine List.map_congr_left fun m hm => ?_
  have h0 := hms m hm
  have h1 : g (dayC s T day (ovAt s k)) m.toNat = _ := crewS_g (s := s) (T := T) (day := day) (mksAt s k) idleC rfl hms m.toNat (by omega)
  rw [h1, show ((m.toNat : Nat) : Int) = m by omega, if_pos hm]
theorem dayC_low {s : Sn} (ok : OkS s) {T : List (List Int)} (pk : PlOk s T) (k : Nat) {day : Int} (h1 : -1 ≤ day) (h2 : day < s.days) : ∀ j : Nat, -1 ≤ g (dayC s T day (ovAt s k)) j := fun j => by
  have hn := ok.nm
  have hms : ∀ m ∈ mksAt s k, 0 ≤ m ∧ m < 6 := fun m hm => by have := mksAt_ok s k m hm; omega
  by_cases hj : j < 6
  · have h3 : g (dayC s T day (ovAt s k)) j = _ := crewS_g (s := s) (T := T) (day := day) (mksAt s k) idleC rfl hms j hj
    rw [h3]
    split
    · rename_i hm
      exact (planC_bd ok pk h1 h2 (mksAt_ok s k _ hm)).1
    · unfold g idleC
      obtain rfl | rfl | rfl | rfl | rfl | rfl : j = 0 ∨ j = 1 ∨ j = 2 ∨ j = 3 ∨ j = 4 ∨ j = 5 := by omega
      all_goals decide
  · unfold g
    rw [List.getD, List.getElem?_eq_none (by rw [dayC_len]; omega)]
    decide
theorem pv_sum {s : Sn} (ok : OkS s) {T : List (List Int)} (pk : PlOk s T) (k : Nat) {day : Nat} (h2 : (day : Int) < s.days) : sumL s (mksAt s k) ((mksAt s k).map (planC s T (day : Int))) ((mksAt s k).map (planC s T (day : Int))).length / 10000 = pvS s T k day := by
  rw [sumL_Z s _ _ (by simp)]
  unfold pvS pullS
  have h := sumP_Z (s := s) (dayC_low ok pk k (show -1 ≤ (day : Int) by omega) h2) (mksAt s k) [] (fun m hm => by cases hm)
  rw [List.append_nil, dayC_now ok.nm] at h
  rw [← h]; rfl
theorem pvS_bd {s : Sn} (ok : OkS s) (T : List (List Int)) (k day : Nat) : 0 ≤ pvS s T k day ∧ pvS s T k day ≤ 60000000 := pullS_bd ok _ (Nat.le_trans (mksAt_len s k) ok.nm)
theorem own_below8 {X Y : World} {base : Nat} {e : TypeId} {size : Nat} {v : Value} {n : Nat} {xs : List Value} (h : X.ownsRow base e size v n xs) (hb : Below X.heap.size X Y) : Y.ownsRow base e size v n xs := own_grown2 h (below_grown8 hb none) (fun g _ e => by cases e)

set_option maxHeartbeats 8000000 in
set_option maxRecDepth 100000 in
theorem rkept_any (s : Sn) (d : SA) (T : List (List Int)) (vt : Value) (w : World) (h : SnD w s d) (hT : RRows w vt T) :
    Calls Try.prog 45 #[.agg #[.int .i64 s.days, .slice d.a1 s.arts.length d.c1, .slice d.a2 s.ovens.length d.c2, .slice d.a3 s.mks.length d.c3, .slice d.a4 s.jobs.length d.c4, .slice d.a5 s.cols.length d.c5, .slice d.a6 s.ods.length d.c6], vt] w fun e w' => e = .returned (.int .i64 (keE s T)) ∧ Below w.heap.size w w' := by
  have hA := below_box w (.cells #[.int .i64 s.days, .slice d.a1 s.arts.length d.c1, .slice d.a2 s.ovens.length d.c2, .slice d.a3 s.mks.length d.c3, .slice d.a4 s.jobs.length d.c4, .slice d.a5 s.cols.length d.c5, .slice d.a6 s.ods.length d.c6] 28)
  have hB := Blk.new w #[.int .i64 s.days, .slice d.a1 s.arts.length d.c1, .slice d.a2 s.ovens.length d.c2, .slice d.a3 s.mks.length d.c3, .slice d.a4 s.jobs.length d.c4, .slice d.a5 s.cols.length d.c5, .slice d.a6 s.ods.length d.c6] 28
  have HS := Lib.hid (fun V (hV : Below w.heap.size w V) => h.mono (ext_of_below hV))
  have HT := Lib.hid (fun V (hV : Below w.heap.size w V) => hT.mono (ext_of_below hV))
  clear h hT
  go_enter Try.func45, Try.ntmps45
  go_upto_region 1 with (fail)
  generalize w.alloc (.cells #[.int .i64 s.days, .slice d.a1 s.arts.length d.c1, .slice d.a2 s.ovens.length d.c2, .slice d.a3 s.mks.length d.c3, .slice d.a4 s.jobs.length d.c4, .slice d.a5 s.cols.length d.c5, .slice d.a6 s.ods.length d.c6] 28) = W at *
  have x0 := hB.cell 0 _ rfl
  have x1 := hB.cell 1 _ rfl
  have x2 := hB.cell 2 _ rfl
  have x3 := hB.cell 3 _ rfl
  have x4 := hB.cell 4 _ rfl
  have x5 := hB.cell 5 _ rfl
  have x6 := hB.cell 6 _ rfl
  go_wp2_with fail
  refine (rplanned_any s d T vt W (HS.out _ hA) (HT.out _ hA)).mono ?_
  rintro e w1 ⟨rfl, hb⟩
  clear x0 x1 x2 x3 x4 x5 x6
  replace hB := hB.below hb hB.lt
  replace hA := hA.trans (hb.mono hA.size)
  clear hb
  by_cases hE : plE s T = 0
  case neg =>
    obtain ⟨r, hr⟩ : ∃ r, plE s T = r := ⟨_, rfl⟩
    have hq : (r != 0) = true := by rw [← hr]; simpa using hE
    have HE : Hid (keE s T = r) := Lib.hid (by unfold keE; rw [if_neg hE]; exact hr)
    rw [hr]
    clear hE hr
    go_wp2
    go_ret
    exact ⟨ret_int HE.out.symm, hA⟩
  case pos =>
  obtain ⟨hwk, ok, pk⟩ := plE_ok hE
  have HK : Hid (keE s T = if keepsB s T = true then 0 else 8) := Lib.hid (by unfold keE; rw [if_pos hE])
  rw [hE]
  clear hE hwk
  have x0 := hB.cell 0 _ rfl
  have x1 := hB.cell 1 _ rfl
  have x2 := hB.cell 2 _ rfl
  have x3 := hB.cell 3 _ rfl
  have x4 := hB.cell 4 _ rfl
  have x5 := hB.cell 5 _ rfl
  have x6 := hB.cell 6 _ rfl
  go_wp2_with fail
  refine (rkeeps_any s d T vt w1 (HS.out _ hA) (HT.out _ hA) ok pk).mono ?_
  rintro e w2 ⟨rfl, hb⟩
  clear x0 x1 x2 x3 x4 x5 x6
  replace hA := hA.trans (hb.mono hA.size)
  clear hb hB ok pk
  generalize keepsB s T = b at *
  cases b with
  | true =>
    go_wp2
    go_ret
    exact ⟨ret_int (by rw [HK.out]; rfl), hA⟩
  | false =>
    go_wp2
    go_ret
    exact ⟨ret_int (by rw [HK.out]; rfl), hA⟩

set_option maxHeartbeats 16000000 in
set_option maxRecDepth 100000 in
theorem rPulls_any (s : Sn) (d : SA) (T : List (List Int)) (vt : Value) (w : World) (h : SnD w s d) (hT : RRows w vt T) :
    Calls Try.prog 20 #[.agg #[.int .i64 s.days, .slice d.a1 s.arts.length d.c1, .slice d.a2 s.ovens.length d.c2, .slice d.a3 s.mks.length d.c3, .slice d.a4 s.jobs.length d.c4, .slice d.a5 s.cols.length d.c5, .slice d.a6 s.ods.length d.c6], vt] w (PuA s T w) := by
  obtain ⟨ij, hi, hzz⟩ := Option.map_eq_some_iff.1 info_ints
  obtain ⟨hz0, hz1⟩ := Prod.mk.inj hzz
  obtain ⟨hz1, hz2⟩ := Prod.mk.inj hz1
  clear hzz
  obtain ⟨ii, gi, hzz⟩ := Option.map_eq_some_iff.1 info_int
  obtain ⟨gz0, gz1⟩ := Prod.mk.inj hzz
  obtain ⟨gz1, gz2⟩ := Prod.mk.inj gz1
  clear hzz
  have hA := below_box w (.cells #[.int .i64 s.days, .slice d.a1 s.arts.length d.c1, .slice d.a2 s.ovens.length d.c2, .slice d.a3 s.mks.length d.c3, .slice d.a4 s.jobs.length d.c4, .slice d.a5 s.cols.length d.c5, .slice d.a6 s.ods.length d.c6] 28)
  have hB := Blk.new w #[.int .i64 s.days, .slice d.a1 s.arts.length d.c1, .slice d.a2 s.ovens.length d.c2, .slice d.a3 s.mks.length d.c3, .slice d.a4 s.jobs.length d.c4, .slice d.a5 s.cols.length d.c5, .slice d.a6 s.ods.length d.c6] 28
  have HS := Lib.hid (fun V (hV : Below w.heap.size w V) => h.mono (ext_of_below hV))
  have HT := Lib.hid (fun V (hV : Below w.heap.size w V) => hT.mono (ext_of_below hV))
  clear h hT
  go_enter Try.func20, Try.ntmps20
  go_upto_region 1 with (fail)
  generalize w.alloc (.cells #[.int .i64 s.days, .slice d.a1 s.arts.length d.c1, .slice d.a2 s.ovens.length d.c2, .slice d.a3 s.mks.length d.c3, .slice d.a4 s.jobs.length d.c4, .slice d.a5 s.cols.length d.c5, .slice d.a6 s.ods.length d.c6] 28) = W at *
  have x0 := hB.cell 0 _ rfl
  have x1 := hB.cell 1 _ rfl
  have x2 := hB.cell 2 _ rfl
  have x3 := hB.cell 3 _ rfl
  have x4 := hB.cell 4 _ rfl
  have x5 := hB.cell 5 _ rfl
  have x6 := hB.cell 6 _ rfl
  go_wp2_with fail
  refine (rkept_any s d T vt W (HS.out _ hA) (HT.out _ hA)).mono ?_
  rintro e w1 ⟨rfl, hb⟩
  clear x0 x1 x2 x3 x4 x5 x6
  replace hB := hB.below hb hB.lt
  replace hA := hA.trans (hb.mono hA.size)
  clear hb
  by_cases hE : keE s T = 0
  case neg =>
    obtain ⟨r, hr⟩ : ∃ r, keE s T = r := ⟨_, rfl⟩
    have hq : (r != 0) = true := by rw [← hr]; simpa using hE
    have HP : Hid (pulA s T = []) := Lib.hid (by unfold pulA; rw [if_neg hE])
    have HE := Lib.hid hr
    rw [hr]
    clear hE hr
    go_wp2
    go_ret2
    exact ⟨⟨.slice none 0 0, by rw [HE.out]; rfl, by rw [HP.out]; exact nil_RRowsS _⟩, hA⟩
  case pos =>
  obtain ⟨hpl, hkb⟩ := keE_ok hE
  obtain ⟨-, ok, pk⟩ := plE_ok hpl
  have hno := ok.no
  have hnm := ok.nm
  obtain ⟨D, hD⟩ : ∃ D, s.days.toNat = D := ⟨_, rfl⟩
  have hDd : s.days = (D : Int) := by have := ok.days; omega
  have hDb : D ≤ 14 := by have := ok.days; omega
  have HP : Hid (pulA s T = tblF (pvS s T) D s.ovens.length) := Lib.hid (by unfold pulA; rw [if_pos hE, ← pv_tbl, hD])
  have HE := Lib.hid hE
  have HDd := Lib.hid hDd
  have HOK := Lib.hid ok
  have HPK := Lib.hid pk
  have HW1 : Hid (w.heap.size ≤ w1.heap.size) := Lib.hid hA.size
  rw [hE]
  clear hE hpl hkb ok pk hD hDd
  go_upto_region 6 with (fail)
  go_loopw [7, 8] (fun v i wr => ∃ (k : Nat) (vs : List Value), k ≤ s.ovens.length ∧ i = .int .i64 k ∧ Hid (OutR w1.heap.size wr v vs (tblF (pvS s T) D k)) ∧ Below w1.heap.size w1 wr) (fun _ i _ => s.ovens.length - (intOf i).toNat)
  case atStart => exact ⟨0, [], Nat.zero_le _, rfl, Lib.hid ⟨World.ownsRow_nil _ _ _ _, rfl, fun i h1 => absurd h1 (by simp)⟩, Below.refl _ _⟩
  case round =>
    obtain ⟨k, vs, hk, rfl, hout, hb⟩ := hrel
    have hE := hA.trans (hb.mono hA.size)
    have hBk := hB.below hb hB.lt
    have x2 := hBk.cell 2 _ rfl
    by_cases hlt : k < s.ovens.length
    case neg =>
      obtain rfl : k = s.ovens.length := by omega
      have aN : ¬ (s.ovens.length : Int) < (s.ovens.length : Int) := by omega
      have HR : Hid (RRows (vis (w.heap.size ≤ ·) wr) u7 (tblF (pvS s T) D s.ovens.length)) := Lib.hid (hout.out.rrows (fun q hq => Nat.le_trans HW1.out hq) (by rw [(tblF_shp _ _ _).1]; omega) (fun r hr => by
        refine ⟨by rw [(tblF_shp (pvS s T) D s.ovens.length).2 r hr]; omega, fun y hy => ?_⟩
        unfold tblF at hr
        obtain ⟨i, -, rfl⟩ := List.mem_map.1 hr
        obtain ⟨j, -, rfl⟩ := List.mem_map.1 hy
        have := pvS_bd HOK.out T i j
        unfold I64; omega))
      clear hout
      go_wp2
      go_ret2
      exact ⟨⟨_, by rw [HE.out]; rfl, by rw [HP.out]; exact HR.out⟩, hE⟩
    case pos =>
    have j1 : (0 : Int) ≤ (k : Int) := Int.natCast_nonneg _
    have j2 : (k : Int) < (s.ovens.length : Int) := by omega
    go_upto_region 10 with (fail)
    clear x2
    obtain ⟨WO, rfl⟩ : ∃ W, W = wr := ⟨_, rfl⟩
    have HOUT := hout
    have HB1 := Lib.hid hb
    have HE1 := Lib.hid hE
    have HBk := Lib.hid hBk
    clear hout hb hE hBk
    go_loopw [9, 10] (fun v i wx => ∃ (m : Nat) (r : List Int), m ≤ D ∧ i = .int .i64 m ∧ Hid (r = (List.range m).map (pvS s T k)) ∧ wx.ownsRow WO.heap.size 3 1 v r.length (r.map (Value.int .i64)) ∧ Below WO.heap.size WO wx) (fun _ i _ => D - (intOf i).toNat)
    case atStart => exact ⟨0, [], Nat.zero_le _, rfl, Lib.hid rfl, World.ownsRow_nil _ _ _ _, Below.refl _ _⟩
    case round =>
      obtain ⟨m, r, hm, rfl, hx, hown, hb⟩ := hrel
      have hE := HE1.out.trans (hb.mono HE1.out.size)
      have hBr := HBk.out.below hb HBk.out.lt
      have x0 := hBr.cell 0 _ rfl
      rw [HDd.out] at x0
      have hrl : r.length ≤ 14 := by rw [hx.out]; simp; omega
      have hsm := hb.size
      by_cases hlm : m < D
      case neg =>
        obtain rfl : m = D := by omega
        have aN : ¬ (m : Int) < (m : Int) := by omega
        have houtW := HOUT.out.below hb
        have hW1O := HB1.out.size
        have hownX := houtW.own.alloc (.cells #[u9] 30)
        have houtX := houtW.below (below_box wr (.cells #[u9] 30))
        have hownL := own_base8 (hown.alloc (.cells #[u9] 30)) hW1O
        rw [hx.out] at hownL
        have hvl : vs.length ≤ 3 := by rw [houtW.len, (tblF_shp _ _ _).1]; omega
        have hvlow : ∀ q, u7.ownBlock = some q → w1.heap.size ≤ q := fun q hq => (houtW.own.lt q hq).1
        obtain ⟨al, cl, rfl⟩ := own_form8 hown
        have HOX := Lib.hid houtX
        have HOL := Lib.hid hownL
        have HBW : Hid (Below w1.heap.size w1 wr) := Lib.hid (HB1.out.trans (hb.mono HB1.out.size))
        have hwsz := HBW.out.size
        clear hx hown hb hE hBr houtW houtX hownL
        go_upto_region 13 with (fail)
        clear x0
        go_wp2_with (at_builtin; refine wpList_append_lies _ rfl _ _ 29 rfl w1.heap.size 30 ij (.slice none 0 0) 1 24 Try.underlying29 hi hz0 hz1 hz2 rfl (by decide) _ vs.length _ rfl hownX ⟨wr.heap.size, 0, none⟩ 1 1 [.slice al r.length cl] rfl rfl (by have := cell_one_new wr (.slice al r.length cl) 30; simpa using this) (by simp [Value.oneCell']) (by omega) (by unfold maxLen; omega) (by omega) (by simp; omega) _ rfl ?_; intro g6 k6 w6 hown6 hgrow6 hat6 hlt6)
        have HO6 : Hid (OutR w1.heap.size w6 (.slice (some ⟨g6, 0, none⟩) (vs.length + 1) k6) (vs ++ [.slice al r.length cl]) (tblF (pvS s T) m (k + 1))) := Lib.hid (by rw [tblF_step]; exact HOX.out.add HOL.out hown6 hgrow6)
        have HB6 : Hid (Below w1.heap.size w1 w6) := Lib.hid ((HBW.out.alloc hwsz (.cells #[.slice al r.length cl] 30)).grown hgrow6 (by simp; omega) (fun q hq => hvlow q hq))
        clear hown6 hgrow6 hat6 hlt6 hownX
        go_roundw
        case rel => exact ⟨k + 1, _, by omega, by go_num, HO6.out |> Lib.hid, HB6.out⟩
        case measure => simp [intOf]; omega
      case pos =>
      have j3 : (0 : Int) ≤ (m : Int) := Int.natCast_nonneg _
      have j4 : (m : Int) < (D : Int) := by omega
      have hmd : (m : Int) < s.days := by rw [HDd.out]; exact j4
      have hlen : ((mksAt s k).map (planC s T (m : Int))).length = (mksAt s k).length := by simp
      have hsh := nowD_bd HOK.out HPK.out k (show -1 ≤ (m : Int) by omega) hmd
      have hcs := fun V (hV : Below w.heap.size w V) => rshift_any s d T vt k (m : Int) V (HS.out _ hV) (HT.out _ hV) HOK.out HPK.out (by omega) hmd
      have hsum := pv_sum HOK.out HPK.out k hmd
      have hms := mksAt_ok s k
      have hml := Nat.le_trans (mksAt_len s k) hnm
      have hst : r ++ [pvS s T k m] = (List.range (m + 1)).map (pvS s T k) := by rw [rowF_step, hx.out]
      have hca := fun V (hV : Below w.heap.size w V) => rAt_any s d (k : Int) V (HS.out _ hV) hnm
      generalize (mksAt s k).map (planC s T (m : Int)) = l at *
      generalize mksAt s k = ms at *
      generalize pvS s T k m = av at *
      have HSUM := Lib.hid hsum
      have HSH := Lib.hid hsh
      have HMS := Lib.hid hms
      have HLN := Lib.hid hlen
      have HCS := Lib.hid hcs
      have HCA := Lib.hid hca
      have HST := Lib.hid hst
      have HML := Lib.hid hml
      clear hsum hsh hms hlen hcs hca hmd hst hml hx
      go_upto_region 12 with (fail)
      clear x0
      have D0 : Below WO.heap.size WO wr.drew := hb.drew
      have HSV : Hid (∀ V, Below WO.heap.size WO V → (fun w' : World => w'.rangeAt w.heap.size 0 (#[.int .i64 s.days, .slice d.a1 s.arts.length d.c1, .slice d.a2 s.ovens.length d.c2, .slice d.a3 s.mks.length d.c3, .slice d.a4 s.jobs.length d.c4, .slice d.a5 s.cols.length d.c5, .slice d.a6 s.ods.length d.c6]).toList) V) := Lib.hid (fun V hV => (HBk.out.below hV HBk.out.lt).range)
      have hown0 := own_drew8 hown
      have hlow : ∀ q, u9.ownBlock = some q → WO.heap.size ≤ q := fun q hq => (hown.lt q hq).1
      refine wp_region_till (fun w' : World => w'.rangeAt w.heap.size 0 (#[.int .i64 s.days, .slice d.a1 s.arts.length d.c1, .slice d.a2 s.ovens.length d.c2, .slice d.a3 s.mks.length d.c3, .slice d.a4 s.jobs.length d.c4, .slice d.a5 s.cols.length d.c5, .slice d.a6 s.ods.length d.c6]).toList) 14 (by kernel_rfl) (HSV.out _ D0) (fun hHeld => ?_)
      have HD0 := Lib.hid D0
      have HOW := Lib.hid hown0
      have hsz0 : WO.heap.size ≤ wr.drew.heap.size := hsm
      clear D0 hBr hE hb hA hown hown0 hsm
      generalize wr.drew = wd at *
      refine Till.take 0 (some 30) (v := ?_) rfl rfl (by kernel_rfl) (by kernel_rfl) (by kernel_rfl) (by kernel_rfl) (fun _ _ _ h => h) (Or.inl ⟨by rfl, ?_⟩) (by assumption) ?_
      rotate_left
      · (intro w hSw; (try dsimp only at hSw); go_simp; try with_reducible rfl)
      try simp only [Act.put, List.setIfInBounds_toArray, List.set_cons_zero, List.set_cons_succ]
      refine Till.take 1 (some 31) (v := .agg #[.int .i64 s.days, .slice d.a1 s.arts.length d.c1, .slice d.a2 s.ovens.length d.c2, .slice d.a3 s.mks.length d.c3, .slice d.a4 s.jobs.length d.c4, .slice d.a5 s.cols.length d.c5, .slice d.a6 s.ods.length d.c6]) rfl rfl (by kernel_rfl) (by kernel_rfl) (by kernel_rfl) (by kernel_rfl) (fun _ _ _ h => h) (yieldsIf_load_mid rfl 28 (Operand.tmp 2) rfl (w.heap.size) 0 rfl (#[.int .i64 s.days, .slice d.a1 s.arts.length d.c1, .slice d.a2 s.ovens.length d.c2, .slice d.a3 s.mks.length d.c3, .slice d.a4 s.jobs.length d.c4, .slice d.a5 s.cols.length d.c5, .slice d.a6 s.ods.length d.c6]).toList _ (fun _ h => h) Try.underlying28 rfl (by rw [sz_season]; rfl)) (by assumption) ?_
      try simp only [Act.put, List.setIfInBounds_toArray, List.set_cons_zero, List.set_cons_succ]
      refine Till.take 2 (some 32) (v := .agg #[.int .i64 s.days, .slice d.a1 s.arts.length d.c1, .slice d.a2 s.ovens.length d.c2, .slice d.a3 s.mks.length d.c3, .slice d.a4 s.jobs.length d.c4, .slice d.a5 s.cols.length d.c5, .slice d.a6 s.ods.length d.c6]) rfl rfl (by kernel_rfl) (by kernel_rfl) (by kernel_rfl) (by kernel_rfl) (fun _ _ _ h => h) (yieldsIf_load_mid rfl 28 (Operand.tmp 2) rfl (w.heap.size) 0 rfl (#[.int .i64 s.days, .slice d.a1 s.arts.length d.c1, .slice d.a2 s.ovens.length d.c2, .slice d.a3 s.mks.length d.c3, .slice d.a4 s.jobs.length d.c4, .slice d.a5 s.cols.length d.c5, .slice d.a6 s.ods.length d.c6]).toList _ (fun _ h => h) Try.underlying28 rfl (by rw [sz_season]; rfl)) (by assumption) ?_
      try simp only [Act.put, List.setIfInBounds_toArray, List.set_cons_zero, List.set_cons_succ]
      refine Till.take 5 (some 35) (v := .agg #[.int .i64 s.days, .slice d.a1 s.arts.length d.c1, .slice d.a2 s.ovens.length d.c2, .slice d.a3 s.mks.length d.c3, .slice d.a4 s.jobs.length d.c4, .slice d.a5 s.cols.length d.c5, .slice d.a6 s.ods.length d.c6]) rfl rfl (by kernel_rfl) (by kernel_rfl) (by kernel_rfl) (by kernel_rfl) (fun _ _ _ h => h) (yieldsIf_load_mid rfl 28 (Operand.tmp 2) rfl (w.heap.size) 0 rfl (#[.int .i64 s.days, .slice d.a1 s.arts.length d.c1, .slice d.a2 s.ovens.length d.c2, .slice d.a3 s.mks.length d.c3, .slice d.a4 s.jobs.length d.c4, .slice d.a5 s.cols.length d.c5, .slice d.a6 s.ods.length d.c6]).toList _ (fun _ h => h) Try.underlying28 rfl (by rw [sz_season]; rfl)) (by assumption) ?_
      try simp only [Act.put, List.setIfInBounds_toArray, List.set_cons_zero, List.set_cons_succ]
      refine Till.take 3 (some 33) (v := ?_) rfl rfl (by kernel_rfl) (by kernel_rfl) (by kernel_rfl) (by kernel_rfl) (fun _ _ _ h => h) (Or.inl ⟨by rfl, ?_⟩) (by assumption) ?_
      rotate_left
      · (intro w hSw; (try dsimp only at hSw); go_simp; try with_reducible rfl)
      try simp only [Act.put, List.setIfInBounds_toArray, List.set_cons_zero, List.set_cons_succ]
      refine Till.take 6 (some 36) (v := ?_) rfl rfl (by kernel_rfl) (by kernel_rfl) (by kernel_rfl) (by kernel_rfl) (fun _ _ _ h => h) (Or.inl ⟨by rfl, ?_⟩) (by assumption) ?_
      rotate_left
      · (intro w hSw; (try dsimp only at hSw); go_simp; try with_reducible rfl)
      try simp only [Act.put, List.setIfInBounds_toArray, List.set_cons_zero, List.set_cons_succ]
      refine Till.take 7 (some 37) (v := ?_) rfl rfl (by kernel_rfl) (by kernel_rfl) (by kernel_rfl) (by kernel_rfl) (fun _ _ _ h => h) (Or.inl ⟨by rfl, ?_⟩) (by assumption) ?_
      rotate_left
      · (intro w hSw; (try dsimp only at hSw); go_simp; try with_reducible rfl)
      try simp only [Act.put, List.setIfInBounds_toArray, List.set_cons_zero, List.set_cons_succ]
      refine Till.take 8 (some 38) (v := ?_) rfl rfl (by kernel_rfl) (by kernel_rfl) (by kernel_rfl) (by kernel_rfl) (fun _ _ _ h => h) (Or.inl ⟨by rfl, ?_⟩) (by assumption) ?_
      rotate_left
      · (intro w hSw; (try dsimp only at hSw); go_simp; try with_reducible rfl)
      try simp only [Act.put, List.setIfInBounds_toArray, List.set_cons_zero, List.set_cons_succ]
      refine Till.one 4 rfl (by kernel_rfl) (fun K hK => ?_)
      go_simp
      go_at_call 47
      refine (HCA.out _ (HE1.out.trans (HD0.out.mono HE1.out.size))).mono ?_
      rintro e w4 ⟨⟨v, rfl, hv⟩, hb4⟩
      have D4 := HD0.out.trans (hb4.mono HD0.out.size)
      have hh4 := HSV.out _ D4
      replace hv := hv.mono vis_out
      obtain ⟨am, cm, rfl⟩ := hv.shape
      have HM := Lib.hid hv
      refine hK.out _ _ (fun _ => hh4) (fun hHeld4 => ?_)
      have HO4 := Lib.hid (own_below8 HOW.out hb4)
      have HD4 := Lib.hid D4
      clear hK K hb4 hv D4 HOW HD0
      try simp only [Act.put, List.setIfInBounds_toArray, List.set_cons_zero, List.set_cons_succ]
      refine Till.one 9 rfl (by kernel_rfl) (fun K hK => ?_)
      go_simp
      go_at_call 48
      refine (HCS.out _ (HE1.out.trans (HD4.out.mono HE1.out.size))).mono ?_
      rintro e w5 ⟨⟨v, rfl, hv⟩, hb5⟩
      have D5 := HD4.out.trans (hb5.mono HD4.out.size)
      have hh5 := HSV.out _ D5
      replace hv := hv.mono vis_out
      obtain ⟨al, cl, rfl⟩ := hv.shape
      have HL := Lib.hid hv
      have HM5 := Lib.hid (HM.out.mono (ext_of_below hb5))
      refine hK.out _ _ (fun _ => hh5) (fun hHeld5 => ?_)
      have HO5 := Lib.hid (own_below8 HO4.out hb5)
      have HD5 := Lib.hid D5
      clear hK K hb5 hv D5 HO4 HD4 HM hh4 hHeld4
      try simp only [Act.put, List.setIfInBounds_toArray, List.set_cons_zero, List.set_cons_succ]
      refine Till.one 10 rfl (by kernel_rfl) (fun K hK => ?_)
      go_simp
      go_at_call 46
      refine (rpull_any s d ms l am al cm cl w5 (HS.out _ (HE1.out.trans (HD5.out.mono HE1.out.size))) HOK.out HM5.out HL.out HSH.out HMS.out (Nat.le_of_eq HLN.out) (by rw [HLN.out]; exact HML.out)).mono ?_
      rintro e w6 ⟨rfl, hb6⟩
      rw [HSUM.out]
      have D6 := HD5.out.trans (hb6.mono HD5.out.size)
      have hh6 := HSV.out _ D6
      refine hK.out _ _ (fun _ => hh6) (fun hHeld6 => ?_)
      have HO6 := Lib.hid (own_below8 HO5.out hb6)
      have HD6 := Lib.hid D6
      have hsz6 := D6.size
      clear hK K hb6 D6 HO5 HD5 HM5 hh5 hHeld5 hsz0
      try simp only [Act.put, List.setIfInBounds_toArray, List.set_cons_zero, List.set_cons_succ]
      refine Till.one 11 rfl (by kernel_rfl) (fun K hK => ?_)
      go_simp
      have BK := Blk.new w6 #[.int .i64 av] 3
      have D7 := HD6.out.alloc hsz6 (.cells #[.int .i64 av] 3)
      have hown2 := HO6.out.alloc (.cells #[.int .i64 av] 3)
      have hh7 := HSV.out _ D7
      refine hK.out _ _ (fun _ => hh7) (fun hHeld7 => ?_)
      clear hK K hh6 hHeld6
      try simp only [Act.put, List.setIfInBounds_toArray]
      refine Till.one 12 rfl (by kernel_rfl) (fun K hK => ?_)
      refine step_append_lies _ rfl _ _ 30 rfl WO.heap.size 3 ii (.int .i64 0) 1 8 Try.underlying30 gi gz0 gz1 gz2 rfl (by decide) _ r.length (r.map (Value.int .i64)) rfl hown2 ⟨w6.heap.size, 0, none⟩ 1 1 [.int .i64 av] rfl rfl (World.news_of_block BK) (by simp [Value.oneCell']) (by decide) (by unfold maxLen; omega) (by omega) D7.size _ rfl (fun g cap wb hob hgb hgg hgl => ?_)
      have D8 := D7.grown hgb D7.size (fun q e => hlow q e)
      have HO8 : Hid (wb.ownsRow WO.heap.size 3 1 (.slice (some ⟨g, 0, none⟩) (r.length + 1) cap) (r ++ [av]).length ((r ++ [av]).map (Value.int .i64))) := Lib.hid (by simpa using hob)
      have hh8 := HSV.out _ D8
      refine hK.out _ _ (fun _ => hh8) (fun hHeld8 => ?_)
      have HD8 := Lib.hid D8
      clear hK K hob hgb hgg hgl hown2 BK D7 D8 hh7 hHeld7
      try simp only [Act.put, List.setIfInBounds_toArray, List.set_cons_zero, List.set_cons_succ]
      refine Till.take 13 (some 9) (v := ?_) rfl rfl (by kernel_rfl) (by kernel_rfl) (by kernel_rfl) (by kernel_rfl) (fun _ _ _ h => h) (Or.inl ⟨by rfl, ?_⟩) (by assumption) ?_
      rotate_left
      · (intro w hSw; (try dsimp only at hSw); go_simp; try with_reducible rfl)
      try simp only [Act.put, List.setIfInBounds_toArray, List.set_cons_zero, List.set_cons_succ]
      refine Till.done (by kernel_rfl) ?_ _
      clear hh8 hHeld8 hHeld hsz6
      go_wp2
      go_roundw
      case rel => exact ⟨m + 1, r ++ [av], by omega, by go_num, HST, by simpa using HO8.out, HD8.out⟩
      case measure => simp [intOf]; omega
end Go.Proofs.Ytdffhkbncencgaa

namespace Go.Proofs.Ytdffhkbncencgaa
open Go.RowKit Go.PlainAid
set_option linter.unusedVariables false
set_option linter.unusedSimpArgs false

/-- what a machine costs on a day, and what it makes, from article a to b. -/
def dkC (s : Sn) (m a b : Int) : Int := if b < 0 then idl s m else (jobS s a b).hi
def dkB (s : Sn) (L m a b : Int) : Int := if b < 0 then 0 else rate s m b * max 0 (1440 - L - (jobS s a b).lo) / 1440
def dyM (s : Sn) (L : Int) (ms bef now : List Int) (n : Nat) : List Int := (List.range n).map fun i => dkB s L (ms.getD i 0) (bef.getD i 0) (now.getD i 0)
def dyC (s : Sn) (C : Int) (ms bef now : List Int) (n : Nat) : Int := C + ((List.range n).map fun i => dkC s (ms.getD i 0) (bef.getD i 0) (now.getD i 0)).sum
theorem dyM_step (s : Sn) (L : Int) (ms bef now : List Int) (n : Nat) : dyM s L ms bef now (n + 1) = dyM s L ms bef now n ++ [dkB s L (ms.getD n 0) (bef.getD n 0) (now.getD n 0)] := by unfold dyM; rw [List.range_succ, List.map_append]; rfl
theorem dyC_step (s : Sn) (C : Int) (ms bef now : List Int) (n : Nat) : dyC s C ms bef now (n + 1) = dyC s C ms bef now n + dkC s (ms.getD n 0) (bef.getD n 0) (now.getD n 0) := by unfold dyC; rw [List.range_succ, List.map_append, List.sum_append]; simp; omega
theorem dkC_bd {s : Sn} (ok : OkS s) (m a b : Int) : 0 ≤ dkC s m a b ∧ dkC s m a b ≤ 1000000 := by
  unfold dkC
  split
  · exact idl_bd ok m
  · exact (jobS_bd ok a b).2
theorem dyC_bd {s : Sn} (ok : OkS s) {C : Int} (hC : 0 ≤ C ∧ C ≤ 1000000) (ms bef now : List Int) : ∀ n, 0 ≤ dyC s C ms bef now n ∧ dyC s C ms bef now n ≤ 1000000 + 1000000 * n
  | 0 => by simp [dyC]; omega
  | n + 1 => by
    have h1 := dyC_bd ok hC ms bef now n
    have h2 := dkC_bd ok (ms.getD n 0) (bef.getD n 0) (now.getD n 0)
    rw [dyC_step]; omega
theorem dkB_bd {s : Sn} (ok : OkS s) {L : Int} (hL : 0 ≤ L) (m a b : Int) : 0 ≤ dkB s L m a b ∧ dkB s L m a b ≤ 1000000 := by
  unfold dkB
  split
  · omega
  · have h1 := rate_bd ok m b
    have h2 := jobS_bd ok a b
    have h3 := maxb (x := 1440 - L - (jobS s a b).lo) (by omega)
    have h4 := Int.mul_nonneg h1.1 h3.1
    have h5 := Int.mul_le_mul h1.2 h3.2 h3.1 (by omega)
    exact ⟨Int.ediv_nonneg h4 (by omega), by omega⟩
theorem dyM_bd {s : Sn} (ok : OkS s) {L : Int} (hL : 0 ≤ L) (ms bef now : List Int) (n : Nat) : ∀ y ∈ dyM s L ms bef now n, 0 ≤ y ∧ y ≤ 1000000 := fun y hy => by
  unfold dyM at hy
  obtain ⟨i, -, rfl⟩ := List.mem_map.1 hy
  exact dkB_bd ok hL _ _ _
theorem dyM_len (s : Sn) (L : Int) (ms bef now : List Int) (n : Nat) : (dyM s L ms bef now n).length = n := by simp [dyM]
theorem colL_bd {s : Sn} (ok : OkS s) : ∀ (l : List Int), ShOk s l → colL s l = -1 ∨ (0 ≤ colL s l ∧ colL s l < s.cols.length)
  | [], _ => .inl rfl
  | a :: l, h => by
    rw [colL_cons]
    split
    · exact colL_bd ok l (fun x hx => h x (List.mem_cons_of_mem _ hx))
    · rename_i ha
      have hb := h a (List.mem_cons_self ..)
      obtain ⟨n, rfl⟩ := Int.eq_ofNat_of_zero_le (show 0 ≤ a by omega)
      have hn : n < s.arts.length := by omega
      rw [colr_at8 hn]
      exact .inr (ok.art _ (List.getElem_mem hn)).1
theorem idl_at {s : Sn} {n : Nat} (h : n < s.mks.length) : idl s (n : Int) = (s.mks[n]).idle := by unfold idl; simp [List.getElem?_eq_getElem h]
theorem range_cells {W : World} {b o : Nat} {l : List Value} (h : ∀ j v, l[j]? = some v → W.cell? ⟨b, o + j, none⟩ = some v) : W.rangeAt b o l := h

set_option maxHeartbeats 16000000 in
set_option maxRecDepth 100000 in
theorem rDay_any (s : Sn) (d : SA) (k : Nat) (bef now : List Int) (ab an : Option Addr) (cb cn : Nat) (w : World) (h : SnD w s d) (ok : OkS s) (hb1 : RInts w (.slice ab bef.length cb) bef) (hn1 : RInts w (.slice an now.length cn) now) (hsb : ShOk s bef) (hsn : ShOk s now) (hlb : bef.length = (mksAt s k).length) (hln : now.length = (mksAt s k).length) :
    Calls Try.prog 70 #[.agg #[.int .i64 s.days, .slice d.a1 s.arts.length d.c1, .slice d.a2 s.ovens.length d.c2, .slice d.a3 s.mks.length d.c3, .slice d.a4 s.jobs.length d.c4, .slice d.a5 s.cols.length d.c5, .slice d.a6 s.ods.length d.c6], .int .i64 k, .slice ab bef.length cb, .slice an now.length cn] w fun e w' => (∃ v, e = .returned (.tuple #[v, .int .i64 (dyC s (lostS s (colL s bef) (colL s now)).hi (mksAt s k) bef now (mksAt s k).length)]) ∧ RInts (vis (w.heap.size ≤ ·) w') v (dyM s (lostS s (colL s bef) (colL s now)).lo (mksAt s k) bef now (mksAt s k).length)) ∧ Below w.heap.size w w' := by
  obtain ⟨ii, gi, hzz⟩ := Option.map_eq_some_iff.1 info_int
  obtain ⟨gz0, gz1⟩ := Prod.mk.inj hzz
  obtain ⟨gz1, gz2⟩ := Prod.mk.inj gz1
  clear hzz
  have hA := below_box w (.cells #[.int .i64 s.days, .slice d.a1 s.arts.length d.c1, .slice d.a2 s.ovens.length d.c2, .slice d.a3 s.mks.length d.c3, .slice d.a4 s.jobs.length d.c4, .slice d.a5 s.cols.length d.c5, .slice d.a6 s.ods.length d.c6] 28)
  have hB := Blk.new w #[.int .i64 s.days, .slice d.a1 s.arts.length d.c1, .slice d.a2 s.ovens.length d.c2, .slice d.a3 s.mks.length d.c3, .slice d.a4 s.jobs.length d.c4, .slice d.a5 s.cols.length d.c5, .slice d.a6 s.ods.length d.c6] 28
  have HS := Lib.hid (fun V (hV : Below w.heap.size w V) => h.mono (ext_of_below hV))
  have HBE := Lib.hid (fun V (hV : Below w.heap.size w V) => hb1.mono (ext_of_below hV))
  have HNO := Lib.hid (fun V (hV : Below w.heap.size w V) => hn1.mono (ext_of_below hV))
  have HOK := Lib.hid ok
  have HSB := Lib.hid hsb
  have HSN := Lib.hid hsn
  have HLB := Lib.hid hlb
  have HLN := Lib.hid hln
  have hnm := ok.nm
  have h6 : (mksAt s k).length ≤ 6 := Nat.le_trans (mksAt_len s k) hnm
  have HMS := Lib.hid (mksAt_ok s k)
  have hFb := colL_bd ok bef hsb
  have hGb := colL_bd ok now hsn
  clear h hb1 hn1 ok hsb hsn hlb hln
  go_enter Try.func70, Try.ntmps70
  go_upto_region 1 with (fail)
  generalize w.alloc (.cells #[.int .i64 s.days, .slice d.a1 s.arts.length d.c1, .slice d.a2 s.ovens.length d.c2, .slice d.a3 s.mks.length d.c3, .slice d.a4 s.jobs.length d.c4, .slice d.a5 s.cols.length d.c5, .slice d.a6 s.ods.length d.c6] 28) = W at *
  have x0 := hB.cell 0 _ rfl
  have x1 := hB.cell 1 _ rfl
  have x2 := hB.cell 2 _ rfl
  have x3 := hB.cell 3 _ rfl
  have x4 := hB.cell 4 _ rfl
  have x5 := hB.cell 5 _ rfl
  have x6 := hB.cell 6 _ rfl
  go_wp2_with fail
  refine (rAt_any s d (k : Int) W (HS.out _ hA) hnm).mono ?_
  rintro e w1 ⟨⟨v, rfl, hv⟩, hb⟩
  replace hv := hv.mono vis_out
  clear x0 x1 x2 x3 x4 x5 x6
  replace hB := hB.below hb hB.lt
  replace hA := hA.trans (hb.mono hA.size)
  clear hb
  obtain ⟨am, cm, rfl⟩ := hv.shape
  have HM := Lib.hid hv
  clear hv
  generalize hmse : mksAt s k = ms at *
  have HMSE := Lib.hid hmse
  clear hmse
  go_upto_region 3 with (fail)
  obtain ⟨F, hF⟩ : ∃ F, colL s bef = F := ⟨_, rfl⟩
  obtain ⟨G, hG⟩ : ∃ G, colL s now = G := ⟨_, rfl⟩
  rw [hF] at hFb
  rw [hG] at hGb
  have HF := Lib.hid hF
  have HG := Lib.hid hG
  clear hF hG
  have D0 : Below w1.heap.size w1 w1.drew := (Below.refl _ _).drew
  have HSV : Hid (∀ V, Below w1.heap.size w1 V → (fun w' : World => w'.rangeAt w.heap.size 0 (#[.int .i64 s.days, .slice d.a1 s.arts.length d.c1, .slice d.a2 s.ovens.length d.c2, .slice d.a3 s.mks.length d.c3, .slice d.a4 s.jobs.length d.c4, .slice d.a5 s.cols.length d.c5, .slice d.a6 s.ods.length d.c6]).toList) V) := Lib.hid (fun V hV => (hB.below hV hB.lt).range)
  refine wp_region_till (fun w' : World => w'.rangeAt w.heap.size 0 (#[.int .i64 s.days, .slice d.a1 s.arts.length d.c1, .slice d.a2 s.ovens.length d.c2, .slice d.a3 s.mks.length d.c3, .slice d.a4 s.jobs.length d.c4, .slice d.a5 s.cols.length d.c5, .slice d.a6 s.ods.length d.c6]).toList) 8 (by kernel_rfl) (HSV.out _ D0) (fun hHeld => ?_)
  have HD0 := Lib.hid D0
  have HA := Lib.hid hA
  have HB := Lib.hid hB
  clear D0 hA hB
  generalize w1.drew = wd at *
  refine Till.take 0 (some 24) (v := .agg #[.int .i64 s.days, .slice d.a1 s.arts.length d.c1, .slice d.a2 s.ovens.length d.c2, .slice d.a3 s.mks.length d.c3, .slice d.a4 s.jobs.length d.c4, .slice d.a5 s.cols.length d.c5, .slice d.a6 s.ods.length d.c6]) rfl rfl (by kernel_rfl) (by kernel_rfl) (by kernel_rfl) (by kernel_rfl) (fun _ _ _ h => h) (yieldsIf_load_mid rfl 28 (Operand.tmp 4) rfl (w.heap.size) 0 rfl (#[.int .i64 s.days, .slice d.a1 s.arts.length d.c1, .slice d.a2 s.ovens.length d.c2, .slice d.a3 s.mks.length d.c3, .slice d.a4 s.jobs.length d.c4, .slice d.a5 s.cols.length d.c5, .slice d.a6 s.ods.length d.c6]).toList _ (fun _ h => h) Try.underlying28 rfl (by rw [sz_season]; rfl)) (by assumption) ?_
  try simp only [Act.put, List.setIfInBounds_toArray, List.set_cons_zero, List.set_cons_succ]
  refine Till.take 3 (some 27) (v := .agg #[.int .i64 s.days, .slice d.a1 s.arts.length d.c1, .slice d.a2 s.ovens.length d.c2, .slice d.a3 s.mks.length d.c3, .slice d.a4 s.jobs.length d.c4, .slice d.a5 s.cols.length d.c5, .slice d.a6 s.ods.length d.c6]) rfl rfl (by kernel_rfl) (by kernel_rfl) (by kernel_rfl) (by kernel_rfl) (fun _ _ _ h => h) (yieldsIf_load_mid rfl 28 (Operand.tmp 4) rfl (w.heap.size) 0 rfl (#[.int .i64 s.days, .slice d.a1 s.arts.length d.c1, .slice d.a2 s.ovens.length d.c2, .slice d.a3 s.mks.length d.c3, .slice d.a4 s.jobs.length d.c4, .slice d.a5 s.cols.length d.c5, .slice d.a6 s.ods.length d.c6]).toList _ (fun _ h => h) Try.underlying28 rfl (by rw [sz_season]; rfl)) (by assumption) ?_
  try simp only [Act.put, List.setIfInBounds_toArray, List.set_cons_zero, List.set_cons_succ]
  refine Till.take 1 (some 25) (v := ?_) rfl rfl (by kernel_rfl) (by kernel_rfl) (by kernel_rfl) (by kernel_rfl) (fun _ _ _ h => h) (Or.inl ⟨by rfl, ?_⟩) (by assumption) ?_
  rotate_left
  · (intro w hSw; (try dsimp only at hSw); go_simp; try with_reducible rfl)
  try simp only [Act.put, List.setIfInBounds_toArray, List.set_cons_zero, List.set_cons_succ]
  refine Till.take 4 (some 28) (v := ?_) rfl rfl (by kernel_rfl) (by kernel_rfl) (by kernel_rfl) (by kernel_rfl) (fun _ _ _ h => h) (Or.inl ⟨by rfl, ?_⟩) (by assumption) ?_
  rotate_left
  · (intro w hSw; (try dsimp only at hSw); go_simp; try with_reducible rfl)
  try simp only [Act.put, List.setIfInBounds_toArray, List.set_cons_zero, List.set_cons_succ]
  refine Till.one 2 rfl (by kernel_rfl) (fun K hK => ?_)
  go_simp
  go_at_call 83
  refine (rcol_any s d bef ab cb wd (HS.out _ (HA.out.trans (HD0.out.mono HA.out.size))) (HBE.out _ (HA.out.trans (HD0.out.mono HA.out.size))) HSB.out).mono ?_
  rintro e w4 ⟨rfl, hb4⟩
  rw [HF.out]
  have D4 := HD0.out.trans (hb4.mono HD0.out.size)
  have hh4 := HSV.out _ D4
  refine hK.out _ _ (fun _ => hh4) (fun hHeld4 => ?_)
  have HD4 := Lib.hid D4
  clear hK K hb4 D4 HD0
  try simp only [Act.put, List.setIfInBounds_toArray, List.set_cons_zero, List.set_cons_succ]
  refine Till.one 5 rfl (by kernel_rfl) (fun K hK => ?_)
  go_simp
  go_at_call 83
  refine (rcol_any s d now an cn w4 (HS.out _ (HA.out.trans (HD4.out.mono HA.out.size))) (HNO.out _ (HA.out.trans (HD4.out.mono HA.out.size))) HSN.out).mono ?_
  rintro e w5 ⟨rfl, hb5⟩
  rw [HG.out]
  have D5 := HD4.out.trans (hb5.mono HD4.out.size)
  have hh5 := HSV.out _ D5
  refine hK.out _ _ (fun _ => hh5) (fun hHeld5 => ?_)
  have HD5 := Lib.hid D5
  clear hK K hb5 D5 HD4 hh4 hHeld4
  try simp only [Act.put, List.setIfInBounds_toArray, List.set_cons_zero, List.set_cons_succ]
  refine Till.take 6 (some 13) (v := ?_) rfl rfl (by kernel_rfl) (by kernel_rfl) (by kernel_rfl) (by kernel_rfl) (fun _ _ _ h => h) (Or.inl ⟨by rfl, ?_⟩) (by assumption) ?_
  rotate_left
  · (intro w hSw; (try dsimp only at hSw); go_simp; try with_reducible rfl)
  try simp only [Act.put, List.setIfInBounds_toArray, List.set_cons_zero, List.set_cons_succ]
  refine Till.take 7 (some 14) (v := ?_) rfl rfl (by kernel_rfl) (by kernel_rfl) (by kernel_rfl) (by kernel_rfl) (fun _ _ _ h => h) (Or.inl ⟨by rfl, ?_⟩) (by assumption) ?_
  rotate_left
  · (intro w hSw; (try dsimp only at hSw); go_simp; try with_reducible rfl)
  try simp only [Act.put, List.setIfInBounds_toArray, List.set_cons_zero, List.set_cons_succ]
  refine Till.done (by kernel_rfl) ?_ _
  clear hh5 hHeld5 hHeld
  have hA : Below w.heap.size w w5 := HA.out.trans (HD5.out.mono HA.out.size)
  have hB := HB.out.below HD5.out HB.out.lt
  have HMM := Lib.hid (HM.out.mono (ext_of_below HD5.out))
  clear HD5 HSV HM HA HB
  obtain ⟨L, hL⟩ : ∃ L, (lostS s F G).lo = L := ⟨_, rfl⟩
  obtain ⟨C, hC⟩ : ∃ C, (lostS s F G).hi = C := ⟨_, rfl⟩
  have hLC := lostS_bd HOK.out F G
  rw [hL, hC] at hLC
  have HL := Lib.hid hL
  have HC := Lib.hid hC
  clear hL hC
  obtain ⟨B, hBq⟩ : ∃ B, decide (¬ (F = -1 ∨ G = -1 ∨ F = G)) = B := ⟨_, rfl⟩
  have HBN : Hid ((F = -1 ∨ G = -1 ∨ F = G) → B = false) := Lib.hid (fun hx => by rw [← hBq]; exact decide_eq_false (fun h => h hx))
  have HBY : Hid (¬ (F = -1 ∨ G = -1 ∨ F = G) → B = true) := Lib.hid (fun hx => by rw [← hBq]; exact decide_eq_true hx)
  clear hBq
  go_upto_region 4 with (fail)
  go_cut [40] (fun sv wx => sv = .bool B ∧ w5 = wx)
  case first =>
    clear hA hB hLC
    by_cases hF1 : F = -1
    · have HBf := Lib.hid (HBN.out (.inl hF1))
      subst hF1
      clear hFb hGb HBN HBY
      go_wp2_with fail
      go_meet
      exact ⟨by rw [HBf.out], rfl⟩
    have hF2 : (0 : Int) ≤ F := by omega
    by_cases hG1 : G = -1
    · have HBf := Lib.hid (HBN.out (.inr (.inl hG1)))
      subst hG1
      clear hFb hGb HBN HBY hF1
      go_wp2_with fail
      go_meet
      exact ⟨by rw [HBf.out], rfl⟩
    have hG2 : (0 : Int) ≤ G := by omega
    by_cases hFG : F = G
    · have HBf := Lib.hid (HBN.out (.inr (.inr hFG)))
      have hFG2 : (F != G) = false := by simp [hFG]
      clear hFb hGb HBN HBY hF1 hG1 hFG
      go_wp2_with fail
      go_meet
      exact ⟨by rw [HBf.out], rfl⟩
    · have HBf := Lib.hid (HBY.out (fun hx => by omega))
      have hFG2 : (F != G) = true := by simp [hFG]
      clear hFb hGb HBN HBY hF1 hG1 hFG
      go_wp2_with fail
      go_meet
      exact ⟨by rw [HBf.out], rfl⟩
  case rest =>
  obtain ⟨rfl, rfl⟩ := hcut
  go_upto_if 40 with (fail)
  go_cut [11, 12] (fun u v wx => u = .int .i64 C ∧ v = .int .i64 L ∧ w5 = wx)
  case first =>
    have H0 : Hid ((F = -1 ∨ G = -1 ∨ F = G) → L = 0 ∧ C = 0) := Lib.hid (fun hx => by
      have h1 := HL.out
      have h2 := HC.out
      unfold lostS at h1 h2
      rw [if_pos hx] at h1 h2
      exact ⟨h1.symm, h2.symm⟩)
    by_cases hch : F = -1 ∨ G = -1 ∨ F = G
    · obtain ⟨hL0, hC0⟩ := H0.out hch
      have hBf := HBN.out hch
      have HL0 := Lib.hid hL0
      have HC0 := Lib.hid hC0
      subst hBf
      clear hch hL0 hC0 hLC hFb hGb H0 HBN HBY hA hB
      go_wp2_with fail
      go_meet
      exact ⟨by rw [HC0.out], by rw [HL0.out], rfl⟩
    have hBt := HBY.out hch
    subst hBt
    clear HBN HBY
    obtain ⟨f, rfl⟩ := Int.eq_ofNat_of_zero_le (show 0 ≤ F by omega)
    obtain ⟨q, rfl⟩ := Int.eq_ofNat_of_zero_le (show 0 ≤ G by omega)
    have hfl : f < s.cols.length := by omega
    have hql : q < s.cols.length := by omega
    have hrl := (HOK.out.col _ (List.getElem_mem hfl)).1
    have hlS : lostS s f q = tnAt s.cols f q := by unfold lostS; rw [if_neg (by omega)]
    have hq2 : q < (s.cols[f]).length := by omega
    rw [hlS, tnAt_at hfl hq2] at HL HC
    obtain ⟨b1, o1, he1, vr, q0, hr1⟩ := rsl_at (HS.out _ hA).cols hfl
    obtain ⟨ar, cr, rfl⟩ := hr1.shape
    obtain ⟨b2, o2, he2, p0, p1, -⟩ := rsl_at hr1 hq2
    subst he2
    simp only at p0 p1
    rw [HL.out] at p0
    rw [HC.out] at p1
    have x5 := hB.cell 5 _ rfl
    rw [he1] at x5
    have j1 : (0 : Int) ≤ (f : Int) := Int.natCast_nonneg _
    have j2 : (f : Int) < (s.cols.length : Int) := by omega
    have j3 : (0 : Int) ≤ (q : Int) := Int.natCast_nonneg _
    have j4 : (q : Int) < ((s.cols[f]).length : Int) := by omega
    have z1 := wrap_id C (by unfold I64; omega)
    try rw [Nat.mul_one] at q0
    clear hch H0 hFb hGb hrl hlS he1 HL HC hr1 hA hB
    generalize (s.cols[f]).length = rl at *
    clear hq2 hfl hql hLC
    go_wp2_with fail
    go_meet
    refine ⟨?_, rfl, rfl⟩
    first | rfl | (simp; exact z1)
  case rest =>
  obtain ⟨rfl, rfl, rfl⟩ := hcut
  go_upto_region 9 with (fail)
  have HL0 : Hid (0 ≤ L ∧ L ≤ 1440) := Lib.hid hLC.1
  have HC0 : Hid (0 ≤ C ∧ C ≤ 1000000) := Lib.hid hLC.2
  clear hLC hFb hGb HBN HBY
  have hWs := hB.lt
  have hSZ := hA.size
  go_loopw [11, 15, 16] (fun c v i wr => ∃ (n : Nat) (r : List Int), n ≤ ms.length ∧ i = .int .i64 n ∧ c = .int .i64 (dyC s C ms bef now n) ∧ Hid (r = dyM s L ms bef now n) ∧ wr.ownsRow w5.heap.size 3 1 v r.length (r.map (Value.int .i64)) ∧ Below w5.heap.size w5 wr) (fun _ _ i _ => ms.length - (intOf i).toNat)
  case atStart => exact ⟨0, [], Nat.zero_le _, rfl, by simp [dyC], Lib.hid rfl, World.ownsRow_nil _ _ _ _, Below.refl _ _⟩
  case round =>
    obtain ⟨n, r, hn, rfl, rfl, hx, hown, hb⟩ := hrel
    have hE := hA.trans (hb.mono hA.size)
    have hBr := hB.below hb hB.lt
    have hrl : r.length ≤ 6 := by rw [hx.out, dyM_len]; omega
    by_cases hlt : n < ms.length
    case neg =>
      obtain rfl : n = ms.length := by omega
      have aN : ¬ (ms.length : Int) < (ms.length : Int) := by omega
      have HR : Hid (RInts (vis (w.heap.size ≤ ·) wr) u15 (dyM s L ms bef now ms.length)) := Lib.hid (by
        rw [← hx.out]
        refine own_RInts (own_vis hown (fun q hq => by have := (hown.lt q hq).1; omega)) (by omega) (fun y hy => ?_)
        rw [hx.out] at hy
        have := dyM_bd HOK.out HL0.out.1 ms bef now ms.length y hy
        unfold I64; omega)
      clear hx hown
      go_wp2
      go_ret2
      exact ⟨⟨_, by rw [HMSE.out, HF.out, HG.out, HC.out]; rfl, by rw [HMSE.out, HF.out, HG.out, HL.out]; exact HR.out⟩, hE⟩
    case pos =>
    have hlb : n < bef.length := by rw [HLB.out]; exact hlt
    have hlc : n < now.length := by rw [HLN.out]; exact hlt
    have hdc := dyC_step s C ms bef now n
    have hdm := dyM_step s L ms bef now n
    rw [getD_at hlt, getD_at hlb, getD_at hlc] at hdc hdm
    rw [← hx.out] at hdm
    obtain ⟨b1, o1, he1, r1, -⟩ := ints_at (HMM.out.mono (ext_of_below hb)) hlt
    subst he1
    have hmb := HMS.out _ (List.getElem_mem hlt)
    have hab := HSB.out _ (List.getElem_mem hlb)
    have hbb := HSN.out _ (List.getElem_mem hlc)
    have hcb := dyC_bd HOK.out HC0.out ms bef now n
    have j1 : (0 : Int) ≤ (n : Int) := Int.natCast_nonneg _
    have j2 : (n : Int) < (ms.length : Int) := by omega
    generalize ms[n] = mm at *
    obtain ⟨mn, rfl⟩ := Int.eq_ofNat_of_zero_le hmb.1
    have hml : mn < s.mks.length := by omega
    obtain ⟨b4, o4, he4, v4, ⟨q0, q1, q2, q3⟩, -, hri, -⟩ := rsl_at (HS.out _ hE).mks hml
    have hidl := idl_at hml
    have hmr := (HOK.out.mkr _ (List.getElem_mem hml)).2
    have hrt := fun (q : Nat) (hq : q < s.mks[mn].rates.length) => rate_at hml hq
    generalize s.mks[mn] = x at *
    simp only at q0 q1 q2 q3
    obtain ⟨ar, cr, rfl⟩ := hri.shape
    have l1 : b1 < wr.heap.size := cell_lt r1
    have l4 : b4 < wr.heap.size := cell_lt q0
    have x3 := hBr.cell 3 _ rfl
    rw [he4] at x3
    have j3 : (mn : Int) < (s.mks.length : Int) := by omega
    have j4 : (0 : Int) ≤ (mn : Int) := Int.natCast_nonneg _
    have hlt0 := hBr.lt
    have HX := Lib.hid hx
    have HDC := Lib.hid hdc
    have HDM := Lib.hid hdm
    have HAB := Lib.hid hab
    have HBB := Lib.hid hbb
    have HCB := Lib.hid hcb
    have HOWN := Lib.hid hown
    have HE := Lib.hid hE
    have HB5 := Lib.hid hb
    have HBR := Lib.hid hBr
    have HRI := Lib.hid hri
    have HIDL := Lib.hid hidl
    have HMR := Lib.hid hmr
    have HRT := Lib.hid hrt
    clear hx hdc hdm hab hbb hcb hown hE hb hBr hri hidl hmr hrt he4 hmb
    go_upto_region 11 with (fail)
    go_cut [17] from 67 to 74 (fun u wx => ∃ p, u = .pointer (some ⟨p, 0, none⟩) ∧ Blk wx p #[.int .i64 x.oven, .slice ar x.rates.length cr, .int .i64 x.idle, .int .i64 x.start] 53 ∧ wr.heap.size ≤ p ∧ Below wr.heap.size wr wx)
    case first =>
      go_region
      go_wp2_with fail
      go_meet
      exact ⟨_, rfl, Blk.new wr #[.int .i64 x.oven, .slice ar x.rates.length cr, .int .i64 x.idle, .int .i64 x.start] 53, Nat.le_refl _, (below_box wr _).drew⟩
    case rest =>
    obtain ⟨p, rfl, hP, hpw, hb6⟩ := hcut
    have hE6 := HE.out.trans (hb6.mono HE.out.size)
    obtain ⟨b5, o5, he5, r5, -⟩ := ints_at (HBE.out _ hE6) hlb
    obtain ⟨b6, o6, he6, r6, -⟩ := ints_at (HNO.out _ hE6) hlc
    subst he5
    subst he6
    have j5 : (n : Int) < (bef.length : Int) := by omega
    have j6 : (n : Int) < (now.length : Int) := by omega
    generalize bef[n] = a at *
    generalize now[n] = b at *
    clear x3 q0 q1 q2 q3 r1 l1 l4 hE6
    go_upto_region 12 with (fail)
    go_cut [18, 19] from 75 to 82 (fun u v wy => u = .int .i64 a ∧ v = .int .i64 b ∧ ∃ q, wy = wc.drewN q)
    case first =>
      clear hP hpw hb6
      go_region
      go_wp2_with fail
      go_meet
      exact ⟨rfl, rfl, 1, rfl⟩
    case rest =>
    obtain ⟨rfl, rfl, q, rfl⟩ := hcut
    have hb7 := below_drewN hb6 q
    have hP7 := hP.below (below_drewN (Below.refl _ _) q) hP.lt
    have hown7 := own_below8 HOWN.out hb7
    have hb5 := HB5.out.trans (hb7.mono HB5.out.size)
    have hE7 := Lib.hid (HE.out.trans (hb7.mono HE.out.size))
    clear r5 r6 hP hpw hb6
    generalize wc.drewN q = w7 at *
    have hcb := HCB.out
    have hdc := HDC.out
    have hdm := HDM.out
    generalize dyC s C ms bef now n = cN at *
    have hn6 : n ≤ 6 := by omega
    by_cases hb0 : b < 0
    · have hid := HIDL.out
      have hidb := HMR.out.2.1
      rw [show dkC s (mn : Int) a b = x.idle by unfold dkC; rw [if_pos hb0]; exact hid] at hdc
      rw [show dkB s L (mn : Int) a b = 0 by unfold dkB; rw [if_pos hb0]] at hdm
      have y2 := hP7.cell 2 _ rfl
      have z1 := wrap_id (cN + x.idle) (by unfold I64; omega)
      have HDC2 := Lib.hid hdc
      have HDM2 := Lib.hid hdm
      clear hid hidb hdc hdm hcb hb7
      have hown2 := hown7.alloc (.cells #[.int .i64 0] 3)
      have hlow : ∀ q, u15.ownBlock = some q → w5.heap.size ≤ q := fun q hq => (hown7.lt q hq).1
      have hsw := hb5.size
      have HB8 := Lib.hid (hb5.alloc hb5.size (.cells #[.int .i64 0] 3))
      clear hown7 hb5
      go_wp2_with (at_builtin; refine wpList_append_lies _ rfl _ _ 30 rfl w5.heap.size 3 ii (.int .i64 0) 1 8 Try.underlying30 gi gz0 gz1 gz2 rfl (by decide) _ r.length _ rfl hown2 ⟨w7.heap.size, 0, none⟩ 1 1 [.int .i64 0] rfl rfl (by have := cell_one_new w7 (.int .i64 0) 3; simpa using this) (by simp [Value.oneCell']) (by omega) (by unfold maxLen; omega) (by omega) (by simp; omega) _ rfl ?_; intro g6 k6 w8 hown8 hgrow8 hat8 hlt8)
      have hb8 := HB8.out.grown hgrow8 (by simp; omega) (fun q hq => hlow q hq)
      have hownF : w8.ownsRow w5.heap.size 3 1 (.slice (some ⟨g6, 0, none⟩) (r.length + 1) k6) (r ++ [0]).length ((r ++ [0]).map (Value.int .i64)) := by simpa using hown8
      clear hown8 hown2 hgrow8 hat8 HB8
      go_roundw
      case rel => exact ⟨n + 1, r ++ [0], by omega, by go_num, by rw [HDC2.out], Lib.hid HDM2.out.symm, by simpa using hownF, hb8⟩
      case measure => simp [intOf]; omega
    · obtain ⟨bn, rfl⟩ := Int.eq_ofNat_of_zero_le (show 0 ≤ b by omega)
      have hbb := HBB.out
      have hab := HAB.out
      have hbl : bn < s.arts.length := by omega
      have hrtl : bn < x.rates.length := by rw [HMR.out.1.1]; exact hbl
      have hrv := HRT.out bn hrtl
      have hrb := rate_bd HOK.out (mn : Int) (bn : Int)
      rw [show dkC s (mn : Int) a (bn : Int) = (jobS s a (bn : Int)).hi by unfold dkC; rw [if_neg hb0]] at hdc
      rw [show dkB s L (mn : Int) a (bn : Int) = rate s (mn : Int) (bn : Int) * max 0 (1440 - L - (jobS s a (bn : Int)).lo) / 1440 by unfold dkB; rw [if_neg hb0]] at hdm
      have hJb := jobS_bd HOK.out a (bn : Int)
      obtain ⟨J1, hJ1⟩ : ∃ z, (jobS s a (bn : Int)).lo = z := ⟨_, rfl⟩
      obtain ⟨J2, hJ2⟩ : ∃ z, (jobS s a (bn : Int)).hi = z := ⟨_, rfl⟩
      rw [hJ1, hJ2] at hJb
      rw [hJ2] at hdc
      rw [hJ1] at hdm
      rw [hrv] at hdm hrb
      have HJ1 := Lib.hid hJ1
      have HJ2 := Lib.hid hJ2
      have HDC2 := Lib.hid hdc
      have HDM1 := Lib.hid hdm
      have HRB := Lib.hid hrb
      obtain ⟨B2, hB2⟩ : ∃ z, decide (¬ (a = -1 ∨ a = (bn : Int))) = z := ⟨_, rfl⟩
      have HB2N : Hid ((a = -1 ∨ a = (bn : Int)) → B2 = false) := Lib.hid (fun hx => by rw [← hB2]; exact decide_eq_false (fun h => h hx))
      have HB2Y : Hid (¬ (a = -1 ∨ a = (bn : Int)) → B2 = true) := Lib.hid (fun hx => by rw [← hB2]; exact decide_eq_true hx)
      have HJB := Lib.hid hJb
      have HHC := Lib.hid hcb
      have HB7 := Lib.hid hb7
      have HB5' := Lib.hid hb5
      have HP7 := Lib.hid hP7
      have HO7 := Lib.hid hown7
      clear hB2 hJ1 hJ2 hdc hdm hrb hrv hJb hcb hb7 hb5 hP7 hown7
      go_upto_region 17 with (fail)
      go_cut [99] (fun sv wx => sv = .bool B2 ∧ w7 = wx)
      case first =>
        by_cases ha1 : a = -1
        · have HBf := Lib.hid (HB2N.out (.inl ha1))
          subst ha1
          clear hab hbb
          go_wp2_with fail
          go_meet
          exact ⟨by rw [HBf.out], rfl⟩
        have ha2 : (0 : Int) ≤ a := by omega
        by_cases hFG : a = (bn : Int)
        · have HBf := Lib.hid (HB2N.out (.inr hFG))
          have hFG2 : (a != (bn : Int)) = false := by simp [hFG]
          clear hab hbb ha1 hFG
          go_wp2_with fail
          go_meet
          exact ⟨by rw [HBf.out], rfl⟩
        · have HBf := Lib.hid (HB2Y.out (fun hx => by omega))
          have hFG2 : (a != (bn : Int)) = true := by simp [hFG]
          clear hab hbb ha1 hFG
          go_wp2_with fail
          go_meet
          exact ⟨by rw [HBf.out], rfl⟩
      case rest =>
      obtain ⟨rfl, rfl⟩ := hcut
      go_upto_if 99 with (fail)
      go_cut [11, 20] (fun u v wx => u = .int .i64 (cN + J2) ∧ v = .int .i64 (L + J1) ∧ w7 = wx)
      case first =>
        by_cases hch : a = -1 ∨ a = (bn : Int)
        · have h1 := HJ1.out
          have h2 := HJ2.out
          unfold jobS at h1 h2
          rw [if_pos hch] at h1 h2
          have hBf := HB2N.out hch
          have HJ1' := Lib.hid h1
          have HJ2' := Lib.hid h2
          subst hBf
          clear hch h1 h2 hab hbb HB2N HB2Y
          go_wp2_with fail
          go_meet
          exact ⟨by rw [← HJ2'.out]; simp, by rw [← HJ1'.out]; simp, rfl⟩
        have hBt := HB2Y.out hch
        subst hBt
        clear HB2N HB2Y
        obtain ⟨av, rfl⟩ := Int.eq_ofNat_of_zero_le (show 0 ≤ a by omega)
        have hal : av < s.jobs.length := by rw [HOK.out.nj]; omega
        have hrl2 := (HOK.out.job _ (List.getElem_mem hal)).1
        have hjS : jobS s (av : Int) (bn : Int) = tnAt s.jobs (av : Int) (bn : Int) := by unfold jobS; rw [if_neg (by omega)]
        have hq2 : bn < (s.jobs[av]).length := by omega
        have h1 := HJ1.out
        have h2 := HJ2.out
        rw [hjS, tnAt_at hal hq2] at h1 h2
        obtain ⟨b7, o7, he7, vr, q0, hr1⟩ := rsl_at (HS.out _ hE7.out).jobs hal
        obtain ⟨aj, cj, rfl⟩ := hr1.shape
        obtain ⟨b2, o2, he2, p0, p1, -⟩ := rsl_at hr1 hq2
        subst he2
        simp only at p0 p1
        rw [h1] at p0
        rw [h2] at p1
        have x4 := (hB.below HB5'.out hB.lt).cell 4 _ rfl
        rw [he7] at x4
        have t1 : (0 : Int) ≤ (av : Int) := Int.natCast_nonneg _
        have t2 : (av : Int) < (s.jobs.length : Int) := by omega
        have t3 : (0 : Int) ≤ (bn : Int) := Int.natCast_nonneg _
        have t4 : (bn : Int) < ((s.jobs[av]).length : Int) := by omega
        have hJb := HJB.out
        have hcb := HHC.out
        have hl0 := HL0.out
        have z1 := wrap_id (cN + J2) (by unfold I64; omega)
        have z2 := wrap_id (L + J1) (by unfold I64; omega)
        try rw [Nat.mul_one] at q0
        clear hch hrl2 hjS he7 h1 h2 hr1 hJb hcb hl0 hab hbb
        generalize (s.jobs[av]).length = jl at *
        clear hq2 hal
        go_wp2_with fail
        go_meet
        exact ⟨rfl, rfl, rfl⟩
      case rest =>
      obtain ⟨rfl, rfl, rfl⟩ := hcut
      have hJb := HJB.out
      have hl0 := HL0.out
      have htb := maxb (x := 1440 - L - J1) (by omega)
      obtain ⟨t, ht⟩ : ∃ t, max 0 (1440 - L - J1) = t := ⟨_, rfl⟩
      have hdm := HDM1.out
      have hrb := HRB.out
      obtain ⟨b8, o8, he8, r8, -⟩ := ints_at (HRI.out.mono (ext_of_below HB7.out)) hrtl
      subst he8
      have y1 := HP7.out.cell 1 _ rfl
      generalize x.rates[bn] = R at *
      rw [ht] at hdm htb
      obtain ⟨z1, z2, z3⟩ := mkv hrb htb
      obtain ⟨V, hV⟩ : ∃ V, R * t / 1440 = V := ⟨_, rfl⟩
      rw [hV] at hdm z2 z3
      have HDM2 := Lib.hid hdm
      have z4 := wrap_id (1440 - (L + J1)) (by unfold I64; omega)
      have t3 : (0 : Int) ≤ (bn : Int) := Int.natCast_nonneg _
      have t4 : (bn : Int) < (x.rates.length : Int) := by omega
      have hown7 := HO7.out
      have hb5 := HB5'.out
      have hT : (if 1440 - (L + J1) < 0 then 0 else 1440 - (L + J1)) = t := by rw [← ht]; split <;> omega
      have hT2 : (if 0 < 1440 - (L + J1) then 1440 - (L + J1) else 0) = t := by rw [← ht]; split <;> omega
      clear hab hbb hJb hl0 hrb hdm ht hV htb hbl
      have hown2 := hown7.alloc (.cells #[.int .i64 (V)] 3)
      have hlow : ∀ q, u15.ownBlock = some q → w5.heap.size ≤ q := fun q hq => (hown7.lt q hq).1
      have hsw := hb5.size
      have HB8 := Lib.hid (hb5.alloc hb5.size (.cells #[.int .i64 (V)] 3))
      clear hown7 hb5
      go_wp2_with (at_builtin; refine wpList_append_lies _ rfl _ _ 30 rfl w5.heap.size 3 ii (.int .i64 0) 1 8 Try.underlying30 gi gz0 gz1 gz2 rfl (by decide) _ r.length _ rfl hown2 ⟨w7.heap.size, 0, none⟩ 1 1 [.int .i64 (V)] rfl rfl (by have := cell_one_new w7 (.int .i64 (V)) 3; simpa using this) (by simp [Value.oneCell']) (by omega) (by unfold maxLen; omega) (by omega) (by simp; omega) _ rfl ?_; intro g6 k6 w8 hown8 hgrow8 hat8 hlt8)
      have hb8 := HB8.out.grown hgrow8 (by simp; omega) (fun q hq => hlow q hq)
      have hownF : w8.ownsRow w5.heap.size 3 1 (.slice (some ⟨g6, 0, none⟩) (r.length + 1) k6) (r ++ [V]).length ((r ++ [V]).map (Value.int .i64)) := by simpa using hown8
      clear hown8 hown2 hgrow8 hat8 HB8
      go_roundw
      case rel => exact ⟨n + 1, r ++ [V], by omega, by go_num, by rw [HDC2.out], Lib.hid HDM2.out.symm, by simpa using hownF, hb8⟩
      case measure => simp [intOf]; omega
end Go.Proofs.Ytdffhkbncencgaa
