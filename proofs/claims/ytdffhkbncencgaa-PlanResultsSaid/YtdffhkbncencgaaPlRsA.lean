/- What results tells is what the program follows: made, costs, lacks; no statement is proved here. -/
import Derived.Test.YtdffhkbncencgaaPlRRs
import Derived.Test.YtdffhkbncencgaaPlLw
namespace Go.Proofs.Ytdffhkbncencgaa
open Go.RowKit Go.PlainAid
set_option linter.unusedVariables false
set_option linter.unusedSimpArgs false

/-- sums over numbers. -/
def smF (f : Nat → Int) (n : Nat) : Int := ((List.range n).map f).sum
theorem smF_step (f : Nat → Int) (n : Nat) : smF f (n + 1) = smF f n + f n := by unfold smF; rw [List.range_succ, List.map_append, List.sum_append]; simp
theorem smF_add (f h : Nat → Int) : ∀ n, smF (fun i => f i + h i) n = smF f n + smF h n
  | 0 => rfl
  | n + 1 => by rw [smF_step, smF_step, smF_step, smF_add f h n]; omega
theorem smF_congr {f h : Nat → Int} : ∀ {n : Nat}, (∀ i, i < n → f i = h i) → smF f n = smF h n
  | 0, _ => rfl
  | n + 1, e => by rw [smF_step, smF_step, smF_congr (fun i hi => e i (by omega)), e n (by omega)]
theorem smF_zero {f : Nat → Int} : ∀ {n : Nat}, (∀ i, i < n → f i = 0) → smF f n = 0
  | 0, _ => rfl
  | n + 1, e => by rw [smF_step, smF_zero (fun i hi => e i (by omega)), e n (by omega)]; rfl
theorem smF_comm (f : Nat → Nat → Int) (m : Nat) : ∀ n, smF (fun i => smF (f i) m) n = smF (fun j => smF (fun i => f i j) n) m
  | 0 => (smF_zero (n := m) (fun i _ => rfl)).symm
  | n + 1 => by
    rw [smF_step, smF_comm f m n, ← smF_add]
    exact smF_congr fun i _ => (smF_step (fun k => f k i) n).symm
theorem smF_pick (v : Int) {k : Nat} : ∀ {n : Nat}, k < n → smF (fun i => if k = i then v else 0) n = v
  | 0, h => by omega
  | n + 1, h => by
    rw [smF_step]
    by_cases e : k = n
    · rw [if_pos e, smF_zero (fun i hi => if_neg (by omega)), Int.zero_add]
    · rw [if_neg e, smF_pick v (by omega), Int.add_zero]
theorem smF_cut (f : Nat → Int) {a : Nat} : ∀ {n : Nat}, a ≤ n → smF (fun i => if i < a then f i else 0) n = smF f a
  | 0, h => by rw [show a = 0 by omega]; rfl
  | n + 1, h => by
    rw [smF_step]
    by_cases e : a ≤ n
    · rw [if_neg (by omega), smF_cut f e, Int.add_zero]
    · have e2 : a = n + 1 := by omega
      subst e2
      rw [if_pos (by omega), smF_step]
      congr 1
      exact smF_congr fun i hi => if_pos (by omega)
theorem smF_ext (f : Nat → Int) {a : Nat} : ∀ {n : Nat}, a ≤ n → (∀ i, a ≤ i → i < n → f i = 0) → smF f n = smF f a
  | 0, h, _ => by rw [show a = 0 by omega]
  | n + 1, h, hz => by
    by_cases e : a = n + 1
    · rw [e]
    · rw [smF_step, hz n (by omega) (by omega), smF_ext f (by omega) (fun i h1 h2 => hz i h1 (by omega)), Int.add_zero]
theorem sum_flat {α β : Type} (f : α → List β) (h : β → Int) : ∀ (l : List α), ((l.flatMap f).map h).sum = (l.map fun x => ((f x).map h).sum).sum
  | [] => rfl
  | x :: l => by rw [List.flatMap_cons, List.map_append, List.sum_append, sum_flat f h l]; rfl

/-- the colour of a day's crew. -/
theorem col_now {s : Sn} (ok : OkS s) {T : List (List Int)} (pk : PlOk s T) (k : Nat) {day : Int} (h1 : -1 ≤ day) (h2 : day < s.days) : colS s (dayC s T day (ovAt s k)) (mksAt s k) = colL s (nowD s T k day) := by
  have h := colS_Z (s := s) (dayC_low ok pk k h1 h2) (mksAt s k) [] (fun m hm => by cases hm)
  rw [List.append_nil, dayC_now ok.nm] at h
  exact h
theorem crew_at {s : Sn} (ok : OkS s) (T : List (List Int)) (k : Nat) (day : Int) {j : Nat} (hj : j < 6) : g (dayC s T day (ovAt s k)) j = if (j : Int) ∈ mksAt s k then planC s T day j else -1 := by
  have hn := ok.nm
  have hms : ∀ m ∈ mksAt s k, 0 ≤ m ∧ m < 6 := fun m hm => by have := mksAt_ok s k m hm; omega
  have h3 : g (dayC s T day (ovAt s k)) j = _ := crewS_g (s := s) (T := T) (day := day) (mksAt s k) idleC rfl hms j hj
  rw [h3]
  congr 1
  obtain rfl | rfl | rfl | rfl | rfl | rfl : j = 0 ∨ j = 1 ∨ j = 2 ∨ j = 3 ∨ j = 4 ∨ j = 5 := by omega
  all_goals rfl
theorem flM_at {s : Sn} {L : Int} {bef now : List Int} : ∀ (ms c : List Int), c.length = 6 → (∀ m ∈ ms, 0 ≤ m ∧ m < 6) → ∀ j : Nat, j < 6 → g (ms.foldl (fun c m => if g now m.toNat = -1 then c else c.set m.toNat (mkB s L bef now m)) c) j = if (j : Int) ∈ ms ∧ g now j ≠ -1 then mkB s L bef now j else g c j
  | [], c, _, _, j, _ => by simp
  | m :: ms, c, hc, hm, j, hj => by
    have h1 := hm m (List.mem_cons_self ..)
    rw [List.foldl_cons]
    by_cases hn : g now m.toNat = -1
    · rw [if_pos hn, flM_at ms c hc (fun q hq => hm q (List.mem_cons_of_mem _ hq)) j hj]
      by_cases h2 : (j : Int) ∈ ms ∧ g now j ≠ -1
      · rw [if_pos h2, if_pos ⟨List.mem_cons_of_mem _ h2.1, h2.2⟩]
      · rw [if_neg h2, if_neg]
        rintro ⟨h3, h4⟩
        rcases List.mem_cons.1 h3 with h3 | h3
        · rw [← h3] at hn; exact h4 hn
        · exact h2 ⟨h3, h4⟩
    · rw [if_neg hn, flM_at ms _ (by rw [List.length_set]; exact hc) (fun q hq => hm q (List.mem_cons_of_mem _ hq)) j hj]
      by_cases h2 : (j : Int) ∈ ms ∧ g now j ≠ -1
      · rw [if_pos h2, if_pos ⟨List.mem_cons_of_mem _ h2.1, h2.2⟩]
      · rw [if_neg h2, g_set c hc (by omega)]
        by_cases h4 : j = m.toNat
        · have h5 : (j : Int) = m := by omega
          rw [if_pos h4, if_pos ⟨by rw [h5]; exact List.mem_cons_self .., by rw [h4]; exact hn⟩, h5]
        · rw [if_neg h4, if_neg]
          rintro ⟨h6, h7⟩
          rcases List.mem_cons.1 h6 with h6 | h6
          · omega
          · exact h2 ⟨h6, h7⟩
/-- what a machine makes on a day, as the program follows it. -/
theorem made_one {s : Sn} (ok : OkS s) {T : List (List Int)} (pk : PlOk s T) {k day : Nat} (hd : (day : Int) < s.days) {j : Nat} (hj : j < 6) : g (stOne s T k day).oc.made j = if (j : Int) ∈ mksAt s k then dvS s T j day else 0 := by
  have hn := ok.nm
  have hms : ∀ m ∈ mksAt s k, 0 ≤ m ∧ m < 6 := fun m hm => by have := mksAt_ok s k m hm; omega
  have hz : g z6 j = 0 := by
    obtain rfl | rfl | rfl | rfl | rfl | rfl : j = 0 ∨ j = 1 ∨ j = 2 ∨ j = 3 ∨ j = 4 ∨ j = 5 := by omega
    all_goals rfl
  have h0 : g (stOne s T k day).oc.made j = _ := flM_at (s := s) (L := (lostS s (colS s (dayC s T ((day : Int) - 1) (ovAt s k)) (mksAt s k)) (colS s (dayC s T day (ovAt s k)) (mksAt s k))).lo) (bef := dayC s T ((day : Int) - 1) (ovAt s k)) (now := dayC s T day (ovAt s k)) (mksAt s k) z6 rfl hms j hj
  rw [h0, crew_at ok T k day hj]
  by_cases hm : (j : Int) ∈ mksAt s k
  · have hjl : j < s.mks.length := by have := (mksAt_ok s k _ hm).2; omega
    have hov := (mem_mksAt ok hjl).1 hm
    have hb := planC_bd ok pk (show -1 ≤ (day : Int) by omega) hd (m := (j : Int)) ⟨by omega, by omega⟩
    rw [if_pos hm, if_pos hm, hz]
    unfold dvS dkB
    rw [hov]
    by_cases h1 : planC s T day j = -1
    · rw [if_neg (fun x => x.2 h1), if_pos (by omega)]
    · rw [if_pos ⟨hm, h1⟩, if_neg (by omega)]
      unfold mkB lsS
      rw [Int.toNat_natCast, crew_at ok T k _ hj, crew_at ok T k _ hj, if_pos hm, if_pos hm, col_now ok pk k (by omega) (by omega), col_now ok pk k (by omega) hd]
  · rw [if_neg (fun x => hm x.1), if_neg hm, hz]
theorem madF_at {n c dy : Nat} {oc : Oc} (hdy : dy < c) : ∀ (ms : List Int) (t : List (List Int)), Shp n c t → (∀ m ∈ ms, 0 ≤ m ∧ m < n) → Shp n c (ms.foldl (madF dy oc) t) ∧ ∀ i j, i < n → j < c → ent (ms.foldl (madF dy oc) t) i j = if (i : Int) ∈ ms ∧ j = dy then g oc.made i else ent t i j
  | [], t, h, _ => ⟨h, fun i j _ _ => by simp⟩
  | m :: ms, t, h, hm => by
    rw [List.foldl_cons]
    have h1 := hm m (List.mem_cons_self ..)
    have h2 : m.toNat < n := by omega
    obtain ⟨r1, r2⟩ := madF_at (oc := oc) hdy ms (madF dy oc t m) (h.set h2 _ _) (fun q hx => hm q (List.mem_cons_of_mem _ hx))
    refine ⟨r1, fun i j hi hj => ?_⟩
    rw [r2 i j hi hj]
    by_cases hx : (i : Int) ∈ ms ∧ j = dy
    · rw [if_pos hx, if_pos ⟨List.mem_cons_of_mem _ hx.1, hx.2⟩]
    · rw [if_neg hx]
      unfold madF
      rw [ent_setRC _ (by rw [h.1]; exact h2) (by rw [h.row h2]; exact hdy)]
      by_cases he : i = m.toNat ∧ j = dy
      · rw [if_pos he, if_pos ⟨by rw [show (i : Int) = m by omega]; exact List.mem_cons_self .., he.2⟩, he.1]
      · rw [if_neg he, if_neg]
        rintro ⟨h6, h7⟩
        rcases List.mem_cons.1 h6 with h6 | h6
        · exact he ⟨by omega, h7⟩
        · exact hx ⟨h6, h7⟩
theorem madO_at {s : Sn} (ok : OkS s) {T : List (List Int)} (pk : PlOk s T) : ∀ (l : List Stn) (t : List (List Int)), (∀ x ∈ l, x ∈ stL s T) → Shp s.mks.length s.days.toNat t → Shp s.mks.length s.days.toNat (l.foldl (madOne s) t) ∧ ∀ i j, i < s.mks.length → j < s.days.toNat → ent (l.foldl (madOne s) t) i j = if (∃ x ∈ l, x.ov = ovOf s i ∧ x.day = j) then dvS s T i j else ent t i j
  | [], t, _, h => ⟨h, fun i j _ _ => by simp⟩
  | x :: l, t, hl, h => by
    obtain ⟨k, day, hk, hd, hx⟩ := stL_mem (hl x (List.mem_cons_self ..))
    have hdy := ok.days
    have hn := ok.nm
    rw [List.foldl_cons]
    have h0 := madF_at (oc := x.oc) (dy := x.day) (n := s.mks.length) (c := s.days.toNat) (by rw [hx]; exact hd) (mksAt s x.ov) t h (mksAt_ok s _)
    obtain ⟨r1, r2⟩ := madO_at ok pk l (madOne s t x) (fun y hy => hl y (List.mem_cons_of_mem _ hy)) h0.1
    refine ⟨r1, fun i j hi hj => ?_⟩
    rw [r2 i j hi hj]
    by_cases hy : ∃ y ∈ l, y.ov = ovOf s i ∧ y.day = j
    · rw [if_pos hy, if_pos]
      obtain ⟨y, hy, e⟩ := hy
      exact ⟨y, List.mem_cons_of_mem _ hy, e⟩
    · have h3 : ent (madOne s t x) i j = _ := h0.2 i j hi hj
      rw [if_neg hy, h3]
      subst hx
      by_cases he : ovOf s i = k ∧ j = day
      · have hm := (mem_mksAt ok hi).2 he.1
        have e3 := made_one ok pk (k := k) (day := day) (j := i) (by omega) (by omega)
        rw [if_pos hm] at e3
        rw [if_pos ⟨hm, he.2⟩, if_pos ⟨_, List.mem_cons_self .., he.1.symm, he.2.symm⟩, he.2]
        exact e3
      · rw [if_neg (fun x => he ⟨(mem_mksAt ok hi).1 x.1, x.2⟩), if_neg]
        rintro ⟨y, hq, e1, e2⟩
        rcases List.mem_cons.1 hq with rfl | hq
        · exact he ⟨e1.symm, e2.symm⟩
        · exact hy ⟨y, hq, e1, e2⟩
theorem ovOf_lt {s : Sn} (ok : OkS s) {m : Nat} (hm : m < s.mks.length) : ovOf s m < s.ovens.length := by
  have h1 := (ok.mkr _ (List.getElem_mem hm)).1
  have h2 : ovOf s m = (s.mks[m]).oven.toNat := by unfold ovOf; simp [List.getElem?_eq_getElem hm]
  omega
theorem made_tbl {s : Sn} (ok : OkS s) {T : List (List Int)} (pk : PlOk s T) : tblF (dvS s T) s.days.toNat s.mks.length = madK s T (stL s T).length := by
  have h := madO_at ok pk (stL s T) _ (fun _ hx => hx) (zT_shp s.mks.length s.days.toNat)
  unfold madK
  rw [List.take_length]
  refine shp_ext (tblF_shp _ _ _) h.1 (fun i j hi hj => ?_)
  rw [tblF_ent _ hi hj, h.2 i j hi hj, if_pos ⟨_, stOne_mem (ovOf_lt ok hi) hj, rfl, rfl⟩]
/-- what a day costs, as the program follows it. -/
theorem map_rng {α : Type} (d : α) (f : α → Int) (l : List α) : l.map f = (List.range l.length).map fun i => f (l.getD i d) :=
  List.ext_getElem (by simp) (fun i h1 h2 => by
    have hi : i < l.length := by simpa using h1
    simp [List.getD, List.getElem?_eq_getElem hi])
theorem cost_one {s : Sn} (ok : OkS s) {T : List (List Int)} (pk : PlOk s T) {k day : Nat} (hd : (day : Int) < s.days) : (stOne s T k day).oc.cost = dcS s T k day := by
  have hn := ok.nm
  show flC s (lostS s (colS s (dayC s T ((day : Int) - 1) (ovAt s k)) (mksAt s k)) (colS s (dayC s T day (ovAt s k)) (mksAt s k))).hi (dayC s T ((day : Int) - 1) (ovAt s k)) (dayC s T day (ovAt s k)) (mksAt s k) = _
  unfold dcS dyC flC lsS
  rw [col_now ok pk k (by omega) (by omega), col_now ok pk k (by omega) hd, map_rng 0]
  congr 2
  refine List.map_congr_left fun i hi => ?_
  have hi' : i < (mksAt s k).length := List.mem_range.1 hi
  have hmem : (mksAt s k).getD i 0 ∈ mksAt s k := by rw [getD_at hi']; exact List.getElem_mem hi'
  have h0 := mksAt_ok s k _ hmem
  have e1 : (nowD s T k ((day : Int) - 1)).getD i 0 = planC s T ((day : Int) - 1) ((mksAt s k).getD i 0) := by
    unfold nowD; rw [getD_at (by simpa using hi'), getD_at hi']; simp
  have e2 : (nowD s T k (day : Int)).getD i 0 = planC s T (day : Int) ((mksAt s k).getD i 0) := by
    unfold nowD; rw [getD_at (by simpa using hi'), getD_at hi']; simp
  rw [e1, e2]
  have hb := planC_bd ok pk (show -1 ≤ (day : Int) by omega) hd h0
  generalize (mksAt s k).getD i 0 = m at h0 hmem hb ⊢
  unfold mkC dkC
  have e3 : ((m.toNat : Nat) : Int) = m := by omega
  rw [crew_at ok T k _ (show m.toNat < 6 by omega), crew_at ok T k _ (show m.toNat < 6 by omega), e3, if_pos hmem, if_pos hmem]
  by_cases h1 : planC s T day m = -1
  · rw [if_pos h1, if_pos (by omega)]
  · rw [if_neg h1, if_neg (by omega)]
theorem cost_all {s : Sn} (ok : OkS s) {T : List (List Int)} (pk : PlOk s T) : csK s T s.days.toNat s.ovens.length 0 = costS s T := by
  have hdy := ok.days
  unfold csK costS costK
  rw [List.take_length]
  unfold stL
  rw [sum_flat]
  simp only [List.range_zero, List.map_nil, List.sum_nil, Int.add_zero]
  congr 1
  refine List.map_congr_left fun k _ => ?_
  unfold stX
  rw [List.map_map]
  congr 1
  refine List.map_congr_left fun d hd => ?_
  have := List.mem_range.1 hd
  exact (cost_one ok pk (by omega)).symm
/-- what orders get. -/
theorem plus_at {s : Sn} (day : Int) (x : Oc) {got : List Int} (hg : got.length = 8) : ∀ k, k ≤ 8 → ∀ i, i < 8 → g (plusK s got day x k) i = g got i + if i < k ∧ ¬ (odAt s i).due < day then addK x (odAt s i).art 6 else 0
  | 0, _, i, hi => by rw [if_neg (by omega)]; simp [plusK]
  | k + 1, hk, i, hi => by
    rw [plusK_step]
    have ih := plus_at (s := s) day x hg k (by omega) i hi
    unfold plStep
    by_cases hd : (odAt s k).due < day
    · rw [if_pos hd, ih]
      congr 1
      by_cases e : i < k ∧ ¬ (odAt s i).due < day
      · rw [if_pos e, if_pos ⟨by omega, e.2⟩]
      · rw [if_neg e, if_neg]
        rintro ⟨h1, h2⟩
        by_cases h3 : i = k
        · subst h3; exact h2 hd
        · exact e ⟨by omega, h2⟩
    · rw [if_neg hd, g_setL _ (by rw [plusK_len, hg]; omega)]
      by_cases h3 : i = k
      · subst h3
        rw [if_pos rfl, ih, if_neg (by omega), if_pos ⟨by omega, hd⟩]; omega
      · rw [if_neg h3, ih]
        congr 1
        by_cases e : i < k ∧ ¬ (odAt s i).due < day
        · rw [if_pos e, if_pos ⟨by omega, e.2⟩]
        · rw [if_neg e, if_neg (fun x => e ⟨by omega, x.2⟩)]
def gtV (s : Sn) (i : Nat) (x : Stn) : Int := if (odAt s i).due < (x.day : Int) then 0 else addK x.oc (odAt s i).art 6
theorem got_at {s : Sn} (ok : OkS s) {i : Nat} (hi : i < s.ods.length) : ∀ (l : List Stn) (c : List Int), c.length = 8 → g (l.foldl (fun c x => plusS s c x.day x.oc) c) i = g c i + (l.map (gtV s i)).sum
  | [], c, _ => by simp
  | x :: l, c, hc => by
    have h1 := ok.nd
    have h2 := ok.na
    rw [List.foldl_cons, got_at ok hi l _ (by unfold plusS; rw [plusK_len]; exact hc), List.map_cons, List.sum_cons]
    unfold plusS
    rw [plus_at _ _ hc _ (by omega) i (by omega)]
    unfold gtV
    by_cases e : (odAt s i).due < (x.day : Int)
    · rw [if_pos e, if_neg (fun q => q.2 e)]; omega
    · rw [if_neg e, if_pos ⟨hi, e⟩]; omega
/-- what a machine has made of an article on a day. -/
def piE (s : Sn) (T M : List (List Int)) (i m d : Nat) : Int := if ent T m d = (odAt s i).art then ent M m d else 0
theorem addK_one {s : Sn} (ok : OkS s) {T : List (List Int)} (pk : PlOk s T) {k day : Nat} (hd : (day : Int) < s.days) {i : Nat} (hi : i < s.ods.length) : addK (stOne s T k day).oc (odAt s i).art 6 = smF (fun m => if ovOf s m = k then piE s T (tblF (dvS s T) s.days.toNat s.mks.length) i m day else 0) s.mks.length := by
  have hn := ok.nm
  have hart : 0 ≤ (odAt s i).art := by
    have := (ok.od _ (List.getElem_mem hi)).1.1
    unfold odAt; simp [List.getElem?_eq_getElem hi]; exact this
  have hsh : ∀ j, j < 6 → g (stOne s T k day).oc.sh j = if (j : Int) ∈ mksAt s k then planC s T day j else -1 := fun j hj => crew_at ok T k day hj
  unfold addK
  show smF (fun m => if g (stOne s T k day).oc.sh m = (odAt s i).art then g (stOne s T k day).oc.made m else 0) 6 = _
  rw [smF_ext _ hn (fun j h1 h2 => by
    rw [hsh j h2, if_neg (show ¬ ((j : Int) ∈ mksAt s k) from fun hm => by have := (mksAt_ok s k _ hm).2; omega), if_neg (by omega)])]
  refine smF_congr fun j hj => ?_
  rw [hsh j (by omega), made_one ok pk hd (by omega)]
  by_cases hm : (j : Int) ∈ mksAt s k
  · rw [if_pos hm, if_pos hm, if_pos ((mem_mksAt ok hj).1 hm), planC_ent]
    unfold piE
    rw [tblF_ent _ hj (by omega)]
  · rw [if_neg hm, if_neg hm, if_neg (fun x => hm ((mem_mksAt ok hj).2 x)), if_neg (by omega)]
theorem got_sum {s : Sn} (ok : OkS s) {T : List (List Int)} (pk : PlOk s T) {i : Nat} (hi : i < s.ods.length) : g (gotS s T) i = smF (fun m => smF (piE s T (tblF (dvS s T) s.days.toNat s.mks.length) i m) ((odAt s i).due.toNat + 1)) s.mks.length := by
  have hdy := ok.days
  have hdue : 0 ≤ (odAt s i).due ∧ (odAt s i).due < s.days := by
    have := (ok.od _ (List.getElem_mem hi)).2.2.1
    unfold odAt; simp only [List.getElem?_eq_getElem hi, Option.getD_some]; exact this
  have hz : g z8 i = 0 := by
    have h1 := ok.nd
    have h2 := ok.na
    obtain rfl | rfl | rfl | rfl | rfl | rfl | rfl | rfl : i = 0 ∨ i = 1 ∨ i = 2 ∨ i = 3 ∨ i = 4 ∨ i = 5 ∨ i = 6 ∨ i = 7 := by omega
    all_goals rfl
  unfold gotS gotK
  rw [List.take_length, got_at ok hi _ _ rfl, hz, Int.zero_add]
  unfold stL
  rw [sum_flat]
  show smF (fun k => ((stX s T k).map (gtV s i)).sum) s.ovens.length = _
  have e1 : ∀ k, ((stX s T k).map (gtV s i)).sum = smF (fun m => if ovOf s m = k then smF (piE s T (tblF (dvS s T) s.days.toNat s.mks.length) i m) ((odAt s i).due.toNat + 1) else 0) s.mks.length := fun k => by
    unfold stX
    rw [List.map_map]
    show smF (fun d => gtV s i (stOne s T k d)) s.days.toNat = _
    rw [smF_congr (h := fun d => if d < (odAt s i).due.toNat + 1 then smF (fun m => if ovOf s m = k then piE s T (tblF (dvS s T) s.days.toNat s.mks.length) i m d else 0) s.mks.length else 0) (fun d hd => by
      unfold gtV
      show (if (odAt s i).due < (d : Int) then 0 else addK (stOne s T k d).oc (odAt s i).art 6) = _
      by_cases e : (odAt s i).due < (d : Int)
      · rw [if_pos e, if_neg (by omega)]
      · rw [if_neg e, if_pos (by omega), addK_one ok pk (by omega) hi]), smF_cut _ (by omega), smF_comm]
    refine smF_congr fun m hm => ?_
    by_cases e : ovOf s m = k
    · rw [if_pos e]; exact smF_congr fun d _ => if_pos e
    · rw [if_neg e]; exact smF_zero fun d _ => if_neg e
  rw [smF_congr (fun k _ => e1 k), smF_comm]
  refine smF_congr fun m hm => ?_
  exact smF_pick _ (ovOf_lt ok hm)
/-- what lacks of an order, so far. -/
def lkR (s : Sn) (T M : List (List Int)) (i k d : Nat) : Int := (odAt s i).qty - smF (fun m => smF (piE s T M i m) ((odAt s i).due.toNat + 1)) k - smF (piE s T M i k) d
def lkL (s : Sn) (T M : List (List Int)) (n : Nat) : List Int := (List.range n).map fun i => max (lkR s T M i s.mks.length 0) 0
theorem lkL_step (s : Sn) (T M : List (List Int)) (n : Nat) : lkL s T M (n + 1) = lkL s T M n ++ [max (lkR s T M n s.mks.length 0) 0] := by unfold lkL; rw [List.range_succ, List.map_append]; rfl
theorem lkL_len (s : Sn) (T M : List (List Int)) (n : Nat) : (lkL s T M n).length = n := by simp [lkL]
theorem lkR_day (s : Sn) (T M : List (List Int)) (i k d : Nat) : lkR s T M i k (d + 1) = lkR s T M i k d - piE s T M i k d := by unfold lkR; rw [smF_step]; omega
theorem lkR_mk (s : Sn) (T M : List (List Int)) (i k : Nat) : lkR s T M i (k + 1) 0 = lkR s T M i k ((odAt s i).due.toNat + 1) := by unfold lkR; rw [smF_step]; simp [smF]; omega
theorem lkR_zero (s : Sn) (T M : List (List Int)) (i : Nat) : lkR s T M i 0 0 = (odAt s i).qty := by simp [lkR, smF]
theorem lack_all {s : Sn} (ok : OkS s) {T : List (List Int)} (pk : PlOk s T) : lkL s T (tblF (dvS s T) s.days.toNat s.mks.length) s.ods.length = lackL s (gotS s T) := by
  unfold lkL lackL lackK
  refine List.map_congr_left fun i hi => ?_
  have hi' := List.mem_range.1 hi
  unfold lackI lkR
  rw [got_sum ok pk hi', Int.max_comm]
  simp [smF]
theorem piE_bd {s : Sn} {T M : List (List Int)} (hM : ∀ r ∈ M, ∀ x ∈ r, 0 ≤ x ∧ x ≤ 1000000) (i m d : Nat) : 0 ≤ piE s T M i m d ∧ piE s T M i m d ≤ 1000000 := by
  unfold piE
  split
  · unfold ent
    by_cases h1 : m < M.length
    · rw [getD_at h1]
      by_cases h2 : d < (M[m]).length
      · rw [getD_at h2]; exact hM _ (List.getElem_mem h1) _ (List.getElem_mem h2)
      · rw [List.getD_eq_getElem?_getD, List.getElem?_eq_none (by omega)]; simp
    · have e : M.getD m [] = [] := by rw [List.getD_eq_getElem?_getD, List.getElem?_eq_none (by omega)]; rfl
      rw [e]; simp
  · omega
theorem smF_bd {f : Nat → Int} {B : Int} (h : ∀ i, 0 ≤ f i ∧ f i ≤ B) : ∀ n, 0 ≤ smF f n ∧ smF f n ≤ B * n
  | 0 => by simp [smF]
  | n + 1 => by
    have h1 := smF_bd h n
    have h2 := h n
    rw [smF_step, show B * ((n + 1 : Nat) : Int) = B * n + B by rw [Int.natCast_add, Int.mul_add]; omega]; omega
theorem lkR_bd {s : Sn} (ok : OkS s) {T M : List (List Int)} (hM : ∀ r ∈ M, ∀ x ∈ r, 0 ≤ x ∧ x ≤ 1000000) (i : Nat) {k d : Nat} (hk : k ≤ 6) (hd : d ≤ 15) : -1000000000 ≤ lkR s T M i k d ∧ lkR s T M i k d ≤ 1000000 := by
  have h0 := odAt_bd ok i
  have hdu : (odAt s i).due.toNat ≤ 13 := by
    by_cases h : i < s.ods.length
    · have h1 := (ok.od _ (List.getElem_mem h)).2.2.1
      have h2 := ok.days
      unfold odAt; simp only [List.getElem?_eq_getElem h, Option.getD_some]; omega
    · unfold odAt; rw [List.getElem?_eq_none (by omega)]; simp
  have h1 := smF_bd (f := fun m => smF (piE s T M i m) ((odAt s i).due.toNat + 1)) (B := 14000000) (fun m => by
    have := smF_bd (fun d => piE_bd (s := s) (T := T) hM i m d) ((odAt s i).due.toNat + 1)
    omega) k
  have h2 := smF_bd (fun d => piE_bd (s := s) (T := T) hM i k d) d
  unfold lkR
  omega
/-- the cost with what is lacking. -/
def fnL (s : Sn) (l : List Int) (c : Int) (k : Nat) : Int := c + smF (fun i => l.getD i 0 * (odAt s i).pen) k
theorem fnL_step (s : Sn) (l : List Int) (c : Int) (k : Nat) : fnL s l c (k + 1) = fnL s l c k + l.getD k 0 * (odAt s k).pen := by unfold fnL; rw [smF_step]; omega
theorem fnL_zero (s : Sn) (l : List Int) (c : Int) : fnL s l c 0 = c := by simp [fnL, smF]
theorem fine_all (s : Sn) (T : List (List Int)) (c : Int) : fnL s (lackL s (gotS s T)) c s.ods.length = c + fineS s (gotS s T) := by
  unfold fnL fineS fineK
  congr 1
  refine smF_congr fun i hi => ?_
  congr 1
  unfold lackL lackK
  rw [getD_at (by simpa using hi)]
  simp
theorem fnL_bd {s : Sn} (ok : OkS s) {l : List Int} (hl : ∀ x ∈ l, 0 ≤ x ∧ x ≤ 1000000) {c : Int} (hc : 0 ≤ c ∧ c ≤ 300000000) : ∀ k, k ≤ 8 → 0 ≤ fnL s l c k ∧ fnL s l c k ≤ 300000000 + 1000000000000 * k
  | 0, _ => by rw [fnL_zero]; omega
  | k + 1, hk => by
    have h1 := fnL_bd ok hl hc k (by omega)
    have h2 : 0 ≤ l.getD k 0 ∧ l.getD k 0 ≤ 1000000 := by
      by_cases h : k < l.length
      · rw [getD_at h]; exact hl _ (List.getElem_mem h)
      · rw [List.getD, List.getElem?_eq_none (by omega)]; simp
    have h3 := mulb h2 (odAt_bd ok k).2
    rw [fnL_step]
    omega
end Go.Proofs.Ytdffhkbncencgaa
