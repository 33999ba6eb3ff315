/- What lies in the tables of pulls and of what is made: the mathematics of PlanStands and TopPulled; no statement is proved here. -/
import Derived.Test.YtdffhkbncencgaaPlMad
namespace Go.Proofs.Ytdffhkbncencgaa
open Go.RowKit Go.PlainAid
set_option linter.unusedVariables false
set_option linter.unusedSimpArgs false

/-- the entry of a table. -/
def ent (t : List (List Int)) (i j : Nat) : Int := (t.getD i []).getD j 0
theorem ent_setRC {t : List (List Int)} {i j : Nat} (v : Int) (hi : i < t.length) (hj : j < (t.getD i []).length) (a b : Nat) : ent (setRC t i j v) a b = if a = i ∧ b = j then v else ent t a b := by
  unfold ent setRC
  by_cases ha : a = i
  · subst ha
    have h1 : (t.set a ((t.getD a []).set j v)).getD a [] = (t.getD a []).set j v := by simp [List.getD, hi]
    rw [h1]
    by_cases hb : b = j
    · subst hb
      rw [if_pos ⟨rfl, rfl⟩]
      simp only [List.getD_eq_getElem?_getD] at hj ⊢
      simp [hj]
    · rw [if_neg (fun h => hb h.2)]
      simp [List.getD, List.getElem?_set, Ne.symm hb]
  · rw [if_neg (fun h => ha h.1)]
    have h1 : (t.set i ((t.getD i []).set j v)).getD a [] = t.getD a [] := by simp [List.getD, List.getElem?_set, Ne.symm ha]
    rw [h1]
/-- a table of n rows, each c long. -/
def Shp (n c : Nat) (t : List (List Int)) : Prop := t.length = n ∧ ∀ r ∈ t, r.length = c
theorem Shp.row {n c : Nat} {t : List (List Int)} (h : Shp n c t) {i : Nat} (hi : i < n) : (t.getD i []).length = c := by
  have hi' : i < t.length := by rw [h.1]; exact hi
  simp only [List.getD_eq_getElem?_getD, List.getElem?_eq_getElem hi', Option.getD_some]
  exact h.2 _ (List.getElem_mem hi')
theorem Shp.set {n c : Nat} {t : List (List Int)} (h : Shp n c t) {i : Nat} (hi : i < n) (j : Nat) (v : Int) : Shp n c (setRC t i j v) := by
  refine ⟨by rw [setRC_len]; exact h.1, fun r hr => ?_⟩
  unfold setRC at hr
  rcases List.mem_or_eq_of_mem_set hr with h1 | rfl
  · exact h.2 r h1
  · rw [List.length_set]; exact h.row hi
theorem zT_shp (n c : Nat) : Shp n c (zT n c) := ⟨by simp [zT], fun r hr => by unfold zT at hr; rw [List.mem_replicate] at hr; rw [hr.2]; simp⟩
theorem ent_zT (n c i j : Nat) : ent (zT n c) i j = 0 := by
  unfold ent zT
  simp only [List.getD_eq_getElem?_getD, List.getElem?_replicate]
  split
  · simp only [Option.getD_some, List.getElem?_replicate]
    split <;> rfl
  · rfl

/-- the shifts that are told pull what they may. -/
theorem tellL_pull {s : Sn} {lo hi : Int} {ms : List Int} : ∀ (rest : List Int) (c : List Int), ∀ c' ∈ tellL s lo hi ms rest c, lo ≤ pullS s c' ms ∧ pullS s c' ms ≤ hi
  | [], c, c', h => by
    unfold tellL at h
    split at h
    · cases h
    · split at h
      · cases h
      · rw [List.mem_singleton] at h; subst h; omega
  | m :: rest, c, c', h => by
    unfold tellL at h
    split at h
    · cases h
    · rw [List.mem_flatMap] at h
      obtain ⟨a, ha, h⟩ := h
      split at h
      · cases h
      · exact tellL_pull rest _ c' h
theorem crEq_eq {c x : List Int} (hc : c.length = 6) (hx : x.length = 6) (h : crEq c x = true) : c = x := by
  unfold crEq at h
  simp only [Bool.and_eq_true, beq_iff_eq] at h
  obtain ⟨h0, h1, h2, h3, h4, h5⟩ := h
  refine cr_ext hc hx (fun m hm => ?_)
  obtain rfl | rfl | rfl | rfl | rfl | rfl : m = 0 ∨ m = 1 ∨ m = 2 ∨ m = 3 ∨ m = 4 ∨ m = 5 := by omega
  all_goals assumption
theorem dayC_len (s : Sn) (T : List (List Int)) (day : Int) (o : Ovn) : (dayC s T day o).length = 6 := by unfold dayC; rw [crewS_len]; rfl
/-- in a kept plan each crew is one of its furnace's shifts, and pulls what it may. -/
theorem kept_may {s : Sn} {T : List (List Int)} (ok : OkS s) (hk : keepsB s T = true) {k day : Nat} (hkk : k < s.ovens.length) (hd : day < s.days.toNat) : dayC s T day (ovAt s k) ∈ (ovAt s k).sh := by
  unfold keepsB at hk
  rw [List.all_eq_true] at hk
  have h1 := hk day (List.mem_range.2 hd)
  rw [List.all_eq_true] at h1
  have h2 := h1 (ovAt s k) (by unfold ovL; exact List.mem_map.2 ⟨k, List.mem_range.2 hkk, rfl⟩)
  unfold mayB at h2
  rw [List.any_eq_true] at h2
  obtain ⟨c, hc, he⟩ := h2
  have hc6 := (ovAt_ok ok.nm k c hc).1
  rw [crEq_eq (dayC_len s T day _) hc6 he]
  exact hc
theorem kept_pull {s : Sn} {T : List (List Int)} (ok : OkS s) (hk : keepsB s T = true) {k day : Nat} (hkk : k < s.ovens.length) (hd : day < s.days.toNat) : (s.ovens[k]).lo ≤ pullS s (dayC s T day (ovAt s k)) (ovAt s k).ms ∧ pullS s (dayC s T day (ovAt s k)) (ovAt s k).ms ≤ (s.ovens[k]).hi := by
  have h1 := kept_may ok hk hkk hd
  unfold ovAt at h1 ⊢
  simp only [List.getElem?_eq_getElem hkk, Option.getD_some] at h1 ⊢
  exact tellL_pull _ _ _ h1

/-- the table of pulls. -/
theorem pulF_ent {s : Sn} {T : List (List Int)} {n c : Nat} (f : Nat → Nat → Int) : ∀ (l : List Stn) (t : List (List Int)), Shp n c t → (∀ x ∈ l, x.ov < n ∧ x.day < c ∧ pullS s x.oc.sh (ovAt s x.ov).ms = f x.ov x.day) → Shp n c (l.foldl (pulOne s) t) ∧ ∀ i j, ent (l.foldl (pulOne s) t) i j = if (∃ x ∈ l, x.ov = i ∧ x.day = j) then f i j else ent t i j
  | [], t, h, _ => ⟨h, fun i j => by simp⟩
  | x :: l, t, h, hl => by
    obtain ⟨h1, h2, h3⟩ := hl x (List.mem_cons_self ..)
    obtain ⟨r1, r2⟩ := pulF_ent (T := T) f l (pulOne s t x) (h.set h1 _ _) (fun y hy => hl y (List.mem_cons_of_mem _ hy))
    refine ⟨r1, fun i j => ?_⟩
    rw [List.foldl_cons, r2 i j]
    by_cases hx : ∃ y ∈ l, y.ov = i ∧ y.day = j
    · rw [if_pos hx, if_pos]
      obtain ⟨y, hy, e⟩ := hx
      exact ⟨y, List.mem_cons_of_mem _ hy, e⟩
    · rw [if_neg hx]
      unfold pulOne
      rw [ent_setRC _ (by rw [h.1]; exact h1) (by rw [h.row h1]; exact h2)]
      by_cases he : i = x.ov ∧ j = x.day
      · obtain ⟨rfl, rfl⟩ := he
        rw [if_pos ⟨rfl, rfl⟩, if_pos ⟨x, List.mem_cons_self .., rfl, rfl⟩, h3]
      · rw [if_neg he, if_neg]
        rintro ⟨y, hy, e1, e2⟩
        rcases List.mem_cons.1 hy with rfl | hy
        · exact he ⟨e1.symm, e2.symm⟩
        · exact hx ⟨y, hy, e1, e2⟩
theorem stOne_mem {s : Sn} {T : List (List Int)} {k day : Nat} (hk : k < s.ovens.length) (hd : day < s.days.toNat) : stOne s T k day ∈ stL s T := by
  unfold stL stX
  exact List.mem_flatMap.2 ⟨k, List.mem_range.2 hk, List.mem_map.2 ⟨day, List.mem_range.2 hd, rfl⟩⟩
theorem pulS_ent (s : Sn) (T : List (List Int)) : Shp s.ovens.length s.days.toNat (pulK s T (stL s T).length) ∧ ∀ k day, k < s.ovens.length → day < s.days.toNat → ent (pulK s T (stL s T).length) k day = pullS s (dayC s T day (ovAt s k)) (ovAt s k).ms := by
  have h := pulF_ent (s := s) (T := T) (fun i j => pullS s (dayC s T (j : Int) (ovAt s i)) (ovAt s i).ms) (stL s T) _ (zT_shp s.ovens.length s.days.toNat) (fun x hx => by
    obtain ⟨k, day, hk, hd, rfl⟩ := stL_mem hx
    exact ⟨hk, hd, rfl⟩)
  unfold pulK
  rw [List.take_length]
  refine ⟨h.1, fun k day hk hd => ?_⟩
  rw [h.2 k day, if_pos ⟨_, stOne_mem hk hd, rfl, rfl⟩]
/-- the crew of a day has what the plan says. -/
theorem crewS_g {s : Sn} {T : List (List Int)} {day : Int} : ∀ (ms : List Int) (c : List Int), c.length = 6 → (∀ m ∈ ms, 0 ≤ m ∧ m < 6) → ∀ j, j < 6 → g (crewS s T day ms c) j = if (j : Int) ∈ ms then planC s T day j else g c j
  | [], c, _, _, j, _ => by simp [crewS]
  | m :: ms, c, hc, hm, j, hj => by
    have h1 := hm m (List.mem_cons_self ..)
    have h2 := crewS_g (s := s) (T := T) (day := day) ms (c.set m.toNat (planC s T day m)) (by rw [List.length_set]; exact hc) (fun q hq => hm q (List.mem_cons_of_mem _ hq)) j hj
    unfold crewS at h2 ⊢
    rw [List.foldl_cons, h2]
    by_cases h3 : (j : Int) ∈ ms
    · rw [if_pos h3, if_pos (List.mem_cons_of_mem _ h3)]
    · rw [if_neg h3, g_set c hc (by omega)]
      by_cases h4 : j = m.toNat
      · have h5 : (j : Int) = m := by omega
        rw [if_pos h4, if_pos (by rw [h5]; exact List.mem_cons_self ..), h5]
      · rw [if_neg h4, if_neg]
        intro h6
        rcases List.mem_cons.1 h6 with h6 | h6
        · omega
        · exact h3 h6
/-- what a machine makes is at most its rate, and nothing without an article. -/
def MadP (s : Sn) (n : Nat) (a v : Int) : Prop := 0 ≤ v ∧ (a = -1 → v = 0) ∧ (a ≠ -1 → v ≤ rate s n a)
theorem MadP.zero {s : Sn} (ok : OkS s) (n : Nat) (a : Int) : MadP s n a 0 := ⟨Int.le_refl _, fun _ => rfl, fun _ => (rate_bd ok n a).1⟩
theorem flM_madP {s : Sn} (ok : OkS s) {L : Int} (hL : 0 ≤ L) (bef now : List Int) {ms : List Int} (hm : MsOk s ms) : ∀ n, n < 6 → MadP s n (g now n) (g (flM s L bef now ms) n) := by
  unfold flM
  suffices ∀ (l : List Int) (c : List Int), MsOk s l → (c.length = 6 ∧ ∀ n, n < 6 → MadP s n (g now n) (g c n)) → ∀ n, n < 6 → MadP s n (g now n) (g (l.foldl (fun c m => if g now m.toNat = -1 then c else c.set m.toNat (mkB s L bef now m)) c) n) from this ms z6 hm ⟨rfl, fun n hn => by
    have : g z6 n = 0 := by
      obtain rfl | rfl | rfl | rfl | rfl | rfl : n = 0 ∨ n = 1 ∨ n = 2 ∨ n = 3 ∨ n = 4 ∨ n = 5 := by omega
      all_goals rfl
    rw [this]; exact MadP.zero ok n _⟩
  intro l
  induction l with
  | nil => intro c _ hc; exact hc.2
  | cons a l ih =>
    intro c hl hc
    rw [List.foldl_cons]
    refine ih _ (fun q hq => hl q (List.mem_cons_of_mem _ hq)) ?_
    split
    · exact hc
    · rename_i hne
      have h1 := mkB_bd ok hL bef now a
      have h3 := hl a (List.mem_cons_self ..)
      have h4 := ok.nm
      refine ⟨by rw [List.length_set]; exact hc.1, fun n hn => ?_⟩
      rw [g_set c hc.1 (by omega)]
      split
      · rename_i e
        subst e
        have e2 : ((a.toNat : Nat) : Int) = a := by omega
        refine ⟨h1.1, fun x => absurd x hne, fun _ => ?_⟩
        rw [e2]
        exact h1.2
      · exact hc.2 n hn
theorem madF_ent {n c dy : Nat} {oc : Oc} {Q : Nat → Nat → Int → Prop} (hdy : dy < c) : ∀ (ms : List Int) (t : List (List Int)), Shp n c t → (∀ m ∈ ms, 0 ≤ m ∧ m < n) → (∀ m ∈ ms, Q m.toNat dy (g oc.made m.toNat)) → (∀ i j, i < n → j < c → Q i j (ent t i j)) → Shp n c (ms.foldl (madF dy oc) t) ∧ ∀ i j, i < n → j < c → Q i j (ent (ms.foldl (madF dy oc) t) i j)
  | [], t, h, _, _, hq => ⟨h, hq⟩
  | m :: ms, t, h, hm, hv, hq => by
    rw [List.foldl_cons]
    have h1 := hm m (List.mem_cons_self ..)
    have h2 : m.toNat < n := by omega
    refine madF_ent hdy ms _ (h.set h2 _ _) (fun q hx => hm q (List.mem_cons_of_mem _ hx)) (fun q hx => hv q (List.mem_cons_of_mem _ hx)) (fun i j hi hj => ?_)
    unfold madF
    rw [ent_setRC _ (by rw [h.1]; exact h2) (by rw [h.row h2]; exact hdy)]
    split
    · rename_i e
      rw [e.1, e.2]
      exact hv m (List.mem_cons_self ..)
    · exact hq i j hi hj
theorem madS_ent {s : Sn} (ok : OkS s) (T : List (List Int)) : Shp s.mks.length s.days.toNat (madK s T (stL s T).length) ∧ ∀ n day, n < s.mks.length → day < s.days.toNat → MadP s n (planC s T (day : Int) (n : Int)) (ent (madK s T (stL s T).length) n day) := by
  unfold madK
  rw [List.take_length]
  suffices ∀ (l : List Stn) (t : List (List Int)), (∀ x ∈ l, x ∈ stL s T) → Shp s.mks.length s.days.toNat t → (∀ i j, i < s.mks.length → j < s.days.toNat → MadP s i (planC s T (j : Int) (i : Int)) (ent t i j)) → Shp s.mks.length s.days.toNat (l.foldl (madOne s) t) ∧ ∀ i j, i < s.mks.length → j < s.days.toNat → MadP s i (planC s T (j : Int) (i : Int)) (ent (l.foldl (madOne s) t) i j) from this _ _ (fun x hx => hx) (zT_shp _ _) (fun i j _ _ => by rw [ent_zT]; exact MadP.zero ok i _)
  intro l
  induction l with
  | nil => intro t _ h hq; exact ⟨h, hq⟩
  | cons x l ih =>
    intro t hl h hq
    rw [List.foldl_cons]
    obtain ⟨k, day, hk, hd, rfl⟩ := stL_mem (hl x (List.mem_cons_self ..))
    have hms := mksAt_ok s k
    have hn := ok.nm
    have hb := lostS_bd ok (colS s (dayC s T ((day : Int) - 1) (ovAt s k)) (mksAt s k)) (colS s (dayC s T day (ovAt s k)) (mksAt s k))
    have hf := flM_madP ok hb.1.1 (dayC s T ((day : Int) - 1) (ovAt s k)) (dayC s T day (ovAt s k)) hms
    have hr := madF_ent (n := s.mks.length) (c := s.days.toNat) (dy := day) (oc := (stOne s T k day).oc) (Q := fun i j v => MadP s i (planC s T (j : Int) (i : Int)) v) hd (mksAt s k) t h hms (fun m hm => by
      have h0 := hms m hm
      have h1 := hf m.toNat (by omega)
      have h2 := crewS_g (s := s) (T := T) (day := (day : Int)) (mksAt s k) idleC rfl (fun q hq => by have := hms q hq; omega) m.toNat (by omega)
      have e2 : ((m.toNat : Nat) : Int) = m := by omega
      rw [e2, if_pos hm] at h2
      have h3 : g (dayC s T (day : Int) (ovAt s k)) m.toNat = planC s T (day : Int) m := h2
      rw [h3] at h1
      show MadP s m.toNat (planC s T (day : Int) ((m.toNat : Nat) : Int)) _
      rw [e2]
      exact h1) hq
    exact ih _ (fun y hy => hl y (List.mem_cons_of_mem _ hy)) hr.1 hr.2
end Go.Proofs.Ytdffhkbncencgaa
