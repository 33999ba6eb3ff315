/- The shifts are in order, and a plan keeps a season just if its crews are among them: the mathematics of PlanShifts; no statement is proved here. -/
import Derived.Test.YtdffhkbncencgaaPlStM
import Derived.Test.YtdffhkbncencgaaPlShi
import Derived.Test.YtdffhkbncencgaaPlSim
namespace Go.Proofs.Ytdffhkbncencgaa
open Go.RowKit Go.PlainAid
set_option linter.unusedVariables false
set_option linter.unusedSimpArgs false

/-- what is told keeps what machines outside of the rest have. -/
theorem tellL_keep {s : Sn} {lo hi : Int} {ms : List Int} : ∀ (rest : List Int) (c : List Int), c.length = 6 → (∀ m ∈ rest, 0 ≤ m ∧ m < 6) → ∀ c' ∈ tellL s lo hi ms rest c, c'.length = 6 ∧ ∀ j : Nat, (j : Int) ∉ rest → g c' j = g c j
  | [], c, hc, _, c', h => by
    unfold tellL at h
    split at h
    · cases h
    · split at h
      · cases h
      · rw [List.mem_singleton] at h; subst h; exact ⟨hc, fun _ _ => rfl⟩
  | m :: rest, c, hc, hm, c', h => by
    unfold tellL at h
    split at h
    · cases h
    · rw [List.mem_flatMap] at h
      obtain ⟨a, ha, h⟩ := h
      split at h
      · cases h
      · have hm0 := hm m (List.mem_cons_self ..)
        obtain ⟨h1, h2⟩ := tellL_keep rest _ (by rw [List.length_set]; exact hc) (fun q hq => hm q (List.mem_cons_of_mem _ hq)) c' h
        refine ⟨h1, fun j hj => ?_⟩
        rw [h2 j (fun x => hj (List.mem_cons_of_mem _ x)), g_set c hc (by omega), if_neg]
        intro e
        apply hj
        have : (j : Int) = m := by omega
        rw [this]
        exact List.mem_cons_self ..
theorem artsI_sorted (s : Sn) : (artsI s).Pairwise (· < ·) := by
  unfold artsI
  rw [List.pairwise_map]
  exact List.pairwise_lt_range.imp (fun h => by omega)
/-- the shifts come in order. -/
theorem tellL_sorted {s : Sn} {lo hi : Int} {ms : List Int} : ∀ (rest : List Int) (c : List Int), c.length = 6 → rest.Nodup → (∀ m ∈ rest, 0 ≤ m ∧ m < 6) → (tellL s lo hi ms rest c).Pairwise fun a b => aheadB (rest.map fun m => g a m.toNat) (rest.map fun m => g b m.toNat) = true
  | [], c, _, _, _ => by
    unfold tellL
    split
    · exact List.Pairwise.nil
    · split
      · exact List.Pairwise.nil
      · exact List.pairwise_singleton _ _
  | m :: rest, c, hc, hn, hm => by
    unfold tellL
    split
    · exact List.Pairwise.nil
    · have hm0 := hm m (List.mem_cons_self ..)
      have hnr := List.nodup_cons.1 hn
      have hmr := fun q hq => hm q (List.mem_cons_of_mem _ hq)
      have key : ∀ a c', c' ∈ (if skipB s m (colS s c ms) a = true then [] else tellL s lo hi ms rest (c.set m.toNat a)) → g c' m.toNat = a := fun a c' h => by
        split at h
        · cases h
        · have h2 := (tellL_keep rest _ (by rw [List.length_set]; exact hc) hmr c' h).2 m.toNat (by rw [show ((m.toNat : Nat) : Int) = m by omega]; exact hnr.1)
          rw [h2, g_set c hc (by omega), if_pos rfl]
      rw [List.pairwise_flatMap]
      refine ⟨fun a ha => ?_, ?_⟩
      · have hk := key a
        split
        · exact List.Pairwise.nil
        · rename_i hs
          rw [if_neg hs] at hk
          refine (tellL_sorted rest (c.set m.toNat a) (by rw [List.length_set]; exact hc) hnr.2 hmr).imp_of_mem ?_
          intro x y hx hy hxy
          simp only [List.map_cons]
          unfold aheadB
          rw [hk x hx, hk y hy, if_pos rfl]
          exact hxy
      · refine (artsI_sorted s).imp_of_mem ?_
        intro a b ha hb hab x hx y hy
        simp only [List.map_cons]
        unfold aheadB
        rw [key a x hx, key b y hy, if_neg (by omega)]
        exact decide_eq_true hab
theorem mksAt_nodup (s : Sn) (o : Int) : (mksAt s o).Nodup := by
  unfold mksAt atTo
  exact List.Pairwise.map Int.ofNat (fun a b h e => h (Int.ofNat.inj e)) (List.nodup_range.filter _)
theorem shL_sorted {s : Sn} (hn : s.mks.length ≤ 6) (k : Nat) : (shL (ovAt s k)).Pairwise fun a b => aheadB a b = true := by
  unfold shL
  rw [List.pairwise_map]
  exact tellL_sorted (mksAt s k) idleC rfl (mksAt_nodup s k) (fun m hm => by have := mksAt_ok s k m hm; omega)
theorem shL_next {s : Sn} (hn : s.mks.length ≤ 6) {k n : Nat} (h : n + 1 < (shL (ovAt s k)).length) : aheadB ((shL (ovAt s k)).getD n []) ((shL (ovAt s k)).getD (n + 1) []) = true := by
  have := List.pairwise_iff_getElem.1 (shL_sorted hn k) n (n + 1) (by omega) h (by omega)
  rw [getD_at (by omega), getD_at h]
  exact this
/-- what the plan has for the machines of a furnace on a day. -/
def nowL (s : Sn) (T : List (List Int)) (k day : Nat) : List Int := (mksAt s k).map fun m => planC s T (day : Int) m
def inB (s : Sn) (T : List (List Int)) (k day : Nat) : Bool := (shL (ovAt s k)).any fun r => decide (r = nowL s T k day)
theorem inB_may {s : Sn} (hn : s.mks.length ≤ 6) (T : List (List Int)) (k day : Nat) : inB s T k day = mayB s T (day : Int) (ovAt s k) := by
  unfold inB mayB shL
  rw [List.any_map]
  have hms : ∀ m ∈ mksAt s k, 0 ≤ m ∧ m < 6 := fun m hm => by have := mksAt_ok s k m hm; omega
  have hd := crewS_g (s := s) (T := T) (day := (day : Int)) (mksAt s k) idleC rfl hms
  have hdl := dayC_len s T (day : Int) (ovAt s k)
  refine Bool.eq_iff_iff.2 ?_
  simp only [List.any_eq_true, Function.comp, decide_eq_true_eq]
  refine exists_congr fun c => and_congr_right fun hc => ?_
  obtain ⟨hc6, hcj⟩ := tellL_keep (mksAt s k) idleC rfl hms c hc
  constructor
  · intro e
    have : c = dayC s T (day : Int) (ovAt s k) := cr_ext hc6 hdl (fun j hj => by
      have h1 : g (dayC s T (day : Int) (ovAt s k)) j = _ := hd j hj
      rw [h1]
      by_cases hm : (j : Int) ∈ mksAt s k
      · rw [if_pos hm]
        unfold shRow nowL at e
        have := List.map_inj_left.1 e (j : Int) hm
        simpa using this
      · rw [if_neg hm]
        exact hcj j hm)
    rw [this]
    unfold crEq
    simp
  · intro e
    have hce := crEq_eq hdl hc6 e
    rw [← hce]
    unfold shRow nowL
    refine List.map_congr_left fun m hm => ?_
    have h0 := hms m hm
    have h1 : g (dayC s T (day : Int) (ovAt s k)) m.toNat = _ := hd m.toNat (by omega)
    rw [h1, show ((m.toNat : Nat) : Int) = m by omega, if_pos (show m ∈ mksAt s (k : Int) from hm)]
theorem keepsB_iff {s : Sn} (hn : s.mks.length ≤ 6) (T : List (List Int)) : keepsB s T = true ↔ ∀ k day, k < s.ovens.length → day < s.days.toNat → inB s T k day = true := by
  unfold keepsB
  simp only [List.all_eq_true, List.mem_range]
  constructor
  · intro h k day hk hd
    rw [inB_may hn]
    exact h day hd _ (by unfold ovL; exact List.mem_map.2 ⟨k, List.mem_range.2 hk, rfl⟩)
  · intro h day hd o ho
    unfold ovL at ho
    obtain ⟨k, hk, rfl⟩ := List.mem_map.1 ho
    rw [← inB_may hn]
    exact h k day (List.mem_range.1 hk) hd
/-- all of the pairs ahead of (o, d), furnaces first. -/
def allS (s : Sn) (T : List (List Int)) (D o d : Nat) : Bool := ((List.range o).all fun k => (List.range D).all fun day => inB s T k day) && (List.range d).all fun day => inB s T o day
theorem allS_zero (s : Sn) (T : List (List Int)) (D : Nat) : allS s T D 0 0 = true := by simp [allS]
theorem allS_day (s : Sn) (T : List (List Int)) (D o d : Nat) : allS s T D o (d + 1) = (allS s T D o d && inB s T o d) := by
  unfold allS; rw [List.range_succ, List.all_append]; simp [Bool.and_assoc]
theorem allS_oven (s : Sn) (T : List (List Int)) (D o : Nat) : allS s T D (o + 1) 0 = allS s T D o D := by
  unfold allS; rw [List.range_succ, List.all_append]; simp
theorem allS_full {s : Sn} (hn : s.mks.length ≤ 6) (T : List (List Int)) : allS s T s.days.toNat s.ovens.length 0 = keepsB s T := by
  rw [Bool.eq_iff_iff, keepsB_iff hn]
  unfold allS
  simp only [List.range_zero, List.all_nil, Bool.and_true, List.all_eq_true, List.mem_range]
  exact ⟨fun h k day hk hd => h k hk day hd, fun h k hk day hd => h k day hk hd⟩
/-- what was found among the first n rows. -/
def inTo (s : Sn) (T : List (List Int)) (k day n : Nat) : Bool := ((shL (ovAt s k)).take n).any fun r => decide (r = nowL s T k day)
theorem inTo_step {s : Sn} {T : List (List Int)} {k day n : Nat} (h : n < (shL (ovAt s k)).length) : inTo s T k day (n + 1) = (inTo s T k day n || decide ((shL (ovAt s k)).getD n [] = nowL s T k day)) := by
  unfold inTo; rw [List.take_succ_eq_append_getElem h, List.any_append, getD_at h]; simp
theorem inTo_full (s : Sn) (T : List (List Int)) (k day : Nat) : inTo s T k day (shL (ovAt s k)).length = inB s T k day := by
  unfold inTo inB; rw [List.take_length]
/-- the list that the law makes. -/
def nowTo (s : Sn) (T : List (List Int)) (k day n : Nat) : List Int := (atTo s k n).map fun m => planC s T (day : Int) m
theorem nowTo_step {s : Sn} {T : List (List Int)} {k day n : Nat} (h : n < s.mks.length) : nowTo s T k day (n + 1) = nowTo s T k day n ++ (if s.mks[n].oven = (k : Int) then [ent T n day] else []) := by
  unfold nowTo
  rw [atTo_step h, List.map_append]
  split
  · simp only [List.map_cons, List.map_nil, planC_ent]
  · simp
theorem nowTo_full (s : Sn) (T : List (List Int)) (k day : Nat) : nowTo s T k day s.mks.length = nowL s T k day := rfl
theorem nowTo_len (s : Sn) (T : List (List Int)) (k day n : Nat) : (nowTo s T k day n).length ≤ n := by
  unfold nowTo; rw [List.length_map]; exact atTo_len s (k : Int) n
theorem shL_shp (o : Ovn) : Shp o.sh.length o.ms.length (shL o) := ⟨by unfold shL; simp, fun r hr => by
  unfold shL at hr
  obtain ⟨c, -, rfl⟩ := List.mem_map.1 hr
  exact shRow_len o c⟩
end Go.Proofs.Ytdffhkbncencgaa
