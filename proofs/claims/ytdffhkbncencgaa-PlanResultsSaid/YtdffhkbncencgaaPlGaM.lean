/- The shifts by the specification are those that are told: the mathematics; no statement is proved here. -/
import Derived.Test.YtdffhkbncencgaaPlRY
import Derived.Test.YtdffhkbncencgaaPlShM
namespace Go.Proofs.Ytdffhkbncencgaa
open Go.RowKit Go.PlainAid
set_option linter.unusedVariables false
set_option linter.unusedSimpArgs false

/-- what is gathered behind some articles, with so many places to come. -/
def gatL (s : Sn) (k : Nat) : Nat → List Int → List (List Int)
  | 0, l => if mayL s k l = true then [l] else []
  | r + 1, l => (artsI s).flatMap fun a => gatL s k r (l ++ [a])
theorem gatL_zero (s : Sn) (k : Nat) (l : List Int) : gatL s k 0 l = if mayL s k l = true then [l] else [] := rfl
theorem gatL_succ (s : Sn) (k r : Nat) (l : List Int) : gatL s k (r + 1) l = (artsI s).flatMap fun a => gatL s k r (l ++ [a]) := rfl
theorem colL_cons (s : Sn) (a : Int) (l : List Int) : colL s (a :: l) = if a < 0 then colL s l else colr s a := rfl
theorem colS_cons (s : Sn) (c : List Int) (m : Int) (r : List Int) : colS s c (m :: r) = if g c m.toNat = -1 then colS s c r else colr s (g c m.toNat) := rfl
def addZ (s : Sn) (m a : Int) : Int := if a < 0 then 0 else rate s m a * wgt s a
def sumZ (s : Sn) : List Int → List Int → Int
  | m :: ms, a :: l => addZ s m a + sumZ s ms l
  | _, _ => 0
def plaZ (s : Sn) (c m a : Int) : Bool := decide (a < 0) || (!decide (rate s m a = 0) && decide (colr s a = c))
def allZ (s : Sn) (c : Int) : List Int → List Int → Bool
  | m :: ms, a :: l => plaZ s c m a && allZ s c ms l
  | _, _ => true
theorem sumL_Z (s : Sn) : ∀ (l ms : List Int), l.length ≤ ms.length → sumL s ms l l.length = sumZ s ms l
  | [], ms, _ => by cases ms <;> simp [sumL, sumZ]
  | a :: l, [], h => by simp at h
  | a :: l, m :: ms, h => by
    have ih := sumL_Z s l ms (by simpa using h)
    unfold sumL at ih ⊢
    rw [List.length_cons, List.range_succ_eq_map, List.map_cons, List.sum_cons, List.map_map, sumZ, ← ih]
    rfl
theorem place_Z (s : Sn) (c : Int) : ∀ (l ms : List Int), l.length ≤ ms.length → (List.range l.length).all (placeB s ms c l) = allZ s c ms l
  | [], ms, _ => by cases ms <;> simp [allZ]
  | a :: l, [], h => by simp at h
  | a :: l, m :: ms, h => by
    have ih := place_Z s c l ms (by simpa using h)
    rw [List.length_cons, List.range_succ_eq_map, List.all_cons, List.all_map, allZ, ← ih]
    rfl
theorem mayL_Z {s : Sn} {k : Nat} {l : List Int} (h : l.length ≤ (mksAt s k).length) : mayL s k l = (allZ s (colL s l) (mksAt s k) l && btw (sumZ s (mksAt s k) l / 10000) (ovAt s k).x.lo (ovAt s k).x.hi) := by
  unfold mayL
  rw [place_Z s _ l _ h, sumL_Z s l _ h]
theorem sumZ_app (s : Sn) : ∀ (pre l ms l' : List Int), l.length = pre.length → sumZ s (pre ++ ms) (l ++ l') = sumZ s pre l + sumZ s ms l'
  | [], [], ms, l', _ => by simp [sumZ]
  | [], a :: l, ms, l', h => by simp at h
  | m :: pre, [], ms, l', h => by simp at h
  | m :: pre, a :: l, ms, l', h => by
    have := sumZ_app s pre l ms l' (by simpa using h)
    simp only [List.cons_append, sumZ]
    omega
theorem allZ_app (s : Sn) (c : Int) : ∀ (pre l ms l' : List Int), l.length = pre.length → allZ s c (pre ++ ms) (l ++ l') = (allZ s c pre l && allZ s c ms l')
  | [], [], ms, l', _ => by simp [allZ]
  | [], a :: l, ms, l', h => by simp at h
  | m :: pre, [], ms, l', h => by simp at h
  | m :: pre, a :: l, ms, l', h => by
    have := allZ_app s c pre l ms l' (by simpa using h)
    simp only [List.cons_append, allZ, this, Bool.and_assoc]
theorem addZ_bd {s : Sn} (ok : OkS s) (m a : Int) : 0 ≤ addZ s m a := by
  unfold addZ
  split
  · exact Int.le_refl _
  · exact Int.mul_nonneg (rate_bd ok m a).1 (wgt_bd ok a).1
theorem artsI_mem {s : Sn} {a : Int} (h : a ∈ artsI s) : -1 ≤ a ∧ a < s.arts.length := by
  unfold artsI at h
  obtain ⟨i, hi, rfl⟩ := List.mem_map.1 h
  have := List.mem_range.1 hi
  omega
theorem colr_pos {s : Sn} (ok : OkS s) {a : Int} (h0 : 0 ≤ a) (h : a < s.arts.length) : 0 ≤ colr s a := by
  obtain ⟨n, rfl⟩ := Int.eq_ofNat_of_zero_le h0
  have hn : n < s.arts.length := by omega
  rw [colr_at8 hn]
  exact (ok.art _ (List.getElem_mem hn)).1.1
theorem colL_app {s : Sn} (ok : OkS s) : ∀ (l : List Int) (a : Int), ShOk s l → colL s (l ++ [a]) = if colL s l = -1 then (if a < 0 then -1 else colr s a) else colL s l
  | [], a, _ => by simp [colL]
  | b :: l, a, h => by
    have ih := colL_app ok l a (fun x hx => h x (List.mem_cons_of_mem _ hx))
    rw [List.cons_append, colL_cons, colL_cons]
    by_cases hb : b < 0
    · simp only [if_pos hb]
      exact ih
    · simp only [if_neg hb]
      rw [if_neg]
      have := colr_pos ok (show 0 ≤ b by omega) (h b (List.mem_cons_self ..)).2
      omega
theorem colL_none {s : Sn} (ok : OkS s) : ∀ (l pre : List Int) (c : Int), ShOk s l → colL s l = -1 → allZ s c pre l = true
  | [], pre, c, _, _ => by cases pre <;> rfl
  | b :: l, [], c, _, _ => rfl
  | b :: l, m :: pre, c, h, hc => by
    unfold colL at hc
    by_cases hb : b < 0
    · rw [if_pos hb] at hc
      unfold allZ plaZ
      rw [decide_eq_true hb, colL_none ok l pre c (fun x hx => h x (List.mem_cons_of_mem _ hx)) hc]
      rfl
    · rw [if_neg hb] at hc
      have := colr_pos ok (show 0 ≤ b by omega) (h b (List.mem_cons_self ..)).2
      omega
theorem ShOk.app {s : Sn} {l : List Int} (h : ShOk s l) {a : Int} (ha : a ∈ artsI s) : ShOk s (l ++ [a]) := fun x hx => by
  rcases List.mem_append.1 hx with hx | hx
  · exact h x hx
  · rw [List.mem_singleton] at hx; subst hx; exact artsI_mem ha
theorem sum_one (s : Sn) (m a : Int) : sumZ s [m] [a] = addZ s m a := by simp [sumZ]
theorem all_one (s : Sn) (c m a : Int) : allZ s c [m] [a] = plaZ s c m a := by simp [allZ]
theorem flat_none {α β : Type} {l : List α} {f : α → List β} (h : ∀ a ∈ l, f a = []) : l.flatMap f = [] := by
  rw [List.flatMap_eq_nil_iff]; exact h
/-- what weighs too much already. -/
theorem gat_over {s : Sn} (ok : OkS s) {k : Nat} : ∀ (rest pre l : List Int), mksAt s k = pre ++ rest → l.length = pre.length → (ovAt s k).x.hi < sumZ s pre l / 10000 → gatL s k rest.length l = []
  | [], pre, l, hm, hl, hh => by
    rw [List.append_nil] at hm
    rw [List.length_nil, gatL_zero, mayL_Z (by rw [hm, hl]; exact Nat.le_refl _), hm, if_neg]
    intro h
    rw [Bool.and_eq_true] at h
    have := btw_true.1 h.2
    omega
  | m :: rest, pre, l, hm, hl, hh => by
    rw [List.length_cons, gatL_succ]
    refine flat_none fun a ha => gat_over ok rest (pre ++ [m]) (l ++ [a]) (by rw [hm]; simp) (by simp [hl]) ?_
    rw [sumZ_app s pre l [m] [a] hl, sum_one]
    have := addZ_bd ok m a
    omega
/-- what has a place that may not be. -/
theorem gat_bad {s : Sn} (ok : OkS s) {k : Nat} : ∀ (rest pre l : List Int), mksAt s k = pre ++ rest → l.length = pre.length → ShOk s l → colL s l ≠ -1 → allZ s (colL s l) pre l = false → gatL s k rest.length l = []
  | [], pre, l, hm, hl, hs, hc, hh => by
    rw [List.append_nil] at hm
    rw [List.length_nil, gatL_zero, mayL_Z (by rw [hm, hl]; exact Nat.le_refl _), hm, hh]
    rfl
  | m :: rest, pre, l, hm, hl, hs, hc, hh => by
    rw [List.length_cons, gatL_succ]
    refine flat_none fun a ha => ?_
    have hcc := colL_app ok l a hs
    rw [if_neg hc] at hcc
    refine gat_bad ok rest (pre ++ [m]) (l ++ [a]) (by rw [hm]; simp) (by simp [hl]) (hs.app ha) (by rw [hcc]; exact hc) ?_
    rw [hcc, allZ_app s _ pre l [m] [a] hl, hh]
    rfl
theorem colS_Z {s : Sn} {c : List Int} (hg : ∀ j : Nat, -1 ≤ g c j) : ∀ (pre rest : List Int), (∀ m ∈ rest, g c m.toNat = -1) → colS s c (pre ++ rest) = colL s (pre.map fun m => g c m.toNat)
  | [], [], _ => rfl
  | [], m :: rest, h => by
    have ih := colS_Z (s := s) hg [] rest (fun q hq => h q (List.mem_cons_of_mem _ hq))
    simp only [List.nil_append] at ih ⊢
    rw [colS_cons, if_pos (h m (List.mem_cons_self ..)), ih]
  | m :: pre, rest, h => by
    have ih := colS_Z (s := s) hg pre rest h
    rw [List.cons_append, List.map_cons, colS_cons, colL_cons]
    have := hg m.toNat
    by_cases h1 : g c m.toNat = -1
    · rw [if_pos h1, if_pos (by omega), ih]
    · rw [if_neg h1, if_neg (by omega)]
theorem sumP_Z {s : Sn} {c : List Int} (hg : ∀ j : Nat, -1 ≤ g c j) : ∀ (pre rest : List Int), (∀ m ∈ rest, g c m.toNat = -1) → sumP s c (pre ++ rest) = sumZ s pre (pre.map fun m => g c m.toNat)
  | [], [], _ => rfl
  | [], m :: rest, h => by
    have ih := sumP_Z (s := s) hg [] rest (fun q hq => h q (List.mem_cons_of_mem _ hq))
    simp only [List.nil_append, List.map_nil, sumZ] at ih ⊢
    unfold sumP at ih ⊢
    rw [List.map_cons, List.sum_cons, ih]
    unfold addP
    rw [if_pos (h m (List.mem_cons_self ..))]
    rfl
  | m :: pre, rest, h => by
    have ih := sumP_Z (s := s) hg pre rest h
    simp only [List.cons_append, List.map_cons, sumZ]
    unfold sumP at ih ⊢
    rw [List.map_cons, List.sum_cons, ih]
    congr 1
    unfold addP addZ
    have := hg m.toNat
    by_cases h1 : g c m.toNat = -1
    · rw [if_pos h1, if_pos (by omega)]
    · rw [if_neg h1, if_neg (by omega)]
theorem map_flat {α β γ : Type} (l : List α) (f : α → List β) (h : β → γ) : (l.flatMap f).map h = l.flatMap fun a => (f a).map h := List.map_flatMap ..
theorem flat_congr {α β : Type} {l : List α} {f h : α → List β} (e : ∀ a ∈ l, f a = h a) : l.flatMap f = l.flatMap h := by
  rw [List.flatMap_def, List.flatMap_def, List.map_congr_left e]
theorem gat_tell {s : Sn} (ok : OkS s) {k : Nat} : ∀ (rest pre c : List Int), mksAt s k = pre ++ rest → c.length = 6 → (∀ j : Nat, -1 ≤ g c j) → ShOk s (pre.map fun m => g c m.toNat) → (∀ m ∈ rest, g c m.toNat = -1) →
    allZ s (colL s (pre.map fun m => g c m.toNat)) pre (pre.map fun m => g c m.toNat) = true →
    gatL s k rest.length (pre.map fun m => g c m.toNat) = (tellL s (ovAt s k).x.lo (ovAt s k).x.hi (mksAt s k) rest c).map fun c' => (mksAt s k).map fun m => g c' m.toNat
  | [], pre, c, hm, h6, hg, hs, hr, hgood => by
    have hp : pullS s c (mksAt s k) = sumZ s pre (pre.map fun m => g c m.toNat) / 10000 := by
      unfold pullS
      rw [hm, sumP_Z hg pre [] (fun _ h => by cases h)]
    have hm' : mksAt s k = pre := by rw [hm, List.append_nil]
    rw [List.length_nil, gatL_zero, mayL_Z (by rw [hm']; simp)]
    unfold tellL
    rw [hp, hm', hgood, Bool.true_and]
    by_cases h1 : (ovAt s k).x.hi < sumZ s pre (pre.map fun m => g c m.toNat) / 10000
    · rw [if_pos h1, if_neg]
      · rfl
      · intro h; have := btw_true.1 h; omega
    · rw [if_neg h1]
      by_cases h2 : sumZ s pre (pre.map fun m => g c m.toNat) / 10000 < (ovAt s k).x.lo
      · rw [if_pos h2, if_neg]
        · rfl
        · intro h; have := btw_true.1 h; omega
      · rw [if_neg h2, if_pos (btw_true.2 (by omega))]
        rfl
  | m :: rest, pre, c, hm, h6, hg, hs, hr, hgood => by
    have hms := mksAt_ok s k
    have hnd := mksAt_nodup s k
    have hmm : 0 ≤ m ∧ m < s.mks.length := hms m (by rw [hm]; simp)
    have hnm := ok.nm
    have hp : pullS s c (mksAt s k) = sumZ s pre (pre.map fun m => g c m.toNat) / 10000 := by
      unfold pullS
      rw [hm, sumP_Z hg pre (m :: rest) hr]
    have hcs : colS s c (mksAt s k) = colL s (pre.map fun m => g c m.toNat) := by rw [hm, colS_Z hg pre (m :: rest) hr]
    unfold tellL
    rw [hp, hcs]
    by_cases h1 : (ovAt s k).x.hi < sumZ s pre (pre.map fun m => g c m.toNat) / 10000
    · rw [if_pos h1]
      exact gat_over ok (m :: rest) pre _ hm (by simp) h1
    rw [if_neg h1, map_flat, List.length_cons, gatL_succ]
    refine flat_congr fun a ha => ?_
    have hab := artsI_mem ha
    have hcc := colL_app ok (pre.map fun m => g c m.toNat) a hs
    have hpm : m ∉ pre := fun h => by
      rw [hm] at hnd
      exact (List.nodup_append.1 hnd).2.2 m h m (List.mem_cons_self ..) rfl
    have hrm : m ∉ rest := fun h => by
      rw [hm] at hnd
      exact (List.nodup_cons.1 (List.nodup_append.1 hnd).2.1).1 h
    by_cases hsk : skipB s m (colL s (pre.map fun m => g c m.toNat)) a = true
    · rw [if_pos hsk, List.map_nil]
      unfold skipB at hsk
      simp only [Bool.and_eq_true, Bool.or_eq_true, decide_eq_true_eq] at hsk
      obtain ⟨ha1, hb⟩ := hsk
      have ha0 : ¬ a < 0 := by omega
      rw [if_neg ha0] at hcc
      have hcp := colr_pos ok (show 0 ≤ a by omega) hab.2
      refine gat_bad ok rest (pre ++ [m]) _ (by rw [hm]; simp) (by simp) (hs.app ha) ?_ ?_
      · rw [hcc]; split
        · omega
        · assumption
      · rw [allZ_app s _ pre _ [m] [a] (by simp), all_one]
        have hpz : plaZ s (colL s ((pre.map fun m => g c m.toNat) ++ [a])) m a = false := by
          unfold plaZ
          rw [decide_eq_false ha0, Bool.false_or]
          rcases hb with hb | ⟨hb1, hb2⟩
          · rw [decide_eq_true hb]; rfl
          · rw [hcc, if_neg hb1, decide_eq_false (show ¬ colr s a = colL s (pre.map fun m => g c m.toNat) from fun e => hb2 e.symm), Bool.and_false]
        rw [hpz, Bool.and_false]
    · rw [if_neg hsk]
      have hset : ∀ j : Nat, g (c.set m.toNat a) j = if j = m.toNat then a else g c j := g_set c h6 (by omega) a
      have hne : ∀ q : Int, q ≠ m → 0 ≤ q → g (c.set m.toNat a) q.toNat = g c q.toNat := fun q hq h0 => by rw [hset, if_neg (by omega)]
      have hin : ∀ q ∈ mksAt s k, 0 ≤ q := fun q hq => (hms q hq).1
      have hmap : (pre ++ [m]).map (fun q => g (c.set m.toNat a) q.toNat) = (pre.map fun q => g c q.toNat) ++ [a] := by
        rw [List.map_append, List.map_cons, List.map_nil, hset, if_pos rfl]
        congr 1
        refine List.map_congr_left fun q hq => hne q (fun e => hpm (by rw [← e]; exact hq)) (hin q (by rw [hm]; exact List.mem_append_left _ hq))
      have hgood2 : allZ s (colL s ((pre.map fun q => g c q.toNat) ++ [a])) (pre ++ [m]) ((pre.map fun q => g c q.toNat) ++ [a]) = true := by
        rw [allZ_app s _ pre _ [m] [a] (by simp), all_one]
        unfold skipB at hsk
        simp only [Bool.and_eq_true, Bool.or_eq_true, decide_eq_true_eq, not_and, not_or] at hsk
        by_cases ha0 : a < 0
        · rw [if_pos ha0] at hcc
          have hce : colL s ((pre.map fun q => g c q.toNat) ++ [a]) = colL s (pre.map fun q => g c q.toNat) := by
            rw [hcc]; split
            · rename_i e; exact e.symm
            · rfl
          rw [hce, hgood]
          unfold plaZ
          rw [decide_eq_true ha0]; rfl
        · rw [if_neg ha0] at hcc
          obtain ⟨hr0, hcl⟩ := hsk (by omega)
          have hpl : colL s ((pre.map fun q => g c q.toNat) ++ [a]) = colr s a ∧ allZ s (colr s a) pre (pre.map fun q => g c q.toNat) = true := by
            by_cases hn : colL s (pre.map fun q => g c q.toNat) = -1
            · rw [if_pos hn] at hcc
              exact ⟨hcc, colL_none ok _ pre _ hs hn⟩
            · rw [if_neg hn] at hcc
              have he : colL s (pre.map fun q => g c q.toNat) = colr s a := Classical.byContradiction (hcl hn)
              rw [he] at hcc hgood
              exact ⟨hcc, hgood⟩
          rw [hpl.1, hpl.2]
          unfold plaZ
          rw [decide_eq_false hr0, decide_eq_true (rfl : colr s a = colr s a)]
          simp
      have ih := gat_tell ok rest (pre ++ [m]) (c.set m.toNat a) (by rw [hm]; simp) (by rw [List.length_set]; exact h6) (fun j => by
        rw [hset]
        split
        · exact hab.1
        · exact hg j) (by rw [hmap]; exact hs.app ha) (fun q hq => by
        rw [hne q (fun e => hrm (by rw [← e]; exact hq)) (hin q (by rw [hm]; simp [hq]))]
        exact hr q (List.mem_cons_of_mem _ hq)) (by rw [hmap]; exact hgood2)
      rw [hmap] at ih
      exact ih
theorem gat_all {s : Sn} (ok : OkS s) (k : Nat) : gatL s k (mksAt s k).length [] = shL (ovAt s k) := by
  have hi : ∀ j : Nat, -1 ≤ g idleC j := fun j => by
    unfold g idleC
    rcases Nat.lt_or_ge j 6 with h | h
    · obtain rfl | rfl | rfl | rfl | rfl | rfl : j = 0 ∨ j = 1 ∨ j = 2 ∨ j = 3 ∨ j = 4 ∨ j = 5 := by omega
      all_goals decide
    · rw [List.getD_eq_getElem?_getD, List.getElem?_eq_none (by simpa using h)]; decide
  exact gat_tell ok (mksAt s k) [] idleC rfl rfl hi (fun _ h => by cases h) (fun m hm => by
    have h0 := mksAt_ok s k m hm
    have := ok.nm
    have h6 : m.toNat < 6 := by omega
    unfold g idleC
    generalize m.toNat = j at *
    obtain rfl | rfl | rfl | rfl | rfl | rfl : j = 0 ∨ j = 1 ∨ j = 2 ∨ j = 3 ∨ j = 4 ∨ j = 5 := by omega
    all_goals rfl) rfl
end Go.Proofs.Ytdffhkbncencgaa
