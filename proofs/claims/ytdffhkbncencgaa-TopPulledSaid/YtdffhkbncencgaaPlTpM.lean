/- What a furnace's machines make weighs less than a kilogram beyond its pull: the mathematics of TopPulled; no statement is proved here. -/
import Derived.Test.YtdffhkbncencgaaPlStM
namespace Go.Proofs.Ytdffhkbncencgaa
open Go.RowKit Go.PlainAid
set_option linter.unusedVariables false
set_option linter.unusedSimpArgs false

/-- what a machine adds to the weight that is made at a furnace on a day. -/
def topI (s : Sn) (T M : List (List Int)) (o day : Nat) (i : Nat) : Int := if (s.mks[i]?).elim false (fun x => x.oven == (o : Int)) = true then (if planC s T (day : Int) (i : Int) < 0 then 0 else ent M i day * wgt s (planC s T (day : Int) (i : Int))) else 0
def topK (s : Sn) (T M : List (List Int)) (o day n : Nat) : Int := ((List.range n).map (topI s T M o day)).sum
theorem topK_step (s : Sn) (T M : List (List Int)) (o day n : Nat) : topK s T M o day (n + 1) = topK s T M o day n + topI s T M o day n := by
  unfold topK; rw [List.range_succ, List.map_append, List.sum_append]; simp
theorem mksAt_mem {s : Sn} {o : Int} {n : Nat} (hn : n < s.mks.length) (h : s.mks[n].oven = o) : (n : Int) ∈ mksAt s o := by
  unfold mksAt atTo
  refine List.mem_map.2 ⟨n, List.mem_filter.2 ⟨List.mem_range.2 hn, ?_⟩, rfl⟩
  simp [List.getElem?_eq_getElem hn, h]
theorem topK_le {s : Sn} (ok : OkS s) {T : List (List Int)} (pk : PlOk s T) {o day : Nat} (hd : day < s.days.toNat) : ∀ n, n ≤ s.mks.length → topK s T (madK s T (stL s T).length) o day n ≤ sumP s (dayC s T (day : Int) (ovAt s o)) (atTo s (o : Int) n)
  | 0, _ => by simp [topK, sumP, atTo]
  | n + 1, h => by
    have hn : n < s.mks.length := by omega
    have h1 := topK_le ok pk (o := o) hd n (by omega)
    rw [topK_step, atTo_step hn]
    have h2 : ∀ l, sumP s (dayC s T (day : Int) (ovAt s o)) (atTo s (o : Int) n ++ l) = sumP s (dayC s T (day : Int) (ovAt s o)) (atTo s (o : Int) n) + sumP s (dayC s T (day : Int) (ovAt s o)) l := fun l => by
      unfold sumP; rw [List.map_append, List.sum_append]
    rw [h2]
    unfold topI
    rw [List.getElem?_eq_getElem hn]
    simp only [Option.elim_some, beq_iff_eq]
    by_cases ho : s.mks[n].oven = (o : Int)
    · rw [if_pos ho, if_pos ho]
      have hmem := mksAt_mem hn ho
      have hg : g (dayC s T (day : Int) (ovAt s o)) n = planC s T (day : Int) (n : Int) := by
        have := crewS_g (s := s) (T := T) (day := (day : Int)) (mksAt s (o : Int)) idleC rfl (fun q hq => by have := mksAt_ok s (o : Int) q hq; have := ok.nm; omega) n (by have := ok.nm; omega)
        rw [if_pos hmem] at this
        exact this
      have hp := planC_bd ok pk (day := (day : Int)) (by omega) (by omega) (m := (n : Int)) ⟨by omega, by omega⟩
      have hM := (madS_ent ok T).2 n day hn hd
      have hw := wgt_bd ok (planC s T (day : Int) (n : Int))
      have hs : sumP s (dayC s T (day : Int) (ovAt s o)) [(n : Int)] = addP s (dayC s T (day : Int) (ovAt s o)) (n : Int) := by simp [sumP]
      rw [hs]
      unfold addP
      simp only [Int.toNat_natCast]
      rw [hg]
      by_cases hneg : planC s T (day : Int) (n : Int) < 0
      · rw [if_pos hneg, if_pos (show planC s T (day : Int) (n : Int) = -1 by omega)]
        omega
      · rw [if_neg hneg, if_neg (show ¬ planC s T (day : Int) (n : Int) = -1 by omega)]
        have h3 := Int.mul_le_mul_of_nonneg_right (hM.2.2 (by omega)) hw.1
        omega
    · rw [if_neg ho, if_neg ho]
      have hs : sumP s (dayC s T (day : Int) (ovAt s o)) [] = 0 := rfl
      rw [hs]
      omega
/-- the weight made at a furnace on a day is less than a kilogram beyond its pull. -/
theorem top_pulled {s : Sn} (ok : OkS s) {T : List (List Int)} (pk : PlOk s T) {o day : Nat} (ho : o < s.ovens.length) (hd : day < s.days.toNat) : topK s T (madK s T (stL s T).length) o day s.mks.length < 10000 * (ent (pulK s T (stL s T).length) o day + 1) := by
  have h1 := topK_le ok pk (o := o) hd s.mks.length (Nat.le_refl _)
  rw [(pulS_ent s T).2 o day ho hd]
  have h2 : pullS s (dayC s T (day : Int) (ovAt s o)) (ovAt s o).ms = sumP s (dayC s T (day : Int) (ovAt s o)) (atTo s (o : Int) s.mks.length) / 10000 := rfl
  rw [h2]
  generalize sumP s (dayC s T (day : Int) (ovAt s o)) (atTo s (o : Int) s.mks.length) = S at *
  omega
end Go.Proofs.Ytdffhkbncencgaa
