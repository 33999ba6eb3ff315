/- Which weights give a bottle that holds, in plain numbers; no statement is proved here. -/
import Derived.Test.YtokgnbagegcnpaaDoorLightP
import Derived.Test.YtokgnbagegcnpaaDoorThinM
import Derived.Test.YtokgnbagegcnpaaDoorThP
namespace Go.Proofs.YtokgnbagegcnpaaDoor
open Go.RowKit Go.PlainAid
set_option linter.unusedVariables false
set_option linter.unusedSimpArgs false

theorem thickR_le {r : Rg} {n : Int} (hr : OkR r) (hn : 1 ≤ n) : (thickR r ⟨n, n⟩).lo ≤ (thickR r ⟨n, n⟩).hi := by
  have h1 := hr.radius
  have h2 := hr.height
  have h3 := hr.share
  have a1 := (mulP (a := r.radius.lo) (A := 1000) (b := r.height.lo) (B := 5000) (by omega) (by omega)).1
  have a2 : r.radius.lo * r.height.lo ≤ r.radius.hi * r.height.hi := Int.mul_le_mul (by omega) (by omega) (by omega) (by omega)
  have b1 : 200 * n * r.share.lo ≤ 200 * n * r.share.hi := mulR (by omega) (by omega)
  have b2 : 0 ≤ 200 * n * r.share.lo := mulN (by omega) (by omega)
  show 200 * n * r.share.lo * 113 / (r.radius.hi * r.height.hi * 355) ≤ (200 * n * r.share.hi * 106 + r.radius.lo * r.height.lo * 333 - 1) / (r.radius.lo * r.height.lo * 333)
  generalize r.radius.lo * r.height.lo = P at *
  generalize r.radius.hi * r.height.hi = Q at *
  generalize 200 * n * r.share.lo = X at *
  generalize 200 * n * r.share.hi = Y at *
  refine div_le_cdiv (by omega) (by omega) ?_
  have c1 : X * P ≤ Y * Q := Int.mul_le_mul b1 a2 (by omega) (by omega)
  have c2 : 0 ≤ X * P := mulN b2 (by omega)
  have e1 : X * 113 * (P * 333) = 113 * 333 * (X * P) := by simp only [Int.mul_comm, Int.mul_left_comm, Int.mul_assoc]
  have e2 : Y * 106 * (Q * 355) = 106 * 355 * (Y * Q) := by simp only [Int.mul_comm, Int.mul_left_comm, Int.mul_assoc]
  rw [e1, e2]
  omega

def enU (ts : List Sp) (ns : List Int) (k : Nat) : Bool := (List.range k).all fun i => decide (ns.getD i 0 ≤ (ts.getD i ⟨0, 0⟩).lo)
def mayU (ts : List Sp) (k : Nat) : Bool := (List.range k).all fun i => decide (1 ≤ (ts.getD i ⟨0, 0⟩).lo) && decide ((ts.getD i ⟨0, 0⟩).hi ≤ 2000)
theorem enU_succ (ts : List Sp) (ns : List Int) (k : Nat) : enU ts ns (k + 1) = (enU ts ns k && decide (ns.getD k 0 ≤ (ts.getD k ⟨0, 0⟩).lo)) := by
  simp [enU, List.range_succ, List.all_append]
theorem mayU_succ (ts : List Sp) (k : Nat) : mayU ts (k + 1) = (mayU ts k && (decide (1 ≤ (ts.getD k ⟨0, 0⟩).lo) && decide ((ts.getD k ⟨0, 0⟩).hi ≤ 2000))) := by
  simp [mayU, List.range_succ, List.all_append]

theorem thickL_len (b : Bot) (s : Sp) : (thickL b s).length = b.rings.length := by simp [thickL]
theorem thickL_getD {b : Bot} {n : Int} {i : Nat} (h : i < b.rings.length) : (thickL b ⟨n, n⟩).getD i ⟨0, 0⟩ = thickR b.rings[i] ⟨n, n⟩ := by
  rw [List.getD_eq_getElem?_getD, List.getElem?_eq_getElem (by rw [thickL_len]; exact h)]
  simp [thickL]
theorem thickS_one {b : Bot} {n : Int} (h : checkS b = 0) (h1 : 1 ≤ n) (h2 : n ≤ 100000) : thickS b ⟨n, n⟩ = (thickL b ⟨n, n⟩, 0) := by
  simp [thickS, h, wi, h1, h2]
theorem both_check {b : Bot} {l : Ld} (h : bothS b l = 0) : checkS b = 0 := by
  unfold bothS at h
  split at h
  · assumption
  · exact h

theorem en_iff {b : Bot} {l : Ld} {n : Int} (h : bothS b l = 0) (hw : lightF b l ≠ 0) (h1 : 1 ≤ n) (h2 : n ≤ 100000) : enU (thickL b ⟨n, n⟩) (needS b l) b.rings.length = decide (lightF b l ≤ n) := by
  obtain ⟨hok, hl⟩ := both_ok h
  have hfo := lightF_is (l := l) hok
  have w1 := hfo.ge
  have w2 := hfo.le
  have hall := enoughWb_iff.1 ((hfo.iff _ (by omega) w2).2 ⟨by omega, Int.le_refl _⟩)
  have key : enU (thickL b ⟨n, n⟩) (needS b l) b.rings.length = true ↔ lightF b l ≤ n := by
    have h3 := hfo.iff n h1 h2
    constructor
    · intro he
      refine (h3.1 (enoughWb_iff.2 fun i hi => ⟨(hall i hi).1, ?_⟩)).2
      unfold enU at he
      have := List.all_eq_true.1 he i (List.mem_range.2 hi)
      rw [decide_eq_true_iff, thickL_getD hi] at this
      rw [thickAt_eq hi]
      exact this
    · intro he
      have := enoughWb_iff.1 (h3.2 ⟨by omega, he⟩)
      unfold enU
      rw [List.all_eq_true]
      intro i hi
      have hi' := List.mem_range.1 hi
      rw [decide_eq_true_iff, thickL_getD hi', ← thickAt_eq hi']
      exact (this i hi').2
  by_cases hle : lightF b l ≤ n
  · rw [decide_eq_true hle]; exact key.2 hle
  · rw [decide_eq_false hle]
    cases he : enU (thickL b ⟨n, n⟩) (needS b l) b.rings.length with
    | false => rfl
    | true => exact absurd (key.1 he) hle

theorem wei_ok {b : Bot} {l : Ld} {n : Int} (h : bothS b l = 0) (h1 : 1 ≤ n) (hm : mayU (thickL b ⟨n, n⟩) b.rings.length = true) : wallS b (thickL b ⟨n, n⟩) l = 0 := by
  obtain ⟨hok, hl⟩ := both_ok h
  refine wallS_of h (thickL_len _ _) (fun x hx => ?_)
  obtain ⟨i, hi, rfl⟩ := List.getElem_of_mem hx
  have hi' : i < b.rings.length := by rw [thickL_len] at hi; exact hi
  unfold mayU at hm
  have := List.all_eq_true.1 hm i (List.mem_range.2 hi')
  rw [thickL_getD hi', Bool.and_eq_true, decide_eq_true_iff, decide_eq_true_iff] at this
  have e : (thickL b ⟨n, n⟩)[i] = thickR b.rings[i] ⟨n, n⟩ := by simp [thickL]
  rw [e]
  exact ⟨this.1, thickR_le (hok.rings i hi') h1, this.2⟩
theorem wei_holds {b : Bot} {l : Ld} {n : Int} (h : bothS b l = 0) (hw : lightF b l ≠ 0) (h1 : 1 ≤ n) (h2 : n ≤ 100000) (hm : mayU (thickL b ⟨n, n⟩) b.rings.length = true) (hle : lightF b l ≤ n) : HoldsB b (thickL b ⟨n, n⟩) l := by
  obtain ⟨hok, hl⟩ := both_ok h
  have hwall := wei_ok h h1 hm
  have hOW := okWall_of hwall
  have hfo := lightF_is (l := l) hok
  have he := enoughWb_iff.1 ((hfo.iff n h1 h2).2 ⟨by have := hfo.ge; omega, hle⟩)
  refine ⟨_, hok.root, fun i hi => ?_⟩
  obtain ⟨p1, p2⟩ := he i hi
  have hi2 : i < (needS b l).length := by rw [needS_len]; exact hi
  have hiu : i < (thickL b ⟨n, n⟩).length := by rw [thickL_len]; exact hi
  have h3 : (needS b l).getD i 0 = (needS b l)[i] := by rw [List.getD_eq_getElem?_getD, List.getElem?_eq_getElem hi2]; rfl
  have hfn := needS_is hok hl hi2 hi
  rw [h3] at p1 p2
  have o3 : 1 ≤ (needS b l)[i] := by have := hfn.ge; omega
  have h4 := (hfn.iff (needS b l)[i] o3 hfn.le).2 ⟨o3, Int.le_refl _⟩
  unfold needP at h4
  rw [decide_eq_true_iff] at h4
  rw [strAt_eq hi hiu]
  have e : (thickL b ⟨n, n⟩)[i] = thickR b.rings[i] ⟨n, n⟩ := by simp [thickL]
  rw [thickAt_eq hi, ← e] at p2
  have h5 := strR_mono (t := ⟨(needS b l)[i], (needS b l)[i]⟩) (t' := (thickL b ⟨n, n⟩)[i]) (hok.rings i hi) ⟨o3, Int.le_refl _, hfn.le⟩ p2 hl.less
  omega
theorem thickL_I {b : Bot} {n : Int} (hok : OkS b) (h1 : 1 ≤ n) (h2 : n ≤ 100000) : ∀ x ∈ thickL b ⟨n, n⟩, I64s x := fun x hx => by
  obtain ⟨r, hr, rfl⟩ := List.mem_map.1 hx
  obtain ⟨j, hj, rfl⟩ := List.getElem_of_mem hr
  have := thickR_bd (hok.rings j hj) (w := ⟨n, n⟩) ⟨h1, Int.le_refl _, h2⟩
  unfold I64s I64
  omega

end Go.Proofs.YtokgnbagegcnpaaDoor
