/- Sums over spans, by their contracts; no statement is proved here. -/
import Derived.Test.YtpkggjfaefkiiaaLeaf
namespace Go.Proofs.Ytpkggjfaefkiiaa
open Go.RowKit
set_option linter.unusedVariables false

theorem sum_snoc (l : List Int) (x : Int) : (l ++ [x]).sum = l.sum + x := by
  induction l with
  | nil => simp
  | cons a l ih => simp [ih]; omega

theorem sum_step (g : Sp → Int) (l : List Sp) (k : Nat) (h : k < l.length) (x : Int) (hx : x = wrap64 ((l.take k).map g).sum) : wrap64 (x + g l[k]) = wrap64 ((l.take (k + 1)).map g).sum := by
  rw [hx, wrap_add, List.take_succ_eq_append_getElem h, List.map_append, List.map_singleton, sum_snoc]

set_option maxRecDepth 100000 in
theorem sum_any (f : Nat) (hF : IsFn f) (g : Sp → Int) (v : Value) (l : List Sp) (w : World) (h : RSps w v l)
    (hf : ∀ s : Sp, s ∈ l → ∀ w1, Calls Try.prog f #[.agg #[.int .i64 s.lo, .int .i64 s.hi]] w1 fun e w2 => e = .returned (.int .i64 (g s)) ∧ Below w1.heap.size w1 w2) :
    Calls Try.prog 112 #[v, .func (.func f) #[] #[]] w fun e w' => e = .returned (.int .i64 (wrap64 (l.map g).sum)) ∧ Below w.heap.size w w' := by
  obtain ⟨a, cap, rfl, hc1, ⟨hc2, hm⟩, hl⟩ := h
  go_enter Try.func112, Try.ntmps112
  go_wp2
  go_loopw [5, 10] (fun n i wr => ∃ (k : Nat) (x : Int), k ≤ l.length ∧ i = .int .i64 k ∧ n = .int .i64 x ∧ Hid (x = wrap64 ((l.take k).map g).sum) ∧ Below w.heap.size w wr) (fun _ i _ => l.length - (intOf i).toNat)
  case atStart => exact ⟨0, 0, Nat.zero_le _, rfl, rfl, by simp [wrap64, Hid], Below.refl _ _⟩
  case round =>
    obtain ⟨k, x, hk, rfl, rfl, hx, hb⟩ := hrel
    by_cases hlt : k < l.length
    · obtain ⟨b, off, rfl, h1, h2, h3, h4⟩ := hl k hlt
      have hbl := cell_lt h1
      have hf' := hf l[k] (List.getElem_mem hlt)
      obtain ⟨hc, hz⟩ := bcell hb
      simp only at h1 h2 hbl
      have hst := Lib.hid (sum_step g l k hlt x hx.out)
      clear hf hl hc1 h3 h4
      generalize l[k] = s at *
      unfold IsFn at hF
      go_wp2_with fail
      refine (hf' _).mono ?_
      rintro e w1 ⟨rfl, hb1⟩
      go_wp2
      go_roundw
      case rel => exact ⟨k + 1, _, by omega, by go_num, rfl, hst, (hb.alloc hb.size _).trans (hb1.mono (by have := hb.size; simp; omega))⟩
      case measure => simp [intOf]; omega
    · go_wp2
      go_ret
      refine ⟨ret_int ?_, hb⟩
      rw [hx.out, List.take_of_length_le (by omega)]

theorem isFn_low : IsFn 113 := fun xs w => by kernel_rfl
theorem isFn_high : IsFn 114 := fun xs w => by kernel_rfl

def tot (l : List Sp) : Sp := ⟨wrap64 (l.map Sp.lo).sum, wrap64 (l.map Sp.hi).sum⟩

theorem total_any (v : Value) (l : List Sp) (w : World) (h : RSps w v l) :
    Calls Try.prog 64 #[v] w fun e w' => e = .returned (.agg #[.int .i64 (tot l).lo, .int .i64 (tot l).hi]) ∧ Below w.heap.size w w' := by
  go_enter Try.func64, Try.ntmps64
  go_wp2_with fail
  refine (sum_any _ isFn_low Sp.lo v l _ (h.mono (ext_of_below (by go_grown))) (fun s _ w1 => low_any _ _ _)).mono ?_
  rintro e w1 ⟨rfl, hb1⟩
  go_wp2_with fail
  refine (sum_any _ isFn_high Sp.hi v l _ (h.mono (ext_of_below ((Below.alloc (Below.refl _ _) (Nat.le_refl _) _).trans (hb1.mono (by simp))))) (fun s _ w1 => high_any _ _ _)).mono ?_
  rintro e w2 ⟨rfl, hb2⟩
  have B2 := ((Blk.new w #[.int .i64 0, .int .i64 0] 27).below hb1 (by simp)).below hb2 (by have := hb1.size; simp at this; omega)
  have hB := ((Below.alloc (Below.refl w.heap.size w) (Nat.le_refl _) (.cells #[.int .i64 0, .int .i64 0] 27)).trans (hb1.mono (by simp))).trans (hb2.mono (by have := hb1.size; simp at this; omega))
  have c0 := B2.cell 0 _ rfl
  have c1 := B2.cell 1 _ rfl
  have f0 := B2.frozen 0
  have f1 := B2.frozen 1
  simp only [List.getElem_toArray, List.getElem_cons_zero, List.getElem_cons_succ] at c0 c1
  clear hb1 hb2
  go_wp2
  have B3 := (B2.set 0 (.int .i64 (wrap64 (l.map Sp.lo).sum))).set 1 (.int .i64 (wrap64 (l.map Sp.hi).sum))
  have d0 := B3.cell 0 (.int .i64 (wrap64 (l.map Sp.lo).sum)) rfl
  have d1 := B3.cell 1 (.int .i64 (wrap64 (l.map Sp.hi).sum)) rfl
  exact bodyPost_ret (v := .agg #[.int .i64 (wrap64 (l.map Sp.lo).sum), .int .i64 (wrap64 (l.map Sp.hi).sum)]) (by simp only [results, Try.results64]; simp [go_sem, d0, d1]) rfl ⟨rfl, by go_grown⟩

end Go.Proofs.Ytpkggjfaefkiiaa
