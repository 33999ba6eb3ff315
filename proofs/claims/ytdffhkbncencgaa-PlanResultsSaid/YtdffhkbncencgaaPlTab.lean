/- Lists of zeros that the program makes: plan.table; no statement is proved here. -/
import Derived.Test.YtdffhkbncencgaaPlOwn
import Derived.Test.YtdffhkbncencgaaPlMarks
import Derived.Deep.OwnRows
namespace Go.Proofs.Ytdffhkbncencgaa
open Go.RowKit Go.PlainAid
set_option linter.unusedVariables false
set_option linter.unusedSimpArgs false

def rowV (c i : Nat) : Value := .slice (some ⟨i, 0, none⟩) c c
def intsC (l : List Int) : Array Value := (l.map (Value.int .i64)).toArray
/-- a table of the call's own: its outer block q, its rows' blocks qs. -/
structure Tbl (w : World) (q c : Nat) (qs : List Nat) (T : List (List Int)) : Prop where
  len : qs.length = T.length
  out : Blk w q (qs.map (rowV c)).toArray 30
  row : ∀ i (h1 : i < qs.length) (h2 : i < T.length), Blk w qs[i] (intsC T[i]) 3 ∧ q < qs[i] ∧ (T[i]).length = c
  nd : qs.Nodup
def nilV : Value := .slice none 0 0
theorem info_ints : (Try.prog.info? 30).map (fun i => (i.zero, i.size, i.bytes)) = some (some (.slice none 0 0), 1, 24) := by kernel_rfl
def partC (c n : Nat) (qs : List Nat) : Array Value := (qs.map (rowV c) ++ List.replicate (n - qs.length) nilV).toArray
theorem partC_full {c n : Nat} {qs : List Nat} (h : qs.length = n) : partC c n qs = (qs.map (rowV c)).toArray := by unfold partC; rw [h, Nat.sub_self]; simp
theorem partC_at {c n : Nat} {qs : List Nat} (h : qs.length < n) : (partC c n qs)[qs.length]? = some nilV := by
  unfold partC
  simp [List.getElem?_append_right, List.getElem?_replicate]
  omega
theorem partC_set {c n : Nat} {qs : List Nat} (h : qs.length < n) (b : Nat) : (partC c n qs).setIfInBounds qs.length (rowV c b) = partC c n (qs ++ [b]) := by
  unfold partC
  obtain ⟨m, hm⟩ : ∃ m, n - qs.length = m + 1 := ⟨n - qs.length - 1, by omega⟩
  rw [hm, List.length_append, List.length_singleton, show n - (qs.length + 1) = m by omega, List.replicate_succ]
  simp
theorem made_eq (z : Value) (n : Nat) : Go.madeCells #[z] n = (List.replicate n z).toArray := by rw [← Array.toArray_toList (xs := madeCells #[z] n), toList_madeCells_one]
theorem made_nil (n c : Nat) : Go.madeCells #[Value.slice none 0 0] n = partC c n [] := by
  rw [made_eq]; unfold partC nilV; simp
theorem made_int (n : Nat) : Go.madeCells #[Value.int .i64 0] n = intsC (List.replicate n 0) := by
  rw [made_eq]; unfold intsC; simp

set_option maxHeartbeats 4000000 in
set_option maxRecDepth 100000 in
theorem table_any (n c : Nat) (hn : n ≤ 100) (hc : c ≤ 100) (w : World) : Calls Try.prog 42 #[.int .i64 n, .int .i64 c] w fun e w' => ∃ qs, e = .returned (.slice (some ⟨w.heap.size, 0, none⟩) n n) ∧ Tbl w' w.heap.size c qs (List.replicate n (List.replicate c 0)) ∧ Below w.heap.size w w' := by
  have hmk1 := fun w => run_make_row' (P := Try.prog) 29 30 (.slice none 0 0) 24 Try.underlying29 info_ints rfl .i64 .i64 n (by omega) (by omega) w
  have hmk2 := fun w => run_make_row' (P := Try.prog) 30 3 (.int .i64 0) 8 Try.underlying30 info_int rfl .i64 .i64 c (by omega) (by omega) w
  have e1 := made_nil n c
  have b0 := Blk.new w (madeCells #[Value.slice none 0 0] n) 30
  have hA := below_box w (.cells (madeCells #[Value.slice none 0 0] n) 30)
  have b0' : Blk (w.alloc (.cells (madeCells #[Value.slice none 0 0] n) 30)) w.heap.size (partC c n []) 30 := by rw [← e1]; exact b0
  have HE2 := Lib.hid (made_int c)
  clear e1 b0
  go_enter Try.func42, Try.ntmps42
  go_upto_region 3 with (fail)
  generalize w.alloc (.cells (madeCells #[Value.slice none 0 0] n) 30) = W at *
  clear hmk1
  go_loopw [11] (fun i wr => ∃ (k : Nat) (qs : List Nat), k ≤ n ∧ i = .int .i64 k ∧ Hid (qs.length = k) ∧ Blk wr w.heap.size (partC c n qs) 30 ∧ Hid (∀ i (h : i < qs.length), Blk wr qs[i] (intsC (List.replicate c 0)) 3 ∧ w.heap.size < qs[i]) ∧ Hid qs.Nodup ∧ Below w.heap.size w wr) (fun i _ => n - (intOf i).toNat)
  case atStart => exact ⟨0, [], Nat.zero_le _, rfl, Lib.hid rfl, b0', Lib.hid (fun i h => by simp at h), Lib.hid List.nodup_nil, hA⟩
  case round =>
    obtain ⟨k, qs, hk, rfl, hl, hX, hrow, hnd, hb⟩ := hrel
    clear b0' hA
    by_cases hlt : k < n
    · have hql : qs.length < n := by rw [hl.out]; exact hlt
      have hXa := hX.alloc (.cells (madeCells #[Value.int .i64 0] c) 3)
      have hN := Blk.new wr (madeCells #[Value.int .i64 0] c) 3
      rw [HE2.out] at hN hXa
      have hba := hb.alloc hb.size (.cells (intsC (List.replicate c 0)) 3)
      have hcell : (wr.alloc (.cells (intsC (List.replicate c 0)) 3)).cell? ⟨w.heap.size, k, none⟩ = some nilV := hXa.cell k _ (by rw [← hl.out]; exact partC_at hql)
      have hfr := hXa.frozen k
      have hzw := hX.lt
      have HX2 : Hid (Blk ((wr.alloc (.cells (intsC (List.replicate c 0)) 3)).setCell ⟨w.heap.size, k, none⟩ (.slice (some ⟨wr.heap.size, 0, none⟩) c c)) w.heap.size (partC c n (qs ++ [wr.heap.size])) 30) := Lib.hid (by
        have := hXa.set k (rowV c wr.heap.size)
        rwa [← hl.out, partC_set hql, hl.out] at this)
      have HR2 : Hid (∀ i (h : i < (qs ++ [wr.heap.size]).length), Blk ((wr.alloc (.cells (intsC (List.replicate c 0)) 3)).setCell ⟨w.heap.size, k, none⟩ (.slice (some ⟨wr.heap.size, 0, none⟩) c c)) (qs ++ [wr.heap.size])[i] (intsC (List.replicate c 0)) 3 ∧ w.heap.size < (qs ++ [wr.heap.size])[i]) := Lib.hid (fun i h => by
        by_cases hi : i < qs.length
        · rw [List.getElem_append_left hi]
          obtain ⟨r1, r2⟩ := hrow.out i hi
          exact ⟨(r1.alloc _).other ⟨w.heap.size, k, none⟩ _ (by simp only; omega), r2⟩
        · have : i = qs.length := by rw [List.length_append, List.length_singleton] at h; omega
          subst this
          rw [List.getElem_concat_length rfl]
          exact ⟨hN.other ⟨w.heap.size, k, none⟩ _ (by simp only; omega), hzw⟩)
      have HN2 : Hid (qs ++ [wr.heap.size]).Nodup := Lib.hid (by
        rw [List.nodup_append]
        refine ⟨hnd.out, by simp, fun a ha b hb e => ?_⟩
        obtain ⟨i, hi, rfl⟩ := List.getElem_of_mem ha
        have h1 := (hrow.out i hi).1.lt
        simp only [List.mem_singleton] at hb
        omega)
      have HB2 := Lib.hid (hba.setCell (p := ⟨w.heap.size, k, none⟩) (Nat.le_refl _) (.slice (some ⟨wr.heap.size, 0, none⟩) c c))
      have HL2 : Hid ((qs ++ [wr.heap.size]).length = k + 1) := Lib.hid (by rw [List.length_append, hl.out]; rfl)
      have j1 : (0 : Int) ≤ (k : Int) := Int.natCast_nonneg _
      have j2 : (k : Int) < (n : Int) := by omega
      rw [← HE2.out] at hcell hfr HX2 HR2 HB2
      clear hX hXa hN hba hrow hnd hb hl hql hzw
      unfold nilV at hcell
      go_wp2
      go_roundw
      case rel => exact ⟨k + 1, _, by omega, by go_num, HL2, HX2.out, by have := HR2; rw [HE2.out] at this ⊢; exact this, HN2, HB2.out⟩
      case measure => simp [intOf]; omega
    · obtain rfl : k = n := by omega
      have HT : Hid (Tbl wr w.heap.size c qs (List.replicate k (List.replicate c 0))) := Lib.hid ⟨by rw [hl.out]; simp, by rw [← partC_full hl.out]; exact hX, fun i h1 h2 => by
        obtain ⟨r1, r2⟩ := hrow.out i h1
        rw [List.getElem_replicate]
        exact ⟨r1, r2, by simp⟩, hnd.out⟩
      have HB := Lib.hid hb
      clear hX hrow hnd hb hl
      go_wp2
      go_ret
      exact ⟨qs, rfl, HT.out, HB.out⟩
end Go.Proofs.Ytdffhkbncencgaa
