/- What the laws of layer 8 share: rows and entries of tables that are read; no statement is proved here. -/
import Derived.Test.YtdffhkbncencgaaPlStM
import Derived.Test.YtdffhkbncencgaaPlEx
import Derived.Test.YtdffhkbncencgaaPlGrt
namespace Go.Proofs.Ytdffhkbncencgaa
open Go.RowKit Go.PlainAid
set_option linter.unusedVariables false
set_option linter.unusedSimpArgs false

theorem getD_at {α : Type} {l : List α} {d : α} {n : Nat} (h : n < l.length) : l.getD n d = l[n] := by simp [List.getD, List.getElem?_eq_getElem h]
def TrueP (w : World) (e : Ending) (w' : World) : Prop := e = .returned (.bool true) ∧ Below w.heap.size w w'
/-- a table's row, and its entry. -/
theorem rows_row {W : World} {a : Option Addr} {n c D k : Nat} {T : List (List Int)} (h : RRows W (.slice a n c) T) (hS : Shp n D T) (hk : k < n) : ∃ b o a' c', a = some ⟨b, o, none⟩ ∧ W.cell? ⟨b, o + k, none⟩ = some (.slice a' D c') ∧ RInts W (.slice a' D c') (T.getD k []) := by
  obtain ⟨a1, c1, hv, -, -, hl⟩ := h
  simp only [Value.slice.injEq] at hv
  have hkT : k < T.length := by rw [hS.1]; exact hk
  obtain ⟨b, o, he, v, q0, hr⟩ := hl k hkT
  obtain ⟨a', c', rfl⟩ := hr.shape
  have hD := hS.2 _ (List.getElem_mem hkT)
  rw [hD] at q0 hr
  simp only [Nat.mul_one] at q0
  refine ⟨b, o, a', c', by rw [hv.1]; exact he, q0, ?_⟩
  rw [show T.getD k [] = T[k] by simp [List.getD, List.getElem?_eq_getElem hkT]]
  exact hr
theorem rows_ent {W : World} {a : Option Addr} {n c D k j : Nat} {T : List (List Int)} (h : RRows W (.slice a n c) T) (hS : Shp n D T) (hk : k < n) (hj : j < D) : ∃ b o b' o' c', a = some ⟨b, o, none⟩ ∧ W.cell? ⟨b, o + k, none⟩ = some (.slice (some ⟨b', o', none⟩) D c') ∧ W.cell? ⟨b', o' + j, none⟩ = some (.int .i64 (ent T k j)) ∧ I64 (ent T k j) := by
  obtain ⟨b, o, a', c', h1, h2, h3⟩ := rows_row h hS hk
  have hl : (T.getD k []).length = D := hS.row hk
  obtain ⟨a1, c1, hv, -, -, hr⟩ := h3
  simp only [Value.slice.injEq] at hv
  obtain ⟨b', o', he, q0, q1⟩ := hr j (by rw [hl]; exact hj)
  simp only [Nat.mul_one] at q0
  have hg : (T.getD k [])[j]'(by rw [hl]; exact hj) = ent T k j := (getD_at _).symm
  rw [hg] at q0 q1
  have e1 : a' = some ⟨b', o', none⟩ := by rw [hv.1]; exact he
  subst e1
  exact ⟨b, o, b', o', c', h1, h2, q0, q1⟩
theorem rsl_at {α : Type} {sz : Nat} {R : World → Addr → α → Prop} {W : World} {a : Option Addr} {n c : Nat} {l : List α} (h : RSl sz R W (.slice a n c) l) {i : Nat} (hi : i < l.length) : ∃ b o, a = some ⟨b, o, none⟩ ∧ R W ⟨b, o + i * sz, none⟩ l[i] := by
  obtain ⟨a1, c1, hv, -, -, hl⟩ := h
  simp only [Value.slice.injEq] at hv
  obtain ⟨b, o, he, hr⟩ := hl i hi
  exact ⟨b, o, by rw [hv.1]; exact he, hr⟩
theorem ints_at {W : World} {a : Option Addr} {n c : Nat} {l : List Int} (h : RInts W (.slice a n c) l) {i : Nat} (hi : i < l.length) : ∃ b o, a = some ⟨b, o, none⟩ ∧ W.cell? ⟨b, o + i, none⟩ = some (.int .i64 l[i]) ∧ I64 l[i] := by
  obtain ⟨b, o, he, q0, q1⟩ := rsl_at h hi
  simp only [Nat.mul_one] at q0
  exact ⟨b, o, he, q0, q1⟩
theorem ints_ent {W : World} {a : Option Addr} {n D c k j : Nat} {T : List (List Int)} (h : RInts W (.slice a D c) (T.getD k [])) (hS : Shp n D T) (hk : k < n) (hj : j < D) : ∃ b o, a = some ⟨b, o, none⟩ ∧ W.cell? ⟨b, o + j, none⟩ = some (.int .i64 (ent T k j)) ∧ I64 (ent T k j) := by
  have hl : (T.getD k []).length = D := hS.row hk
  obtain ⟨b, o, he, q0, q1⟩ := ints_at h (i := j) (by rw [hl]; exact hj)
  have hg : (T.getD k [])[j]'(by rw [hl]; exact hj) = ent T k j := (getD_at _).symm
  rw [hg] at q0 q1
  exact ⟨b, o, he, q0, q1⟩
theorem PlOk.shp {s : Sn} {T : List (List Int)} (pk : PlOk s T) : Shp s.mks.length s.days.toNat T := ⟨pk.len, fun r hr => by have := (pk.row r hr).1; omega⟩
theorem planC_ent (s : Sn) (T : List (List Int)) (day k : Nat) : planC s T (day : Int) (k : Int) = ent T k day := by
  unfold planC ent
  rw [if_neg (by omega)]
  simp [List.getD]
theorem lackL_at {s : Sn} (ok : OkS s) (T : List (List Int)) {k : Nat} (hk : k < s.ods.length) : g (lackL s (gotS s T)) k = lackI s (gotS s T) k ∧ 0 ≤ lackI s (gotS s T) k ∧ lackI s (gotS s T) k ≤ s.ods[k].qty := by
  have h1 := (gotS_ok ok T).2 k (by have := ok.nd; have := ok.na; omega)
  have h2 := odAt_bd ok k
  have e : odAt s k = s.ods[k] := by unfold odAt; simp [List.getElem?_eq_getElem hk]
  refine ⟨by unfold g lackL lackK; simp [hk], ?_⟩
  unfold lackI
  rw [e] at h2 ⊢
  omega
end Go.Proofs.Ytdffhkbncencgaa
