/- Orders that are copied and changed in place; no statement is proved here. -/
import Derived.Test.YtdffhkbncencgaaPlDeM
import Derived.Test.YtdffhkbncencgaaPlShi
import Derived.Maps.AppendAt
import Derived.Deep.Upon
import Derived.Deep.AppendSrc
import Derived.Laws.OwnMore
namespace Go.Proofs.Ytdffhkbncencgaa
open Go.RowKit Go.PlainAid
set_option linter.unusedVariables false
set_option linter.unusedSimpArgs false

def odL (o : Od) : List Value := [.int .i64 o.art, .int .i64 o.qty, .int .i64 o.due, .int .i64 o.pen]
def odsL (l : List Od) : List Value := l.flatMap odL
theorem odL_len (o : Od) : (odL o).length = 4 := rfl
theorem odsL_len (l : List Od) : (odsL l).length = l.length * 4 := flat_len odL 4 odL_len l
theorem odsL_at {l : List Od} {i j : Nat} (hi : i < l.length) (hj : j < 4) : (odsL l)[i * 4 + j]? = (odL l[i])[j]? := flat_at odL 4 odL_len l i j hi hj
theorem odsL_one {l : List Od} : ∀ u ∈ odsL l, u.oneCell' = true := fun u hu => by
  unfold odsL at hu
  obtain ⟨o, -, h⟩ := List.mem_flatMap.1 hu
  unfold odL at h
  simp only [List.mem_cons, List.not_mem_nil, or_false] at h
  rcases h with rfl | rfl | rfl | rfl <;> rfl
theorem odsL_set {l : List Od} {i j : Nat} {u : Value} {y : Od} (hi : i < l.length) (hj : j < 4) (hy : odL y = (odL l[i]).set j u) : (odsL l).set (i * 4 + j) u = odsL (l.set i y) := by
  refine List.ext_getElem? fun m => ?_
  by_cases hm : m < l.length * 4
  · obtain ⟨a, b, ha, hb, rfl⟩ : ∃ a b, a < l.length ∧ b < 4 ∧ m = a * 4 + b := ⟨m / 4, m % 4, by omega, by omega, by omega⟩
    have hal : a < (l.set i y).length := by rw [List.length_set]; exact ha
    rw [odsL_at hal hb, List.getElem?_set, List.getElem_set]
    by_cases e : i = a
    · subst e
      rw [if_pos rfl, hy, List.getElem?_set]
      by_cases e2 : j = b
      · subst e2
        rw [if_pos rfl, if_pos rfl, odsL_len, if_pos (by omega), if_pos (by rw [odL_len]; exact hj)]
      · rw [if_neg (by omega), if_neg e2, odsL_at hi hb]
    · rw [if_neg (by omega), if_neg e, odsL_at ha hb]
  · rw [List.getElem?_eq_none (by rw [List.length_set, odsL_len]; omega), List.getElem?_eq_none (by rw [odsL_len, List.length_set]; omega)]
theorem info_order : (Try.prog.info? 55).map (fun i => (i.zero, i.size, i.bytes)) = some (some (.agg #[.int .i64 0, .int .i64 0, .int .i64 0, .int .i64 0]), 4, 32) := by kernel_rfl
theorem ods_news {W : World} {ad : Addr} {n c : Nat} {l : List Od} (h : ROds W (.slice (some ad) n c) l) : ∀ j u, (odsL l)[j]? = some u → W.cell? (ad.add j) = some u := fun j u hu => by
  have hj : j < l.length * 4 := by rw [← odsL_len]; exact (List.getElem?_eq_some_iff.1 hu).1
  obtain ⟨a, b, ha, hb, rfl⟩ : ∃ a b, a < l.length ∧ b < 4 ∧ j = a * 4 + b := ⟨j / 4, j % 4, by omega, by omega, by omega⟩
  rw [odsL_at ha hb] at hu
  obtain ⟨b1, o1, he, ⟨q0, q1, q2, q3⟩, -⟩ := rsl_at h ha
  injection he with he
  subst he
  rw [plain_add]
  simp only at q0 q1 q2 q3
  obtain rfl | rfl | rfl | rfl : b = 0 ∨ b = 1 ∨ b = 2 ∨ b = 3 := by omega
  all_goals (simp only [odL, List.getElem?_cons_zero, List.getElem?_cons_succ, Option.some.injEq] at hu; subst hu)
  · exact q0
  · rw [← Nat.add_assoc]; exact q1
  · rw [← Nat.add_assoc]; exact q2
  · rw [← Nat.add_assoc]; exact q3
theorem own_form4 {w : World} {base : Nat} {e : TypeId} {v : Value} {n : Nat} {xs : List Value} {size : Nat} (h : w.ownsRow base e size v n xs) : ∃ a c, v = .slice a n c := by
  rcases h.2 with ⟨h1, h2⟩ | ⟨g, cap, cur, h1, -⟩
  · exact ⟨none, 0, by rw [h1, h2]⟩
  · exact ⟨_, _, h1⟩
theorem run_append_ods (ty : TypeId) (a : Option Addr) (n c : Nat) (l : List Od) (W : World) (h : ROds W (.slice a n c) l) (hn : n ≤ 100) : ∃ a' c' w', (Builtin.append_ #[26, 26] ty #[.slice none 0 0, .slice a n c]).run Try.prog W = .ok (.slice a' n c') w' ∧ w'.ownsRow W.heap.size 55 4 (.slice a' n c') n (odsL l) ∧ W.grownBy w' none := by
  obtain ⟨ii, hi, hzz⟩ := Option.map_eq_some_iff.1 info_order
  obtain ⟨hz0, hz1⟩ := Prod.mk.inj hzz
  obtain ⟨hz1, hz2⟩ := Prod.mk.inj hz1
  have hln : l.length = n := by
    obtain ⟨a1, c1, hv, -⟩ := h
    simp only [Value.slice.injEq] at hv
    exact hv.2.1.symm
  cases a with
  | none =>
    have h0 : n = 0 := by
      rcases Nat.eq_zero_or_pos n with h1 | h1
      · exact h1
      · obtain ⟨b, o, he, -⟩ := rsl_at h (i := 0) (by omega)
        cases he
    subst h0
    have hl0 : l = [] := List.eq_nil_of_length_eq_zero hln
    subst hl0
    refine ⟨none, 0, W, run_append_nothing W _ _ ty 55 ii Try.underlying26 hi none 0 0 (Nat.le_refl _) _ (Src.ofNil W Try.underlying26 c), World.ownsRow_nil _ _ _ _, ⟨rfl, rfl, rfl, Nat.le_refl _, fun _ _ _ => rfl⟩⟩
  | some ad =>
    obtain ⟨v', w', hr, h2, h3, -, -⟩ := run_append_own_at (P := Try.prog) W W.heap.size 26 ty 55 ii _ 4 32 Try.underlying26 hi hz0 hz1 hz2 rfl (by decide) (.slice none 0 0) 0 [] (World.ownsRow_nil _ _ _ _) ad n c (odsL l) (by rw [odsL_len, hln]) (ods_news h) odsL_one (by unfold maxLen; omega) (by omega) (Nat.le_refl _)
    rw [Nat.zero_add, List.nil_append] at h2
    obtain ⟨a', c', rfl⟩ := own_form4 h2
    exact ⟨a', c', w', hr, h2, h3⟩
theorem wpList_append_ods {w : World} {ops : Array Oper} {rest : List Oper} {o : Oper} {act : Act} {Q : Exit → Act → World → Prop} (hgd : o.guard = none) (s x : Operand)
    (ho : o.op = .call { callee := .builtin .append, args := #[s, x], argTypes := #[26, 26] })
    (a : Option Addr) (n c : Nat) (l : List Od) (hs : act.eval s = .slice none 0 0) (hx : act.eval x = .slice a n c) (h : ROds w (.slice a n c) l) (hn : n ≤ 100)
    (hk : ∀ a' c' w', w'.ownsRow w.heap.size 55 4 (.slice a' n c') n (odsL l) → w.grownBy w' none → wpList Try.prog ops Q rest (act.put o.dst (.slice a' n c')) w') : wpList Try.prog ops Q (o :: rest) act w := by
  refine wpList_plain hgd fun K hK => ?_
  obtain ⟨a', c', w', hr, h2, h3⟩ := run_append_ods o.type a n c l w h hn
  unfold Oper.wp execOp
  simp only [ho, resolve, invoke, builtin, Sem.run_bind, Sem.run_pure, Result.andThen_ok, List.map_toArray, List.map_cons, List.map_nil, hs, hx, hr]
  exact hK _ _ (hk a' c' w' h2 h3)
theorem own_ROds {w : World} {base : Nat} {e : TypeId} {v : Value} {l : List Od} (h : w.ownsRow base e 4 v l.length (odsL l)) (hm : l.length ≤ 140737488351232) (hi : ∀ x ∈ l, I64 x.art ∧ I64 x.qty ∧ I64 x.due ∧ I64 x.pen) : ROds w v l :=
  own_RSl h hm fun g cap _ hc i hil => by
    have h0 := flat_cell (c := odL) (n := 4) (fun _ => rfl) hc i 0 hil (by omega) _ rfl
    have h1 := flat_cell (c := odL) (n := 4) (fun _ => rfl) hc i 1 hil (by omega) _ rfl
    have h2 := flat_cell (c := odL) (n := 4) (fun _ => rfl) hc i 2 hil (by omega) _ rfl
    have h3 := flat_cell (c := odL) (n := 4) (fun _ => rfl) hc i 3 hil (by omega) _ rfl
    exact ⟨⟨h0, h1, h2, h3⟩, hi _ (List.getElem_mem hil)⟩
/-- an order of an own row: its cells, and what becomes of the row when one is changed. -/
theorem own_od {w : World} {base g c n : Nat} {e : TypeId} {l : List Od} (h : w.ownsRow base e 4 (.slice (some ⟨g, 0, none⟩) n c) n (odsL l)) {i : Nat} (hi : i < l.length) (hn : l.length = n) {j : Nat} (hj : j < 4) {u y : Value} (hu : (odL l[i])[j]? = some u) : w.cell? ⟨g, i * 4 + j, none⟩ = some u ∧ w.frozen? ⟨g, i * 4 + j, none⟩ = false := by
  refine ⟨?_, ?_⟩
  · rw [h.cellAt (i * 4 + j) (by omega), odsL_at hi hj, hu]
  · rcases h.2 with ⟨h1, -⟩ | ⟨g', cap, cur, h1, -, hh, -⟩
    · cases h1
    · injection h1 with h1 _ _
      injection h1 with h1
      injection h1 with h1 _ _
      subst h1
      simp [World.frozen?, hh]
theorem own_od_set {w : World} {base g c n : Nat} {e : TypeId} {l : List Od} (h : w.ownsRow base e 4 (.slice (some ⟨g, 0, none⟩) n c) n (odsL l)) {i : Nat} (hi : i < l.length) {j : Nat} (hj : j < 4) {u : Value} {y : Od} (hy : odL y = (odL l[i]).set j u) : (w.setCell ⟨g, i * 4 + j, none⟩ u).ownsRow base e 4 (.slice (some ⟨g, 0, none⟩) n c) n (odsL (l.set i y)) := by
  have := (h.stored (i * 4 + j) u).1
  rwa [odsL_set hi hj hy] at this
end Go.Proofs.Ytdffhkbncencgaa
