/- The iterator over a bottle's rings: its contract; no statement is proved here. -/
import Derived.Test.YtmmlocjiegkjeaaGreatDoorSmall
namespace Go.Proofs.YtmmlocjiegkjeaaGreatDoor
open Go.RowKit Go.PlainAid
set_option linter.unusedVariables false
attribute [local go_sem] Oper.semAt_some
def encR (l : List Rg) : List (Array Value) := l.mapIdx fun i r => #[.int .i64 (i : Int), .agg (rgCells r).toArray]
theorem encR_at {l : List Rg} {k : Nat} (h : k < l.length) : (encR l)[k]? = some #[.int .i64 (k : Int), .agg (rgCells l[k]).toArray] := by
  unfold encR
  rw [List.getElem?_mapIdx, List.getElem?_eq_getElem h]
  rfl
theorem encR_len (l : List Rg) : (encR l).length = l.length := by simp [encR]
theorem encR_ix {l : List Rg} {k : Nat} {x : Array Value} (h : (encR l)[k]? = some x) : ∃ hk : k < l.length, x = #[.int .i64 (k : Int), .agg (rgCells l[k]).toArray] := by
  have hk : k < l.length := by
    have := (List.getElem?_eq_some_iff.1 h).1
    rw [encR_len] at this; exact this
  exact ⟨hk, by rw [encR_at hk] at h; exact (Option.some.inj h).symm⟩

theorem grown_new (W : World) (o : Obj) : W.grownBy (W.alloc o) none := World.grownBy_alloc W o none

set_option maxHeartbeats 1000000 in
set_option maxRecDepth 100000 in
theorem ringIt_any (S : Nat → Prop) (F : Fence) (n : Nat) (hF : F.fn 59) (hro : F.round = none) (hd : F.depth = none) (v0 : Value) (b : Bot) (Bn : Nat) (w : World)
    (h : RRgs (vis (fun k => ¬ S k) w) v0 b.rings) (hSB : ¬ S Bn) (hBn : Blk w Bn #[v0, .int .i64 b.flaw, .int .i64 b.tough] 57) :
    SeqP S F n Tryz.prog 59 #[.pointer (some ⟨Bn, 0, none⟩)] (encR b.rings) w := by
  intro l J R W hW hJ hY h0 hE
  rw [encR_len] at hE
  have hWb := hW.blk hBn hSB hBn.lt
  have f0 := hWb.cell 0 _ rfl
  have hBl := hBn.lt
  obtain ⟨a, cap, rfl, hc1, ⟨hc2, hm⟩, hl⟩ := h
  refine callsIn_of_wp Tryz.func59 rfl hF ?_ hro
  simp only [Tryz.ntmps59, List.size_toArray, List.length_cons, List.length_nil, Nat.reduceAdd, Nat.reduceSub, Array.replicate_succ, Array.replicate_zero, List.push_toArray, List.append_toArray, List.nil_append, List.cons_append]
  gi_wp2
  gi_loopw [8] (fun i wr => ∃ (k : Nat), k ≤ b.rings.length ∧ i = .int .i64 k ∧ J k wr ∧ BelS S w.heap.size w wr ∧ W.heap.size ≤ wr.heap.size) (fun i _ => b.rings.length - (intOf i).toNat)
  case atStart => exact ⟨0, Nat.zero_le _, rfl, h0, hW, Nat.le_refl _⟩
  case round =>
    obtain ⟨k, hk, rfl, hJk, hB, hsz⟩ := hrel
    by_cases hlt : k < b.rings.length
    · obtain ⟨b1, o1, rfl, hcr, hir⟩ := hl k hlt
      have hyk := fun W1 => hY k _ W1 (encR_at hlt)
      clear hY hE
      generalize b.rings[k] = r at hcr hir hyk
      have e0 := hcr 0 _ rfl
      have l0 := cell_lt (vis_cell.1 e0).2
      simp only at l0
      have hx : ∀ j, j < 10 → wr.cell? ⟨b1, o1 + k * 10 + j, none⟩ = (rgCells r)[j]? := fun j hj => by
        have hj' : j < (rgCells r).length := hj
        rw [List.getElem?_eq_getElem hj']
        exact hB.ext _ _ (hcr j _ (List.getElem?_eq_getElem hj'))
      have x0 := hx 0 (by omega)
      have x1 := hx 1 (by omega)
      have x2 := hx 2 (by omega)
      have x3 := hx 3 (by omega)
      have x4 := hx 4 (by omega)
      have x5 := hx 5 (by omega)
      have x6 := hx 6 (by omega)
      have x7 := hx 7 (by omega)
      have x8 := hx 8 (by omega)
      have x9 := hx 9 (by omega)
      have i1 : (0 : Int) ≤ (k : Int) := Int.natCast_nonneg _
      have i2 : (k : Int) < (b.rings.length : Int) := by omega
      have hJ1 : J k (wr.alloc (.cells (rgCells r).toArray 88)) := hJ k wr _ none hJk (grown_new _ _) (fun r e => by cases e)
      obtain ⟨fn, tmps, assign, body, hy, hR⟩ := hyk _ hJ1
      simp only [rgCells, Nat.add_zero, List.getElem?_cons_zero, List.getElem?_cons_succ] at x0 x1 x2 x3 x4 x5 x6 x7 x8 x9 hy hR
      clear hx hcr hir hyk hJ1 e0
      gi_wp2
      refine hR.mono ?_
      rintro e W3 (⟨rfl, hJ3, hb3⟩ | ⟨rfl, hR3⟩ | ⟨ch, rfl, hR3⟩)
      · have hB3 : BelS S w.heap.size w W3 := (hB.trans (BelS.of_below ((below_boxS wr _).mono hB.size))).trans hb3
        have hs3 : W.heap.size ≤ W3.heap.size := Nat.le_trans hsz (Nat.le_trans (by simp) hb3.size)
        clear hy hR hB hJk
        gi_wp2
        go_roundw
        case rel => exact ⟨k + 1, by omega, by go_num, hJ3, hB3, hs3⟩
        case measure => simp [intOf]; omega
      · clear hy hR hB hJk
        gi_wp2
        refine bodyPost_ret (results_none rfl _ _ _) rfl ?_
        exact hR3
      · clear hy hR hB hJk
        gi_wp2
        exact ⟨rfl, hR3⟩
    · have hke : k = b.rings.length := by omega
      subst hke
      gi_wp2
      go_end0
      exact hE _ hJk

end Go.Proofs.YtmmlocjiegkjeaaGreatDoor
