/- a region that draws its order, in a round of a range over a function: what the plain walk shows of it holds there; no statement is proved here. -/
import Derived.Test.YtaldpalhckdcdaaGreatDoorTill
import Derived.OrdersIn
import Derived.RangeFuncCalls
import Derived.TacticsInMore
import Derived.Test.YtaldpalhckdcdaaGreatDoorSmall
namespace Go.Proofs.YtaldpalhckdcdaaGreatDoor
open Go.RowKit
set_option linter.unusedVariables false
section
variable {P : Program} {ops : Array Oper} {Q : Exit → Act → World → Prop} {md : Region.Mode}
theorem rowsIn_of_rows {n : Nat} {ro : Option Nat} {row : String} {args : Array Value} {w : World} {R : Value → World → Prop} (h : Rows P row args w R) : RowsIn { Fence.wide with round := ro } n P row args w R := fun c cs _ => by
  obtain ⟨v, w', r, s⟩ := h c cs
  exact ⟨v, w', r, stepsIn_wide.2 s⟩

theorem operIn_of_oper {n : Nat} {ro : Option Nat} {o : Oper} (hd : ∀ c, o.op ≠ .defer c) {K : Act → World → Prop} {a : Act} {w : World} (h : o.wp P a w K Q) : o.wpIn { Fence.wide with round := ro } n P a w K Q := by
  unfold Oper.wp at h
  unfold Oper.wpIn
  refine ⟨fun _ _ => trivial, ?_⟩
  rw [Oper.semAt_eq ro a.eval o hd]
  generalize (execOp a.eval o).run P w = r at *
  cases r with
  | ok x w' =>
    cases x <;> simp only [Oper.upon, Oper.uponIn] at h ⊢ <;>
      first
        | exact h
        | exact ⟨fun h' => (by cases h'), callsIn_wide.2 h⟩
        | exact ⟨fun h' => (by cases h'), rowsIn_of_rows h⟩
        | exact h.elim
  | halt x w' => cases x <;> simp only [Oper.upon, Oper.uponIn] at h ⊢ <;> exact h

theorem wpOpIn_of_wpOp {n : Nat} {ro : Option Nat} (hd : ∀ o ∈ ops, ∀ c, o.op ≠ .defer c) (hQ : ¬ LetsOut Q) {i : Nat} {K : Act → World → Prop} {a : Act} {w : World} (h : wpOp P ops Q i K a w) : wpOpIn { Fence.wide with round := ro } n P ops Q i K a w := by
  unfold wpOp at h
  unfold wpOpIn
  cases ho : ops[i]? with
  | none => rw [ho] at h; exact h
  | some o =>
    rw [ho] at h
    dsimp only at h ⊢
    split
    · rename_i hw
      rw [if_pos hw] at h
      exact operIn_of_oper (hd o (Array.mem_of_getElem? ho)) (h.resolve_right fun h' => hQ h'.2)
    · rename_i hw
      rw [if_neg hw] at h
      exact ⟨fun _ _ => trivial, h⟩

theorem wpAnyIn_of_wpAny {n : Nat} {ro : Option Nat} (hd : ∀ o ∈ ops, ∀ c, o.op ≠ .defer c) (hQ : ¬ LetsOut Q) : ∀ {fuel : Nat} {listed : Array Bool} {a : Act} {w : World}, wpAny P md ops Q fuel listed a w → wpAnyIn { Fence.wide with round := ro } n P md ops Q fuel listed a w
  | 0, _, _, _, h => h
  | fuel + 1, _, _, _, h => ⟨h.1, fun i hi => wpOpIn_of_wpOp hd hQ (wpOp_mono (fun _ _ h' => wpAnyIn_of_wpAny hd hQ h') (h.2 i hi))⟩

/-- no operation is a defer statement. -/
def noDefer (ops : Array Oper) : Bool := ops.all fun o => match o.op with | .defer _ => false | _ => true
theorem noDefer_spec (h : noDefer ops = true) : ∀ o ∈ ops, ∀ c, o.op ≠ .defer c := fun o ho c hc => by
  have := Array.all_eq_true_iff_forall_mem.1 h o ho
  rw [hc] at this
  cases this

theorem wpIn_region_till (S : World → Prop) (k : Nat) {n : Nat} {ro : Option Nat} {id : Nat} {a : Act} {w : World} (hm : P.follows .mixedOrders = true) (hd : noDefer ops = true) (hQ : ¬ LetsOut Q) (hS : S w.drew)
    (h : S w.drew → Till P .any ops Q S k ops.size (Array.replicate ops.size false) a w.drew) : (Code.region id ops true).wpIn { Fence.wide with round := ro } n P Q a w :=
  wpIn_region_any hm (wpAnyIn_of_wpAny (noDefer_spec hd) hQ (h hS).any)

/-- just this frame in just this world. -/
def OnlyAt (A : Act) (W : World) : Exit → Act → World → Prop
  | .normal, a, w => a = A ∧ w = W
  | _, _, _ => False
theorem not_out (A : Act) (W : World) : ¬ LetsOut (OnlyAt A W) := fun ⟨_, _, h⟩ => h
theorem reg_post {F : Fence} {n : Nat} {c : Code} {a : Act} {w : World} (A : Act) (W : World) (h1 : c.wpIn F n P (OnlyAt A W) a w) (h2 : Q .normal A W) : c.wpIn F n P Q a w := by
  refine wpIn_mono h1 ?_
  rintro e a' w' h
  cases e <;> first | exact h.elim | skip
  obtain ⟨rfl, rfl⟩ := h
  exact h2

end
section
variable {P : Program} {ops : Array Oper} {Q : Exit → Act → World → Prop} {md : Region.Mode} {S : World → Prop} {n : Nat}
/-- numbers i and j may come up. -/
theorem Till.two (i j : Nat) {oi oj : Oper} {fuel : Nat} {listed : Array Bool} {a : Act} {w : World} (hoi : ops[i]? = some oi) (hoj : ops[j]? = some oj) (hr : Region.ready md ops listed = [i, j])
    (h1 : ∀ K' : Act → World → Prop, Shut (∀ a w, (i ≠ n → S w) → ((i ≠ n → S w) → Till P md ops Q S n fuel (listed.setIfInBounds i true) a w) → K' a w) → if Region.wanted oi (yielded ops a.tmps) = true then Oper.wp P oi a w K' Q else K' (a.put oi.dst undef) w)
    (h2 : ∀ K' : Act → World → Prop, Shut (∀ a w, (j ≠ n → S w) → ((j ≠ n → S w) → Till P md ops Q S n fuel (listed.setIfInBounds j true) a w) → K' a w) → if Region.wanted oj (yielded ops a.tmps) = true then Oper.wp P oj a w K' Q else K' (a.put oj.dst undef) w) :
    Till P md ops Q S n (fuel + 1) listed a w := by
  refine ⟨fun h0 => absurd (hr ▸ h0) (by simp), fun k hk => ?_⟩
  rw [hr] at hk
  have hk' : k = i ∨ k = j := by simpa using hk
  rcases hk' with rfl | rfl
  · exact wpOp_step hoi (fun K' hK => h1 K' (fun a w hS hW => hK a w ⟨hS, hW hS⟩))
  · exact wpOp_step hoj (fun K' hK => h2 K' (fun a w hS hW => hK a w ⟨hS, hW hS⟩))
end
end Go.Proofs.YtaldpalhckdcdaaGreatDoor

namespace Go.Proofs.YtaldpalhckdcdaaGreatDoor
open Go.RowKit Go.PlainAid
set_option linter.unusedVariables false
attribute [local go_sem] Oper.semAt_some
def encR (l : List Rg) : List (Array Value) := l.mapIdx fun i r => #[.int .i64 (i : Int), .agg (rgCells r).toArray]
theorem encR_at {l : List Rg} {k : Nat} (h : k < l.length) : (encR l)[k]? = some #[.int .i64 (k : Int), .agg (rgCells l[k]).toArray] := by
  unfold encR
  rw [List.getElem?_mapIdx, List.getElem?_eq_getElem h]
  rfl
theorem encR_len (l : List Rg) : (encR l).length = l.length := by simp [encR]
theorem encR_ix {l : List Rg} {k : Nat} {x : Array Value} (h : (encR l)[k]? = some x) : ∃ hk : k < l.length, x = #[.int .i64 (k : Int), .agg (rgCells l[k]).toArray] := by
  have hk : k < l.length := by
    have := (List.getElem?_eq_some_iff.1 h).1
    rw [encR_len] at this; exact this
  exact ⟨hk, by rw [encR_at hk] at h; exact (Option.some.inj h).symm⟩

theorem grown_new (W : World) (o : Obj) : W.grownBy (W.alloc o) none := World.grownBy_alloc W o none

set_option maxHeartbeats 1000000 in
set_option maxRecDepth 100000 in
theorem ringIt_any (S : Nat → Prop) (F : Fence) (n : Nat) (hF : F.fn 72) (hro : F.round = none) (hd : F.depth = none) (v0 : Value) (b : Bot) (Bn : Nat) (w : World)
    (h : RRgs (vis (fun k => ¬ S k) w) v0 b.rings) (hSB : ¬ S Bn) (hBn : Blk w Bn #[v0, .int .i64 b.flaw, .int .i64 b.tough] 24) :
    SeqP S F n Tryz.prog 72 #[.pointer (some ⟨Bn, 0, none⟩)] (encR b.rings) w := by
  intro l J R W hW hJ hY h0 hE
  rw [encR_len] at hE
  have hWb := hW.blk hBn hSB hBn.lt
  have f0 := hWb.cell 0 _ rfl
  have hBl := hBn.lt
  obtain ⟨a, cap, rfl, hc1, ⟨hc2, hm⟩, hl⟩ := h
  refine callsIn_of_wp Tryz.func72 rfl hF ?_ hro
  simp only [Tryz.ntmps72, List.size_toArray, List.length_cons, List.length_nil, Nat.reduceAdd, Nat.reduceSub, Array.replicate_succ, Array.replicate_zero, List.push_toArray, List.append_toArray, List.nil_append, List.cons_append]
  gi_wp2
  gi_loopw [8] (fun i wr => ∃ (k : Nat), k ≤ b.rings.length ∧ i = .int .i64 k ∧ J k wr ∧ BelS S w.heap.size w wr ∧ W.heap.size ≤ wr.heap.size) (fun i _ => b.rings.length - (intOf i).toNat)
  case atStart => exact ⟨0, Nat.zero_le _, rfl, h0, hW, Nat.le_refl _⟩
  case round =>
    obtain ⟨k, hk, rfl, hJk, hB, hsz⟩ := hrel
    by_cases hlt : k < b.rings.length
    · obtain ⟨b1, o1, rfl, hcr, hir⟩ := hl k hlt
      have hyk := fun W1 => hY k _ W1 (encR_at hlt)
      clear hY hE
      generalize b.rings[k] = r at hcr hir hyk
      have e0 := hcr 0 _ rfl
      have l0 := cell_lt (vis_cell.1 e0).2
      simp only at l0
      have hx : ∀ j, j < 10 → wr.cell? ⟨b1, o1 + k * 10 + j, none⟩ = (rgCells r)[j]? := fun j hj => by
        have hj' : j < (rgCells r).length := hj
        rw [List.getElem?_eq_getElem hj']
        exact hB.ext _ _ (hcr j _ (List.getElem?_eq_getElem hj'))
      have x0 := hx 0 (by omega)
      have x1 := hx 1 (by omega)
      have x2 := hx 2 (by omega)
      have x3 := hx 3 (by omega)
      have x4 := hx 4 (by omega)
      have x5 := hx 5 (by omega)
      have x6 := hx 6 (by omega)
      have x7 := hx 7 (by omega)
      have x8 := hx 8 (by omega)
      have x9 := hx 9 (by omega)
      have i1 : (0 : Int) ≤ (k : Int) := Int.natCast_nonneg _
      have i2 : (k : Int) < (b.rings.length : Int) := by omega
      have hJ1 : J k (wr.alloc (.cells (rgCells r).toArray 63)) := hJ k wr _ none hJk (grown_new _ _) (fun r e => by cases e)
      obtain ⟨fn, tmps, assign, body, hy, hR⟩ := hyk _ hJ1
      simp only [rgCells, Nat.add_zero, List.getElem?_cons_zero, List.getElem?_cons_succ] at x0 x1 x2 x3 x4 x5 x6 x7 x8 x9 hy hR
      clear hx hcr hir hyk hJ1 e0
      gi_wp2
      refine hR.mono ?_
      rintro e W3 (⟨rfl, hJ3, hb3⟩ | ⟨rfl, hR3⟩ | ⟨ch, rfl, hR3⟩)
      · have hB3 : BelS S w.heap.size w W3 := (hB.trans (BelS.of_below ((below_boxS wr _).mono hB.size))).trans hb3
        have hs3 : W.heap.size ≤ W3.heap.size := Nat.le_trans hsz (Nat.le_trans (by simp) hb3.size)
        clear hy hR hB hJk
        gi_wp2
        go_roundw
        case rel => exact ⟨k + 1, by omega, by go_num, hJ3, hB3, hs3⟩
        case measure => simp [intOf]; omega
      · clear hy hR hB hJk
        gi_wp2
        refine bodyPost_ret (results_none rfl _ _ _) rfl ?_
        exact hR3
      · clear hy hR hB hJk
        gi_wp2
        exact ⟨rfl, hR3⟩
    · have hke : k = b.rings.length := by omega
      subst hke
      gi_wp2
      go_end0
      exact hE _ hJk

end Go.Proofs.YtaldpalhckdcdaaGreatDoor
