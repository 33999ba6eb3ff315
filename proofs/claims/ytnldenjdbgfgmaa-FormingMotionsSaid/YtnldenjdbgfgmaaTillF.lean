/- A region that draws its order inside a fence without a round, with a call of a yield in it: what is held is held till the last operation; no statement is proved here. -/
import Derived.Test.YtnldenjdbgfgmaaTill
import Derived.OrdersIn
import Derived.TacticsInMore
namespace Go.Proofs.Ytnldenjdbgfgmaa
open Go.RowKit
set_option linter.unusedVariables false

section
variable {F : Fence} {m : Nat} {P : Program} {ops : Array Oper} {Q : Exit → Act → World → Prop} {md : Region.Mode} {S : World → Prop} {n : Nat}

/-- it yields where S holds, and is about no function. -/
def YF (P : Program) (ops : Array Oper) (S : World → Prop) (o : Oper) (v : Value) (a : Act) : Prop := YieldsIf P ops S o v a ∧ ∀ w, o.about P w a.eval = none

theorem YF.op {i : Nat} {o : Oper} {v : Value} {a : Act} {K : Act → World → Prop} {w : World} (hro : F.round = none) (hi : ops[i]? = some o) (hy : YF P ops S o v a) (hS : S w) (h : K (a.put o.dst v) w) : wpOpIn F m P ops Q i K a w := by
  have hab : ∀ f, o.about P w a.eval = some f → F.fn f := fun f hf => by rw [hy.2 w] at hf; cases hf
  unfold wpOpIn
  simp only [hi]
  rcases hy.1 with ⟨hw, hv⟩ | ⟨hw, rfl⟩
  · rw [if_pos hw]
    refine ⟨hab, ?_⟩
    rw [hro, Oper.semAt_none, hv w hS]
    exact h
  · rw [if_neg (by rw [hw]; decide)]
    exact ⟨hab, h⟩

theorem YF.put {j : Nat} {oi oj : Oper} {v : Value} {K : Act → World → Prop} {a : Act} {w : World} (hro : F.round = none) (hj : ops[j]? = some oj) (hap : oi.apart ops oj = true) (hsi : ∀ cs b, oi.op ≠ .select cs b) (hsj : ∀ cs b, oj.op ≠ .select cs b)
    (hQ : ∀ c a w, Q (.panic c) (a.put oi.dst v) w → Q (.panic c) a w) (hy : YF P ops S oi v a) (h : wpOpIn F m P ops Q j K (a.put oi.dst v) w) : wpOpIn F m P ops Q j (fun a' w' => YF P ops S oi v a' ∧ K (a'.put oi.dst v) w') a w := by
  obtain ⟨p1, p2, p3⟩ := Oper.apart_spec hap
  have stay : ∀ u, YF P ops S oi v (a.put oj.dst u) := fun u => ⟨hy.1.of_same (execOp_put oi hsi a oj.dst u p3) (wanted_put oi a oj.dst u p3), fun w => by rw [about_put oi w a oj.dst u p3]; exact hy.2 w⟩
  unfold wpOpIn at *
  simp only [hj] at *
  rw [wanted_put oj a oi.dst v p1, about_put oj w a oi.dst v p1] at h
  by_cases hw : Region.wanted oj (yielded ops a.tmps) = true
  case neg =>
    rw [if_neg hw] at h ⊢
    exact ⟨h.1, stay _, by rw [← Act.put_comm a v undef p2]; exact h.2⟩
  rw [if_pos hw] at h ⊢
  unfold Oper.wpIn at *
  rw [about_put oj w a oi.dst v p1] at h
  obtain ⟨hab, h⟩ := h
  refine ⟨hab, ?_⟩
  rw [hro, Oper.semAt_none] at h ⊢
  rw [execOp_put oj hsj a oi.dst v p1] at h
  have post : ∀ (u : Value) (w'' : World), K ((a.put oi.dst v).put oj.dst u) w'' → YF P ops S oi v (a.put oj.dst u) ∧ K ((a.put oj.dst u).put oi.dst v) w'' := fun u w'' hk => ⟨stay u, by rw [← Act.put_comm a v u p2]; exact hk⟩
  generalize (execOp a.eval oj).run P w = r at *
  cases r with
  | halt x w' =>
    cases x <;> simp only [Oper.uponIn] at h ⊢
    exact hQ _ _ _ h
  | ok x w' =>
    cases x <;> simp only [Oper.uponIn] at h ⊢
    case value u => exact post u _ h
    case skip => exact post _ _ h
    case defer d =>
      have hd : YF P ops S oi v { a with defers := d :: a.defers } := ⟨hy.1.of_same rfl rfl, fun w => hy.2 w⟩
      refine ⟨⟨hd.1.of_same (execOp_put oi hsi _ oj.dst _ p3) (wanted_put oi _ oj.dst _ p3), fun w => by rw [about_put oi w _ oj.dst _ p3]; exact hd.2 w⟩, ?_⟩
      rw [← Act.put_comm _ v undef p2, ← Act.put_defers]
      exact h
    case enter f args =>
      refine ⟨h.1, CallsIn.mono h.2 fun e w'' he => ?_⟩
      cases e with
      | returned u => exact post u _ he
      | panicked c => exact hQ _ _ _ he
      | outgrown => exact he
    case row row args => exact ⟨h.1, RowsIn.mono h.2 fun u w'' he => post u _ he⟩
    case round l f tmps assign body =>
      refine ⟨h.1, RoundIn.mono h.2 fun e w'' he => ?_⟩
      cases e with
      | returned u => exact post u _ he
      | panicked c => exact hQ _ _ _ he
      | outgrown => exact he

/-- one of the first n operations has not come up. -/
def opn (n : Nat) (listed : Array Bool) : Bool := (List.range n).any fun r => !(listed.getD r true)
theorem opn_of {n r : Nat} {listed : Array Bool} (hr : r < n) (hl : listed.getD r true = false) : opn n listed = true :=
  List.any_eq_true.2 ⟨r, List.mem_range.2 hr, by rw [hl]; rfl⟩
/-- one of the first n operations that has not come up waits for number i. -/
def waitsR (md : Region.Mode) (ops : Array Oper) (n : Nat) (listed : Array Bool) (i : Nat) : Bool :=
  (List.range n).any fun r => !(listed.getD r true) && r != i && match ops[r]? with | some o => o.after.any fun e => Region.binds md e && e.on == i | none => false
theorem waitsR_spec {i : Nat} {listed : Array Bool} (hw : waitsR md ops n listed i = true) : ∃ r, r < n ∧ listed.getD r true = false ∧ r ≠ i ∧ ∃ o, ops[r]? = some o ∧ (o.after.any fun e => Region.binds md e && e.on == i) = true := by
  obtain ⟨r, hr, h⟩ := List.any_eq_true.1 hw
  simp only [Bool.and_eq_true, Bool.not_eq_true', bne_iff_ne] at h
  obtain ⟨⟨h1, h2⟩, h3⟩ := h
  cases ho : ops[r]? with
  | none => rw [ho] at h3; cases h3
  | some o => rw [ho] at h3; exact ⟨r, List.mem_range.1 hr, h1, h2, o, ho, h3⟩
theorem not_yetR {i r : Nat} {o : Oper} {listed : Array Bool} (ho : ops[r]? = some o) (hw : (o.after.any fun e => Region.binds md e && e.on == i) = true) (hi : i ∈ Region.ready md ops listed) : ∀ j ∈ Region.ready md ops listed, j ≠ r := by
  intro j hj hjr
  subst hjr
  obtain ⟨_, o', ho', hall⟩ := mem_ready.1 hj
  rw [ho] at ho'
  cases ho'
  obtain ⟨k, hk, he⟩ := Array.any_eq_true.1 hw
  simp only [Bool.and_eq_true, beq_iff_eq] at he
  have h1 := hall _ (Array.getElem_mem hk) he.1
  rw [he.2] at h1
  have h0 := (mem_ready.1 hi).1
  rcases Nat.lt_or_ge i listed.size with h | h
  · simp [h] at h0 h1
    rw [h0] at h1
    cases h1
  · simp [Array.getElem?_eq_none h] at h1

/-- whatever order is picked; S holds as long as one of the first n operations has not come up. -/
def TillF (F : Fence) (m : Nat) (P : Program) (md : Region.Mode) (ops : Array Oper) (Q : Exit → Act → World → Prop) (S : World → Prop) (n : Nat) : Nat → Array Bool → Act → World → Prop
  | 0, listed, a, w => Region.ready md ops listed = [] ∧ Q .normal a w
  | fuel + 1, listed, a, w => (Region.ready md ops listed = [] → Q .normal a w) ∧ ∀ i ∈ Region.ready md ops listed, wpOpIn F m P ops Q i (fun a' w' => (opn n (listed.setIfInBounds i true) = true → S w') ∧ TillF F m P md ops Q S n fuel (listed.setIfInBounds i true) a' w') a w

theorem TillF.any : ∀ {fuel : Nat} {listed : Array Bool} {a : Act} {w : World}, TillF F m P md ops Q S n fuel listed a w → wpAnyIn F m P md ops Q fuel listed a w
  | 0, _, _, _, h => h
  | _ + 1, _, _, _, h => ⟨h.1, fun i hi => wpOpIn_mono (fun _ _ h' => TillF.any h'.2) (h.2 i hi)⟩

theorem TillF.first {i : Nat} {oi : Oper} {v : Value} (hro : F.round = none) (hi : ops[i]? = some oi) (hsel : ∀ (j : Nat) (o : Oper) cs b, ops[j]? = some o → o.op ≠ .select cs b)
    (hQ : ∀ c a w, Q (.panic c) (a.put oi.dst v) w → Q (.panic c) a w) :
    ∀ (fuel : Nat) (listed : Array Bool) (a : Act) (w : World), waitsR md ops n listed i = true →
      (∀ j oj, ops[j]? = some oj → j ≠ i → listed.getD j true = false → (∀ e ∈ oj.after, Region.binds md e = true → e.on ≠ i) → oi.apart ops oj = true) →
      i ∈ Region.ready md ops listed → YF P ops S oi v a → S w →
      TillF F m P md ops Q S n fuel (listed.setIfInBounds i true) (a.put oi.dst v) w → TillF F m P md ops Q S n (fuel + 1) listed a w := by
  intro fuel
  induction fuel with
  | zero =>
    intro listed a w hwt _ hr hy hS H
    refine ⟨fun h => (by rw [h] at hr; cases hr), fun j hj => ?_⟩
    by_cases hji : j = i
    · subst hji; exact hy.op hro hi hS ⟨fun _ => hS, H⟩
    · have := ready_mono hj hji
      rw [H.1] at this
      cases this
  | succ fuel ih =>
    intro listed a w hwt hfree hr hy hS H
    refine ⟨fun h => (by rw [h] at hr; cases hr), fun j hj => ?_⟩
    by_cases hji : j = i
    · subst hji; exact hy.op hro hi hS ⟨fun _ => hS, H⟩
    obtain ⟨r, hrn, hrl, hri, or, hor, hrw⟩ := waitsR_spec hwt
    have hjr : j ≠ r := not_yetR hor hrw hr j hj
    have hkeep : opn n ((listed.setIfInBounds i true).setIfInBounds j true) = true := opn_of hrn (by rw [getD_set_ne true hjr, getD_set_ne true (Ne.symm hri)]; exact hrl)
    have hwt' : waitsR md ops n (listed.setIfInBounds j true) i = true := List.any_eq_true.2 ⟨r, List.mem_range.2 hrn, by
      rw [getD_set_ne true hjr, hrl, hor]
      simp only [Bool.not_false, Bool.true_and, Bool.and_eq_true, bne_iff_ne]
      exact ⟨hri, hrw⟩⟩
    have h1 := H.2 j (ready_mono hj hji)
    obtain ⟨hjun, oj, hoj, hall⟩ := mem_ready.1 hj
    have hnot : ∀ e ∈ oj.after, Region.binds md e = true → e.on ≠ i := fun e he hb heq => by
      have q1 := hall e he hb
      have q0 := (mem_ready.1 hr).1
      rw [heq] at q1
      rcases Nat.lt_or_ge i listed.size with h' | h'
      · simp [h'] at q0 q1; rw [q0] at q1; cases q1
      · simp [Array.getElem?_eq_none h'] at q1
    have h2 := YF.put hro hoj (hfree j oj hoj hji hjun hnot) (fun cs b => hsel i oi cs b hi) (fun cs b => hsel j oj cs b hoj) hQ hy h1
    have hfree' : ∀ k ok, ops[k]? = some ok → k ≠ i → (listed.setIfInBounds j true).getD k true = false →
        (∀ e ∈ ok.after, Region.binds md e = true → e.on ≠ i) → oi.apart ops ok = true := fun k ok hk hki hun hno => by
      refine hfree k ok hk hki ?_ hno
      by_cases hjk : j = k
      · subst hjk; exact hjun
      · rw [getD_set_ne true hjk] at hun; exact hun
    refine wpOpIn_mono (fun a' w' h3 => ⟨fun _ => h3.2.1 hkeep, ih (listed.setIfInBounds j true) a' w' hwt' hfree' (ready_mono hr (Ne.symm hji)) h3.1 (h3.2.1 hkeep) ?_⟩) h2
    rw [Array.setIfInBounds_comm _ _ hji]
    exact h3.2.2

/-- number i is taken first. -/
theorem TillF.take (i : Nat) (d : Option Nat) {oi : Oper} {v : Value} {fuel : Nat} {listed : Array Bool} {a : Act} {w : World} (hro : F.round = none) (hi : ops[i]? = some oi) (hd : oi.dst = d)
    (hs : Region.noSelect ops = true) (hf : Region.free md ops listed i = true) (hr : (Region.ready md ops listed).contains i = true) (hwt : waitsR md ops n listed i = true)
    (hQ : ∀ c a w, Q (.panic c) (a.put d v) w → Q (.panic c) a w) (hy : YieldsIf P ops S oi v a) (hab : ∀ w, oi.about P w a.eval = none) (hS : S w)
    (h : TillF F m P md ops Q S n fuel (listed.setIfInBounds i true) (a.put d v) w) : TillF F m P md ops Q S n (fuel + 1) listed a w := by
  subst hd
  exact TillF.first hro hi (Region.noSelect_spec hs) hQ fuel listed a w hwt (Region.free_spec hi hf) (by simpa using hr) ⟨hy, hab⟩ hS h

/-- number i alone may come up, and none of the first n is left. -/
theorem TillF.last (i : Nat) {o : Oper} {fuel : Nat} {listed : Array Bool} {a : Act} {w : World} (ho : ops[i]? = some o) (hr : Region.ready md ops listed = [i])
    (hwn : Region.wanted o (yielded ops a.tmps) = true) (hop : opn n (listed.setIfInBounds i true) = false)
    (h : ∀ K' : Act → World → Prop, Shut (∀ a w, TillF F m P md ops Q S n fuel (listed.setIfInBounds i true) a w → K' a w) → Oper.wpIn F m P o a w K' Q) :
    TillF F m P md ops Q S n (fuel + 1) listed a w := by
  refine ⟨fun h0 => absurd (hr ▸ h0) (by simp), fun j hj => ?_⟩
  rw [hr] at hj
  obtain rfl : j = i := by simpa using hj
  unfold wpOpIn
  simp only [ho]
  rw [if_pos hwn]
  exact h _ (fun a w hW => ⟨fun h0 => (by rw [hop] at h0; cases h0), hW⟩)

theorem TillF.done {listed : Array Bool} {a : Act} {w : World} (hr : Region.ready md ops listed = []) (h : Q .normal a w) : ∀ fuel, TillF F m P md ops Q S n fuel listed a w
  | 0 => ⟨hr, h⟩
  | _ + 1 => ⟨fun _ => h, by rw [hr]; simp⟩

theorem wpIn_region_tillF (S : World → Prop) (n : Nat) {id : Nat} {a : Act} {w : World} (hm : P.follows .mixedOrders = true) (hS : S w.drew)
    (h : S w.drew → TillF F m P .any ops Q S n ops.size (Array.replicate ops.size false) a w.drew) : (Code.region id ops true).wpIn F m P Q a w :=
  wpIn_region_any hm (h hS).any

end
end Go.Proofs.Ytnldenjdbgfgmaa
