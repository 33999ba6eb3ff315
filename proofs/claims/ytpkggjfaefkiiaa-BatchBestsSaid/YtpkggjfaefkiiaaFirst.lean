/- first, the specification's search, by its contract; no statement is proved here. -/
import Derived.Test.YtpkggjfaefkiiaaChM
import Derived.Test.YtpkggjfaefkiiaaCheap2
import Derived.Test.YtpkggjfaefkiiaaRLines
import Derived.Deep.AppendLies
import Derived.Deep.OwnRows
namespace Go.Proofs.Ytpkggjfaefkiiaa
open Go.RowKit Go.PlainAid
set_option linter.unusedVariables false

/-- a recipe, or none. -/
def ROpt (n : Nat) (w : World) (v : Value) : Option (List Int) → Prop
  | none => v = .slice none 0 0
  | some r => RInts w v r ∧ r.length = n
theorem ROpt.mono {n : Nat} {w w' : World} {v : Value} {o : Option (List Int)} (h : ROpt n w v o) (e : Ext w w') : ROpt n w' v o := by
  cases o with
  | none => exact h
  | some r => exact ⟨h.1.mono e, h.2⟩
theorem ROpt.slice {n : Nat} {w : World} {v : Value} {o : Option (List Int)} (h : ROpt n w v o) : ∃ a l k, v = .slice a l k := by
  cases o with
  | none => exact ⟨_, _, _, h⟩
  | some r =>
    obtain ⟨a, k, e, -⟩ := h.1
    exact ⟨a, _, k, e⟩
def RetOpt (n : Nat) (w : World) (o : Option (List Int)) (e : Ending) (w' : World) : Prop := ∃ v, e = .returned v ∧ ROpt n w' v o ∧ Below w.heap.size w w'

/-- what one recipe makes of the best one. -/
def refStep (b : Bat) (keeps : List Int → Bool) (o : Option (List Int)) (r : List Int) : Option (List Int) :=
  if keeps r = true ∧ (o = none ∨ ∃ q, o = some q ∧ dotB (b.mats.map Mat.price) r < dotB (b.mats.map Mat.price) q) then some r else o
/-- what is behind so many of the numbers. -/
def refOver (b : Bat) (keeps : List Int → Bool) (h : List Int) (o : Option (List Int)) : Option (List Int) := ((recsM (b.mats.drop h.length)).map (h ++ ·)).foldl (refStep b keeps) o

theorem ref_leaf (b : Bat) (keeps : List Int → Bool) (h : List Int) (o : Option (List Int)) (hl : h.length = b.mats.length) : refOver b keeps h o = refStep b keeps o h := by
  unfold refOver
  rw [hl, List.drop_of_length_le (Nat.le_refl _)]
  simp [recsM]
theorem foldl_flat {α β γ : Type} (f : β → α → β) (g : γ → List α) : ∀ (l : List γ) (o : β), (l.flatMap g).foldl f o = l.foldl (fun o x => (g x).foldl f o) o := by
  intro l
  induction l with
  | nil => intro o; rfl
  | cons x l ih => intro o; rw [List.flatMap_cons, List.foldl_append, ih, List.foldl_cons]
theorem ref_node (b : Bat) (keeps : List Int → Bool) (h : List Int) (o : Option (List Int)) (hl : h.length < b.mats.length) :
    refOver b keeps h o = (valsM (b.mats[h.length])).foldl (fun o x => refOver b keeps (h ++ [x]) o) o := by
  unfold refOver
  rw [List.drop_eq_getElem_cons hl, recsM, List.map_flatMap, foldl_flat]
  congr 1
  funext o x
  rw [List.length_append, List.length_singleton, List.map_map]
  congr 2
  funext y
  simp
theorem ref_len {b : Bat} {keeps : List Int → Bool} {n : Nat} : ∀ (l : List (List Int)) (o : Option (List Int)), (∀ r ∈ l, r.length = n) → (∀ r, o = some r → r.length = n) → ∀ r, l.foldl (refStep b keeps) o = some r → r.length = n := by
  intro l
  induction l with
  | nil => intro o _ ho r h; exact ho r h
  | cons x l ih =>
    intro o hl ho r h
    rw [List.foldl_cons] at h
    refine ih _ (fun r hr => hl r (List.mem_cons_of_mem _ hr)) (fun q hq => ?_) r h
    unfold refStep at hq
    split at hq
    · cases hq; exact hl x List.mem_cons_self
    · exact ho q hq

theorem vals_more {m : Mat} (h : StOk m) (q : Nat) : m.least + (q : Int) * m.step ≤ m.most ↔ q < (valsM m).length := by
  rw [vals_len]
  have h1 : 0 ≤ stepsE m := Int.ediv_nonneg (by have := h.le; omega) (by have := h.step; omega)
  have h2 := Int.le_ediv_iff_mul_le (a := (q : Int)) (b := m.most - m.least) h.step
  unfold stepsE at h1 ⊢
  omega

section
variable {P : Program} {w : World}
theorem run_append_none {t e : TypeId} {i : TypeInfo} (ty : TypeId) (ht : P.underlying t = some (.slice e)) (hi : P.info? e = some i) (A : Option Addr) (c : Nat) :
    (Builtin.append_ #[t, t] ty #[.slice none 0 0, .slice A 0 c]).run P w = .ok (.slice none 0 0) w := by
  cases A <;> simp [Builtin.append_, run_underlying ht, sizeOf, typeInfo, hi, Builtin.lenOf, Builtin.firstCells, loadCells, loadCellsFrom]
end

/-- append of numbers onto nothing, in whatever order. -/
theorem step_nil_ints {ops : Array Oper} {o : Oper} {a : Act} {K : Act → World → Prop} {Q : Exit → Act → World → Prop} {E : Prop} {w : World} (hgd : o.guard = none) (s x : Operand)
    (ho : o.op = .call { callee := .builtin .append, args := #[s, x], argTypes := #[37, 37] }) (hs : a.eval s = .slice none 0 0) (v : Value) (l : List Int) (hx : a.eval x = v) (hl : RInts w v l) (hn : l.length ≤ 1000)
    (h : ∀ v' w', w'.ownsRow w.heap.size 3 1 v' l.length (l.map (Value.int .i64)) → Below w.heap.size w w' → K (a.put o.dst v') w') :
    if Region.wanted o (yielded ops a.tmps) = true then Oper.wp Try.prog o a w K Q else E := by
  have hw : Region.wanted o (yielded ops a.tmps) = true := by simp [Region.wanted, hgd]
  rw [if_pos hw]
  obtain ⟨i0, hi, hz0, hz1, hz2⟩ := info_parts info_int
  obtain ⟨A, c, rfl, -, -, hc⟩ := hl
  cases l with
  | nil =>
    have hr := run_append_none (P := Try.prog) (w := w) o.type Try.underlying37 hi A c
    unfold Oper.wp execOp
    simp only [List.length_nil] at hx
    simp only [ho, resolve, invoke, builtin, Sem.run_bind, Sem.run_pure, Result.andThen_ok, List.map_toArray, List.map_cons, List.map_nil, hs, hx, hr]
    exact h _ _ (World.ownsRow_nil _ _ _ _) (Below.refl _ _)
  | cons y l =>
    obtain ⟨b0, off, rfl, -⟩ := hc 0 (by simp)
    refine wp_append_lies w s x 37 ho w.heap.size 3 i0 (.int .i64 0) 1 8 Try.underlying37 hi hz0 hz1 hz2 rfl (by decide) _ 0 [] hs (World.ownsRow_nil _ _ _ _) ⟨b0, off, none⟩ (y :: l).length c ((y :: l).map (Value.int .i64)) hx (by simp) ?_ ?_ (by simp) (by unfold maxLen; omega) (by omega) (Nat.le_refl _) w.heap.size rfl ?_
    · intro j u hu
      rw [List.getElem?_map] at hu
      obtain ⟨z, hz, rfl⟩ := Option.map_eq_some_iff.1 hu
      obtain ⟨hj, rfl⟩ := List.getElem?_eq_some_iff.1 hz
      obtain ⟨b1, o1, e, q, -⟩ := hc j hj
      cases e
      rw [Nat.mul_one] at q
      have hadd : (⟨b0, off, none⟩ : Addr).add j = ⟨b0, off + j, none⟩ := by unfold Addr.add; split <;> simp_all
      rw [hadd]
      exact q
    · intro u hu
      obtain ⟨z, -, rfl⟩ := List.mem_map.1 hu
      rfl
    · intro g cap w' h2 h3 h4 h5
      rw [Nat.zero_add] at h2 ⊢
      exact h _ _ h2 ((Below.refl _ w).grown h3 (Nat.le_refl _) (fun k e => by cases e))

def keeps1 (b : Bat) (r : List Int) : Bool := keepsB (linesB b) r 1

set_option maxHeartbeats 4000000 in
set_option maxRecDepth 100000 in
theorem first_any (b : Bat) (hk : OkB b) : ∀ (j : Nat) (hd : List Int) (o : Option (List Int)) (vb vl vh vo : Value) (w : World), RBat w vb b → RLns w vl (linesB b) → RInts w vh hd → ROpt b.mats.length w vo o → hd.length + j = b.mats.length → (∀ x ∈ hd, I64 x) →
    Calls Try.prog 85 #[vb, vl, vh, vo] w (RetOpt b.mats.length w (refOver b (keeps1 b) hd o)) := by
  intro j
  induction j with
  | zero =>
    intro hd o vb vl vh vo w h hln hh ho hl h64
    obtain ⟨a0, k0, a1, k1, a2, k2, a3, k3, rfl⟩ := h.agg
    obtain ⟨pl, jl, rfl, -⟩ := id hln
    obtain ⟨ph, jh, rfl, -⟩ := id hh
    obtain ⟨oa, on, ok, rfl⟩ := ho.slice
    have hmt := hk.mt
    have hleaf := ref_leaf b (keeps1 b) hd o (by omega)
    have HL := Lib.hid (show hd.length = b.mats.length by omega)
    have HF := Lib.hid hleaf
    have d1 : ((hd.length : Int) == (b.mats.length : Int)) = true := by rw [HL.out]; simp
    have hA := below_box w (.cells #[.slice a0 b.oxides.length k0, .slice a1 b.mats.length k1, .slice a2 b.shares.length k2, .slice a3 b.props.length k3, .int .i64 b.redox.lo, .int .i64 b.redox.hi, .int .i64 b.wanted] 29)
    have hB := Blk.new w #[.slice a0 b.oxides.length k0, .slice a1 b.mats.length k1, .slice a2 b.shares.length k2, .slice a3 b.props.length k3, .int .i64 b.redox.lo, .int .i64 b.redox.hi, .int .i64 b.wanted] 29
    clear hl hleaf
    go_enter Try.func85, Try.ntmps85
    have f0 := hB.cell 0 _ rfl
    have f1 := hB.cell 1 _ rfl
    have f2 := hB.cell 2 _ rfl
    have f3 := hB.cell 3 _ rfl
    have f4 := hB.cell 4 _ rfl
    have f5 := hB.cell 5 _ rfl
    have f6 := hB.cell 6 _ rfl
    go_wp2_with fail
    generalize w.alloc (.cells #[.slice a0 b.oxides.length k0, .slice a1 b.mats.length k1, .slice a2 b.shares.length k2, .slice a3 b.props.length k3, .int .i64 b.redox.lo, .int .i64 b.redox.hi, .int .i64 b.wanted] 29) = W at *
    have D0 : Below W.heap.size W W.drew := (Below.refl _ _).drew
    have hsv : ∀ V, Below W.heap.size W V → (fun w' : World => w'.cell? ⟨w.heap.size, 0, none⟩ = some (.slice a0 b.oxides.length k0) ∧ w'.cell? ⟨w.heap.size, 1, none⟩ = some (.slice a1 b.mats.length k1) ∧ w'.cell? ⟨w.heap.size, 2, none⟩ = some (.slice a2 b.shares.length k2) ∧ w'.cell? ⟨w.heap.size, 3, none⟩ = some (.slice a3 b.props.length k3) ∧ w'.cell? ⟨w.heap.size, 4, none⟩ = some (.int .i64 b.redox.lo) ∧ w'.cell? ⟨w.heap.size, 5, none⟩ = some (.int .i64 b.redox.hi) ∧ w'.cell? ⟨w.heap.size, 6, none⟩ = some (.int .i64 b.wanted)) V := fun V e => ⟨keepC e f0, keepC e f1, keepC e f2, keepC e f3, keepC e f4, keepC e f5, keepC e f6⟩
    have E0 := (ext_of_below hA).trans (ext_of_below D0)
    have he0 : ∀ V : World, (binOp .eql 37 (.slice none 0 0) (.slice none 0 0)).run Try.prog V = .ok (.bool true) V := fun _ => rfl
    have he1 : ∀ (A : Addr) (n c : Nat) (V : World), (binOp .eql 37 (.slice (some A) n c) (.slice none 0 0)).run Try.prog V = .ok (.bool false) V := fun _ _ _ _ => rfl
    have hke := rkeeps_any _ _ (linesB b) hd 1 _ (hln.mono E0) (hh.mono E0) (fun x hx => by rw [line_len hx, HL.out])
    have hco := fun (r : List Int) (v : Value) (V : World) (e : Below W.heap.size W V) (hr : RInts V v r) (hrl : r.length = b.mats.length) => rcostI_any _ v b r V (h.mono ((ext_of_below hA).trans (ext_of_below e))) hr hrl
    obtain ⟨kp, hkp⟩ : ∃ t, t = keepsB (linesB b) hd 1 := ⟨_, rfl⟩
    rw [← hkp] at hke
    have HKP := Lib.hid hkp
    clear hkp
    refine wp_region_till (fun w' => w'.cell? ⟨w.heap.size, 0, none⟩ = some (.slice a0 b.oxides.length k0) ∧ w'.cell? ⟨w.heap.size, 1, none⟩ = some (.slice a1 b.mats.length k1) ∧ w'.cell? ⟨w.heap.size, 2, none⟩ = some (.slice a2 b.shares.length k2) ∧ w'.cell? ⟨w.heap.size, 3, none⟩ = some (.slice a3 b.props.length k3) ∧ w'.cell? ⟨w.heap.size, 4, none⟩ = some (.int .i64 b.redox.lo) ∧ w'.cell? ⟨w.heap.size, 5, none⟩ = some (.int .i64 b.redox.hi) ∧ w'.cell? ⟨w.heap.size, 6, none⟩ = some (.int .i64 b.wanted)) 99 (by kernel_rfl) (hsv _ D0) (fun hHeld => ?_)
    refine Till.take 0 (some 17) (v := ?_) rfl rfl (by kernel_rfl) (by kernel_rfl) (by kernel_rfl) (by kernel_rfl) (fun _ _ _ h => h) (Or.inl ⟨by rfl, ?_⟩) (by assumption) ?_
    rotate_left
    · (intro w hSw; (try dsimp only at hSw); go_simp; try with_reducible rfl)
    try simp only [Act.put, List.setIfInBounds_toArray, List.set_cons_zero, List.set_cons_succ]
    refine Till.take 1 (some 18) (v := ?_) rfl rfl (by kernel_rfl) (by kernel_rfl) (by kernel_rfl) (by kernel_rfl) (fun _ _ _ h => h) (Or.inl ⟨by rfl, ?_⟩) (by assumption) ?_
    rotate_left
    · (intro w hSw; (try dsimp only at hSw); go_simp; try with_reducible rfl)
    try simp only [Act.put, List.setIfInBounds_toArray, List.set_cons_zero, List.set_cons_succ]
    refine Till.one 2 rfl (by kernel_rfl) (fun K hK => ?_)
    go_simp
    go_at_call 78
    refine hke.mono ?_
    rintro e w1 ⟨rfl, hb1⟩
    have D1 := D0.trans (hb1.mono D0.size)
    refine hK.out _ _ (fun _ => hsv _ D1) (fun hHeld => ?_)
    clear hK K
    try simp only [Act.put, List.setIfInBounds_toArray, List.set_cons_zero, List.set_cons_succ]
    cases kp
    · have hw1 := hsv _ D1
      dsimp only at hw1
      have hst : refStep b (keeps1 b) o hd = o := by unfold refStep keeps1; rw [← HKP.out]; simp
      have HS := Lib.hid hst
      clear hst
      refine Till.take 3 (some 20) (v := ?_) rfl rfl (by kernel_rfl) (by kernel_rfl) (by kernel_rfl) (by kernel_rfl) (fun _ _ _ h => h) (Or.inl ⟨by rfl, ?_⟩) (by assumption) ?_
      rotate_left
      · (intro w hSw; (try dsimp only at hSw); go_simp; try with_reducible rfl)
      try simp only [Act.put, List.setIfInBounds_toArray, List.set_cons_zero, List.set_cons_succ]
      refine Till.take 4 (some 21) (v := undef) rfl rfl (by kernel_rfl) (by kernel_rfl) (by kernel_rfl) (by kernel_rfl) (fun _ _ _ h => h) (Or.inr ⟨by rfl, rfl⟩) (by assumption) ?_
      try simp only [Act.put, List.setIfInBounds_toArray, List.set_cons_zero, List.set_cons_succ]
      refine Till.take 5 (some 22) (v := undef) rfl rfl (by kernel_rfl) (by kernel_rfl) (by kernel_rfl) (by kernel_rfl) (fun _ _ _ h => h) (Or.inr ⟨by rfl, rfl⟩) (by assumption) ?_
      try simp only [Act.put, List.setIfInBounds_toArray, List.set_cons_zero, List.set_cons_succ]
      refine Till.take 6 (some 23) (v := undef) rfl rfl (by kernel_rfl) (by kernel_rfl) (by kernel_rfl) (by kernel_rfl) (fun _ _ _ h => h) (Or.inr ⟨by rfl, rfl⟩) (by assumption) ?_
      try simp only [Act.put, List.setIfInBounds_toArray, List.set_cons_zero, List.set_cons_succ]
      refine Till.take 7 (some 24) (v := undef) rfl rfl (by kernel_rfl) (by kernel_rfl) (by kernel_rfl) (by kernel_rfl) (fun _ _ _ h => h) (Or.inr ⟨by rfl, rfl⟩) (by assumption) ?_
      try simp only [Act.put, List.setIfInBounds_toArray, List.set_cons_zero, List.set_cons_succ]
      refine Till.take 8 (some 25) (v := undef) rfl rfl (by kernel_rfl) (by kernel_rfl) (by kernel_rfl) (by kernel_rfl) (fun _ _ _ h => h) (Or.inr ⟨by rfl, rfl⟩) (by assumption) ?_
      try simp only [Act.put, List.setIfInBounds_toArray, List.set_cons_zero, List.set_cons_succ]
      refine Till.take 9 (some 26) (v := undef) rfl rfl (by kernel_rfl) (by kernel_rfl) (by kernel_rfl) (by kernel_rfl) (fun _ _ _ h => h) (Or.inr ⟨by rfl, rfl⟩) (by assumption) ?_
      try simp only [Act.put, List.setIfInBounds_toArray, List.set_cons_zero, List.set_cons_succ]
      refine Till.take 10 (some 27) (v := undef) rfl rfl (by kernel_rfl) (by kernel_rfl) (by kernel_rfl) (by kernel_rfl) (fun _ _ _ h => h) (Or.inr ⟨by rfl, rfl⟩) (by assumption) ?_
      try simp only [Act.put, List.setIfInBounds_toArray, List.set_cons_zero, List.set_cons_succ]
      refine Till.take 11 (some 28) (v := undef) rfl rfl (by kernel_rfl) (by kernel_rfl) (by kernel_rfl) (by kernel_rfl) (fun _ _ _ h => h) (Or.inr ⟨by rfl, rfl⟩) (by assumption) ?_
      try simp only [Act.put, List.setIfInBounds_toArray, List.set_cons_zero, List.set_cons_succ]
      refine Till.take 12 (some 29) (v := undef) rfl rfl (by kernel_rfl) (by kernel_rfl) (by kernel_rfl) (by kernel_rfl) (fun _ _ _ h => h) (Or.inr ⟨by rfl, rfl⟩) (by assumption) ?_
      try simp only [Act.put, List.setIfInBounds_toArray, List.set_cons_zero, List.set_cons_succ]
      refine Till.take 13 (some 30) (v := undef) rfl rfl (by kernel_rfl) (by kernel_rfl) (by kernel_rfl) (by kernel_rfl) (fun _ _ _ h => h) (Or.inr ⟨by rfl, rfl⟩) (by assumption) ?_
      try simp only [Act.put, List.setIfInBounds_toArray, List.set_cons_zero, List.set_cons_succ]
      refine Till.take 14 (some 31) (v := undef) rfl rfl (by kernel_rfl) (by kernel_rfl) (by kernel_rfl) (by kernel_rfl) (fun _ _ _ h => h) (Or.inr ⟨by rfl, rfl⟩) (by assumption) ?_
      try simp only [Act.put, List.setIfInBounds_toArray, List.set_cons_zero, List.set_cons_succ]
      refine Till.take 15 (some 32) (v := ?_) rfl rfl (by kernel_rfl) (by kernel_rfl) (by kernel_rfl) (by kernel_rfl) (fun _ _ _ h => h) (Or.inl ⟨by rfl, ?_⟩) (by assumption) ?_
      rotate_left
      · (intro w hSw; (try dsimp only at hSw); go_simp; try with_reducible rfl)
      try simp only [Act.put, List.setIfInBounds_toArray, List.set_cons_zero, List.set_cons_succ]
      refine Till.done (by kernel_rfl) ?_ _
      clear hw1 hHeld hsv f0 f1 f2 f3 f4 f5 f6 hke hco
      go_wp2
      go_ret
      exact ⟨_, rfl, by rw [HF.out, HS.out]; exact ho.mono ((ext_of_below hA).trans (ext_of_below D1)), hA.trans (D1.mono hA.size)⟩
    · have hw1 := hsv _ D1
      dsimp only at hw1
      cases o with
      | none =>
        have hst : refStep b (keeps1 b) none hd = some hd := by unfold refStep keeps1; rw [← HKP.out]; simp
        have HS := Lib.hid hst
        have ho2 : Value.slice oa on ok = .slice none 0 0 := ho
        simp only [Value.slice.injEq] at ho2
        obtain ⟨rfl, rfl, rfl⟩ := ho2
        clear hst
        refine Till.take 3 (some 20) (v := ?_) rfl rfl (by kernel_rfl) (by kernel_rfl) (by kernel_rfl) (by kernel_rfl) (fun _ _ _ h => h) (Or.inl ⟨by rfl, ?_⟩) (by assumption) ?_
        rotate_left
        · (intro w hSw; (try dsimp only at hSw); go_simp; try with_reducible rfl)
        try simp only [Act.put, List.setIfInBounds_toArray, List.set_cons_zero, List.set_cons_succ]
        refine Till.take 4 (some 21) (v := ?_) rfl rfl (by kernel_rfl) (by kernel_rfl) (by kernel_rfl) (by kernel_rfl) (fun _ _ _ h => h) (Or.inl ⟨by rfl, ?_⟩) (by assumption) ?_
        rotate_left
        · (intro w hSw; (try dsimp only at hSw); go_simp; try with_reducible rfl)
        try simp only [Act.put, List.setIfInBounds_toArray, List.set_cons_zero, List.set_cons_succ]
        refine Till.take 5 (some 22) (v := ?_) rfl rfl (by kernel_rfl) (by kernel_rfl) (by kernel_rfl) (by kernel_rfl) (fun _ _ _ h => h) (Or.inl ⟨by rfl, ?_⟩) (by assumption) ?_
        rotate_left
        · (intro w hSw; (try dsimp only at hSw); go_simp; try with_reducible rfl)
        try simp only [Act.put, List.setIfInBounds_toArray, List.set_cons_zero, List.set_cons_succ]
        refine Till.take 6 (some 23) (v := ?_) rfl rfl (by kernel_rfl) (by kernel_rfl) (by kernel_rfl) (by kernel_rfl) (fun _ _ _ h => h) (Or.inl ⟨by rfl, ?_⟩) (by assumption) ?_
        rotate_left
        · (intro w hSw; (try dsimp only at hSw); go_simp; try with_reducible rfl)
        try simp only [Act.put, List.setIfInBounds_toArray, List.set_cons_zero, List.set_cons_succ]
        refine Till.take 7 (some 24) (v := undef) rfl rfl (by kernel_rfl) (by kernel_rfl) (by kernel_rfl) (by kernel_rfl) (fun _ _ _ h => h) (Or.inr ⟨by rfl, rfl⟩) (by assumption) ?_
        try simp only [Act.put, List.setIfInBounds_toArray, List.set_cons_zero, List.set_cons_succ]
        refine Till.take 8 (some 25) (v := undef) rfl rfl (by kernel_rfl) (by kernel_rfl) (by kernel_rfl) (by kernel_rfl) (fun _ _ _ h => h) (Or.inr ⟨by rfl, rfl⟩) (by assumption) ?_
        try simp only [Act.put, List.setIfInBounds_toArray, List.set_cons_zero, List.set_cons_succ]
        refine Till.take 9 (some 26) (v := undef) rfl rfl (by kernel_rfl) (by kernel_rfl) (by kernel_rfl) (by kernel_rfl) (fun _ _ _ h => h) (Or.inr ⟨by rfl, rfl⟩) (by assumption) ?_
        try simp only [Act.put, List.setIfInBounds_toArray, List.set_cons_zero, List.set_cons_succ]
        refine Till.take 10 (some 27) (v := undef) rfl rfl (by kernel_rfl) (by kernel_rfl) (by kernel_rfl) (by kernel_rfl) (fun _ _ _ h => h) (Or.inr ⟨by rfl, rfl⟩) (by assumption) ?_
        try simp only [Act.put, List.setIfInBounds_toArray, List.set_cons_zero, List.set_cons_succ]
        refine Till.take 11 (some 28) (v := undef) rfl rfl (by kernel_rfl) (by kernel_rfl) (by kernel_rfl) (by kernel_rfl) (fun _ _ _ h => h) (Or.inr ⟨by rfl, rfl⟩) (by assumption) ?_
        try simp only [Act.put, List.setIfInBounds_toArray, List.set_cons_zero, List.set_cons_succ]
        refine Till.take 12 (some 29) (v := undef) rfl rfl (by kernel_rfl) (by kernel_rfl) (by kernel_rfl) (by kernel_rfl) (fun _ _ _ h => h) (Or.inr ⟨by rfl, rfl⟩) (by assumption) ?_
        try simp only [Act.put, List.setIfInBounds_toArray, List.set_cons_zero, List.set_cons_succ]
        refine Till.take 13 (some 30) (v := undef) rfl rfl (by kernel_rfl) (by kernel_rfl) (by kernel_rfl) (by kernel_rfl) (fun _ _ _ h => h) (Or.inr ⟨by rfl, rfl⟩) (by assumption) ?_
        try simp only [Act.put, List.setIfInBounds_toArray, List.set_cons_zero, List.set_cons_succ]
        refine Till.take 14 (some 31) (v := ?_) rfl rfl (by kernel_rfl) (by kernel_rfl) (by kernel_rfl) (by kernel_rfl) (fun _ _ _ h => h) (Or.inl ⟨by rfl, ?_⟩) (by assumption) ?_
        rotate_left
        · (intro w hSw; (try dsimp only at hSw); go_simp; try with_reducible rfl)
        try simp only [Act.put, List.setIfInBounds_toArray, List.set_cons_zero, List.set_cons_succ]
        refine Till.take 15 (some 32) (v := ?_) rfl rfl (by kernel_rfl) (by kernel_rfl) (by kernel_rfl) (by kernel_rfl) (fun _ _ _ h => h) (Or.inl ⟨by rfl, ?_⟩) (by assumption) ?_
        rotate_left
        · (intro w hSw; (try dsimp only at hSw); go_simp; try with_reducible rfl)
        try simp only [Act.put, List.setIfInBounds_toArray, List.set_cons_zero, List.set_cons_succ]
        refine Till.done (by kernel_rfl) ?_ _
        clear hw1 hHeld hsv f0 f1 f2 f3 f4 f5 f6 hke hco
        go_wp2
        go_ret
        refine ⟨_, rfl, ?_, hA.trans (D1.mono hA.size)⟩
        rw [HF.out, HS.out]
        exact ⟨hh.mono ((ext_of_below hA).trans (ext_of_below D1)), HL.out⟩
      | some q =>
        obtain ⟨hq1, hq2⟩ := ho
        obtain ⟨qa, qk, qq, -, -, hqc⟩ := id hq1
        cases qq
        obtain ⟨b9, o9, rfl, -⟩ := hqc 0 (by omega)
        have HQ := Lib.hid hq2
        clear hqc hq2
        refine Till.take 3 (some 20) (v := ?_) rfl rfl (by kernel_rfl) (by kernel_rfl) (by kernel_rfl) (by kernel_rfl) (fun _ _ _ h => h) (Or.inl ⟨by rfl, ?_⟩) (by assumption) ?_
        rotate_left
        · (intro w hSw; (try dsimp only at hSw); go_simp; try with_reducible rfl)
        try simp only [Act.put, List.setIfInBounds_toArray, List.set_cons_zero, List.set_cons_succ]
        refine Till.take 4 (some 21) (v := ?_) rfl rfl (by kernel_rfl) (by kernel_rfl) (by kernel_rfl) (by kernel_rfl) (fun _ _ _ h => h) (Or.inl ⟨by rfl, ?_⟩) (by assumption) ?_
        rotate_left
        · (intro w hSw; (try dsimp only at hSw); go_simp; try with_reducible rfl)
        try simp only [Act.put, List.setIfInBounds_toArray, List.set_cons_zero, List.set_cons_succ]
        refine Till.take 5 (some 22) (v := ?_) rfl rfl (by kernel_rfl) (by kernel_rfl) (by kernel_rfl) (by kernel_rfl) (fun _ _ _ h => h) (Or.inl ⟨by rfl, ?_⟩) (by assumption) ?_
        rotate_left
        · (intro w hSw; (try dsimp only at hSw); go_simp; try with_reducible rfl)
        try simp only [Act.put, List.setIfInBounds_toArray, List.set_cons_zero, List.set_cons_succ]
        refine Till.take 6 (some 23) (v := ?_) rfl rfl (by kernel_rfl) (by kernel_rfl) (by kernel_rfl) (by kernel_rfl) (fun _ _ _ h => h) (Or.inl ⟨by rfl, ?_⟩) (by assumption) ?_
        rotate_left
        · (intro w hSw; (try dsimp only at hSw); go_simp; try with_reducible rfl)
        try simp only [Act.put, List.setIfInBounds_toArray, List.set_cons_zero, List.set_cons_succ]
        refine Till.take 7 (some 24) (v := ?_) rfl rfl (by kernel_rfl) (by kernel_rfl) (by kernel_rfl) (by kernel_rfl) (fun _ _ _ h => h) (Or.inl ⟨by rfl, ?_⟩) (by assumption) ?_
        rotate_left
        · (intro w hSw; (try dsimp only at hSw); go_simp; try with_reducible rfl)
        try simp only [Act.put, List.setIfInBounds_toArray, List.set_cons_zero, List.set_cons_succ]
        refine Till.take 8 (some 25) (v := ?_) rfl rfl (by kernel_rfl) (by kernel_rfl) (by kernel_rfl) (by kernel_rfl) (fun _ _ _ h => h) (Or.inl ⟨by rfl, ?_⟩) (by assumption) ?_
        rotate_left
        · (intro w hSw; (try dsimp only at hSw); go_simp; try with_reducible rfl)
        try simp only [Act.put, List.setIfInBounds_toArray, List.set_cons_zero, List.set_cons_succ]
        refine Till.take 10 (some 27) (v := ?_) rfl rfl (by kernel_rfl) (by kernel_rfl) (by kernel_rfl) (by kernel_rfl) (fun _ _ _ h => h) (Or.inl ⟨by rfl, ?_⟩) (by assumption) ?_
        rotate_left
        · (intro w hSw; (try dsimp only at hSw); go_simp; try with_reducible rfl)
        try simp only [Act.put, List.setIfInBounds_toArray, List.set_cons_zero, List.set_cons_succ]
        refine Till.take 11 (some 28) (v := ?_) rfl rfl (by kernel_rfl) (by kernel_rfl) (by kernel_rfl) (by kernel_rfl) (fun _ _ _ h => h) (Or.inl ⟨by rfl, ?_⟩) (by assumption) ?_
        rotate_left
        · (intro w hSw; (try dsimp only at hSw); go_simp; try with_reducible rfl)
        try simp only [Act.put, List.setIfInBounds_toArray, List.set_cons_zero, List.set_cons_succ]
        refine Till.one 9 rfl (by kernel_rfl) (fun K hK => ?_)
        go_simp
        go_at_call 81
        refine (hco hd _ _ D1 (hh.mono ((ext_of_below hA).trans (ext_of_below D1))) HL.out).mono ?_
        rintro e w2 ⟨rfl, hb2⟩
        have D2 := D1.trans (hb2.mono D1.size)
        refine hK.out _ _ (fun _ => hsv _ D2) (fun hHeld => ?_)
        clear hK K
        try simp only [Act.put, List.setIfInBounds_toArray, List.set_cons_zero, List.set_cons_succ]
        refine Till.one 12 rfl (by kernel_rfl) (fun K hK => ?_)
        go_simp
        go_at_call 81
        refine (hco q _ _ D2 (hq1.mono ((ext_of_below hA).trans (ext_of_below D2))) HQ.out).mono ?_
        rintro e w3 ⟨rfl, hb3⟩
        have D3 := D2.trans (hb3.mono D2.size)
        refine hK.out _ _ (fun _ => hsv _ D3) (fun hHeld => ?_)
        clear hK K
        try simp only [Act.put, List.setIfInBounds_toArray, List.set_cons_zero, List.set_cons_succ]
        have hw3 := hsv _ D3
        dsimp only at hw3
        have hst : refStep b (keeps1 b) (some q) hd = if dotB (b.mats.map Mat.price) hd < dotB (b.mats.map Mat.price) q then some hd else some q := by
          unfold refStep keeps1; rw [← HKP.out]; simp
        have HS := Lib.hid hst
        clear hst
        refine Till.take 13 (some 30) (v := ?_) rfl rfl (by kernel_rfl) (by kernel_rfl) (by kernel_rfl) (by kernel_rfl) (fun _ _ _ h => h) (Or.inl ⟨by rfl, ?_⟩) (by assumption) ?_
        rotate_left
        · (intro w hSw; (try dsimp only at hSw); go_simp; try with_reducible rfl)
        try simp only [Act.put, List.setIfInBounds_toArray, List.set_cons_zero, List.set_cons_succ]
        refine Till.take 14 (some 31) (v := ?_) rfl rfl (by kernel_rfl) (by kernel_rfl) (by kernel_rfl) (by kernel_rfl) (fun _ _ _ h => h) (Or.inl ⟨by rfl, ?_⟩) (by assumption) ?_
        rotate_left
        · (intro w hSw; (try dsimp only at hSw); go_simp; try with_reducible rfl)
        try simp only [Act.put, List.setIfInBounds_toArray, List.set_cons_zero, List.set_cons_succ]
        refine Till.take 15 (some 32) (v := ?_) rfl rfl (by kernel_rfl) (by kernel_rfl) (by kernel_rfl) (by kernel_rfl) (fun _ _ _ h => h) (Or.inl ⟨by rfl, ?_⟩) (by assumption) ?_
        rotate_left
        · (intro w hSw; (try dsimp only at hSw); go_simp; try with_reducible rfl)
        try simp only [Act.put, List.setIfInBounds_toArray, List.set_cons_zero, List.set_cons_succ]
        refine Till.done (by kernel_rfl) ?_ _
        clear hw1 hw3 hHeld hsv f0 f1 f2 f3 f4 f5 f6 hke hco
        by_cases hlt : dotB (b.mats.map Mat.price) hd < dotB (b.mats.map Mat.price) q
        · have dd : decide (dotB (b.mats.map Mat.price) hd < dotB (b.mats.map Mat.price) q) = true := decide_eq_true hlt
          go_wp2
          go_ret
          refine ⟨_, rfl, ?_, hA.trans (D3.mono hA.size)⟩
          rw [HF.out, HS.out, if_pos hlt]
          exact ⟨hh.mono ((ext_of_below hA).trans (ext_of_below D3)), HL.out⟩
        · have dd : decide (dotB (b.mats.map Mat.price) hd < dotB (b.mats.map Mat.price) q) = false := decide_eq_false hlt
          go_wp2
          go_ret
          refine ⟨_, rfl, ?_, hA.trans (D3.mono hA.size)⟩
          rw [HF.out, HS.out, if_neg (by omega)]
          exact ⟨hq1.mono ((ext_of_below hA).trans (ext_of_below D3)), HQ.out⟩
  | succ j ih =>
    intro hd o vb vl vh vo w h hln hh ho hl h64
    obtain ⟨v0, v1, v2, v3, rfl, h0, h1, h2, h3, i1, i2, i3⟩ := id h
    obtain ⟨a0, k0, rfl, -, ⟨-, l0⟩, -⟩ := h0
    obtain ⟨a1, k1, rfl, -, ⟨-, l1⟩, hml⟩ := id h1
    obtain ⟨a2, k2, rfl, -, ⟨-, l2⟩, -⟩ := h2
    obtain ⟨a3, k3, rfl, -, ⟨-, l3⟩, -⟩ := h3
    clear h1
    obtain ⟨pl, jl, rfl, -⟩ := id hln
    obtain ⟨ph, jh, rfl, -⟩ := id hh
    obtain ⟨oa, on, ok, rfl⟩ := ho.slice
    have hmt := hk.mt
    have hlt : hd.length < b.mats.length := by omega
    have hnode := ref_node b (keeps1 b) hd o hlt
    have hmo := hk.mats _ (List.getElem_mem hlt)
    have hvm := fun q => vals_more (stOk_of hk _ (List.getElem_mem hlt)) q
    have hva := fun (q : Nat) (hq : q < (valsM (b.mats[hd.length])).length) => vals_at (b.mats[hd.length]) q hq
    obtain ⟨b7, o7, rfl, c, ⟨g0, g1, g2, g3, g4, g5, g6⟩, hcs, hrs⟩ := hml hd.length hlt
    obtain ⟨ac, kc, rfl, -, -, -⟩ := id hcs
    have HF := Lib.hid hnode
    have d1 : ((hd.length : Int) == (b.mats.length : Int)) = false := by simp; omega
    have d2 : (hd.length : Int) < (b.mats.length : Int) := by omega
    have HL := Lib.hid hl
    simp only at g0 g1 g2 g3 g4 g5 g6
    clear hml hnode hl hrs
    generalize b.mats[hd.length]'hlt = m at *
    have hA := below_box w (.cells #[.slice a0 b.oxides.length k0, .slice (some ⟨b7, o7, none⟩) b.mats.length k1, .slice a2 b.shares.length k2, .slice a3 b.props.length k3, .int .i64 b.redox.lo, .int .i64 b.redox.hi, .int .i64 b.wanted] 29)
    have hB := Blk.new w #[.slice a0 b.oxides.length k0, .slice (some ⟨b7, o7, none⟩) b.mats.length k1, .slice a2 b.shares.length k2, .slice a3 b.props.length k3, .int .i64 b.redox.lo, .int .i64 b.redox.hi, .int .i64 b.wanted] 29
    have eA := ext_of_below hA
    replace g0 := eA _ _ g0
    replace g1 := eA _ _ g1
    replace g2 := eA _ _ g2
    replace g3 := eA _ _ g3
    replace g4 := eA _ _ g4
    replace g5 := eA _ _ g5
    replace g6 := eA _ _ g6
    have hle := hmo.least
    have hmx := hmo.most
    have hsp := hmo.step
    clear eA
    go_enter Try.func85, Try.ntmps85
    have f0 := hB.cell 0 _ rfl
    have f1 := hB.cell 1 _ rfl
    have f2 := hB.cell 2 _ rfl
    have f3 := hB.cell 3 _ rfl
    have f4 := hB.cell 4 _ rfl
    have f5 := hB.cell 5 _ rfl
    have f6 := hB.cell 6 _ rfl
    go_wp2_with fail
    have hzW := World.size_alloc w (.cells #[.slice a0 b.oxides.length k0, .slice (some ⟨b7, o7, none⟩) b.mats.length k1, .slice a2 b.shares.length k2, .slice a3 b.props.length k3, .int .i64 b.redox.lo, .int .i64 b.redox.hi, .int .i64 b.wanted] 29)
    generalize w.alloc (.cells #[.slice a0 b.oxides.length k0, .slice (some ⟨b7, o7, none⟩) b.mats.length k1, .slice a2 b.shares.length k2, .slice a3 b.props.length k3, .int .i64 b.redox.lo, .int .i64 b.redox.hi, .int .i64 b.wanted] 29) = W at *
    have hM := below_box W (.cells #[.string m.name, .int .i64 m.price, .int .i64 m.redox, .int .i64 m.least, .int .i64 m.most, .int .i64 m.step, .slice ac m.content.length kc] 68)
    have BM := Blk.new W #[.string m.name, .int .i64 m.price, .int .i64 m.redox, .int .i64 m.least, .int .i64 m.most, .int .i64 m.step, .slice ac m.content.length kc] 68
    rw [hzW] at BM
    clear hzW
    have hBW := hB.alloc (.cells #[.string m.name, .int .i64 m.price, .int .i64 m.redox, .int .i64 m.least, .int .i64 m.most, .int .i64 m.step, .slice ac m.content.length kc] 68)
    have hAM := hA.trans (hM.mono hA.size)
    generalize W.alloc (.cells #[.string m.name, .int .i64 m.price, .int .i64 m.redox, .int .i64 m.least, .int .i64 m.most, .int .i64 m.step, .slice ac m.content.length kc] 68) = W1 at *
    clear f0 f1 f2 f3 f4 f5 f6 g0 g1 g2 g3 g4 g5 g6
    have x3 := BM.cell 3 _ rfl
    have x4 := BM.cell 4 _ rfl
    have x5 := BM.cell 5 _ rfl
    obtain ⟨i0, gi, gz0, gz1, gz2⟩ := info_parts info_int
    obtain ⟨i0, gi, gz0, gz1, gz2⟩ := info_parts info_int
    obtain ⟨i0, gi, gz0, gz1, gz2⟩ := info_parts info_int
    have HVM := Lib.hid hvm
    have HVA := Lib.hid hva
    clear hvm hva x3 x4 x5
    go_loopw [3, 10] (fun bv kv wr => ∃ i : Nat, i ≤ (valsM m).length ∧ kv = .int .i64 (m.least + (i : Int) * m.step) ∧ (∃ a l k, bv = .slice a l k) ∧ ROpt b.mats.length wr bv (((valsM m).take i).foldl (fun o x => refOver b (keeps1 b) (hd ++ [x]) o) o) ∧ Below W1.heap.size W1 wr) (fun _ kv _ => (m.most + 1 - intOf kv).toNat)
    case atStart => exact ⟨0, Nat.zero_le _, by simp, ⟨_, _, _, rfl⟩, ho.mono (ext_of_below hAM), Below.refl _ _⟩
    case round =>
      obtain ⟨i, hi, rfl, ⟨ca, cl, ck, rfl⟩, hor, hbr⟩ := hrel
      have hAr := hAM.trans (hbr.mono hAM.size)
      have BMr := BM.below hbr BM.lt
      have BBr := hBW.below hbr hBW.lt
      have x4 := BMr.cell 4 _ rfl
      have x5 := BMr.cell 5 _ rfl
      by_cases hiv : i < (valsM m).length
      · have hle2 := (HVM.out i).2 hiv
        have hnn : 0 ≤ (i : Int) * m.step := Int.mul_nonneg (by omega) (by omega)
        have hnx : m.least + ((i + 1 : Nat) : Int) * m.step = m.least + (i : Int) * m.step + m.step := by rw [Int.natCast_succ, Int.add_mul]; omega
        have htk : ((valsM m).take (i + 1)).foldl (fun o x => refOver b (keeps1 b) (hd ++ [x]) o) o = refOver b (keeps1 b) (hd ++ [m.least + (i : Int) * m.step]) (((valsM m).take i).foldl (fun o x => refOver b (keeps1 b) (hd ++ [x]) o) o) := by
          rw [List.take_succ_eq_append_getElem hiv, List.foldl_append, HVA.out i hiv]
          rfl
        have HNX := Lib.hid hnx
        have HTK := Lib.hid htk
        clear hnx htk
        generalize hkq : m.least + (i : Int) * m.step = kq at *
        have HKQ := Lib.hid hkq
        have hk0 : 0 ≤ kq := by omega
        have hk1 : kq ≤ 10000 := by omega
        clear hkq
        generalize hoq : ((valsM m).take i).foldl (fun o x => refOver b (keeps1 b) (hd ++ [x]) o) o = oq at *
        have HOQ := Lib.hid hoq
        clear hoq
        go_wp2
        have f0 := BBr.cell 0 _ rfl
        have f1 := BBr.cell 1 _ rfl
        have f2 := BBr.cell 2 _ rfl
        have f3 := BBr.cell 3 _ rfl
        have f4 := BBr.cell 4 _ rfl
        have f5 := BBr.cell 5 _ rfl
        have f6 := BBr.cell 6 _ rfl
        have D0 : Below wr.heap.size wr wr.drew := (Below.refl _ _).drew
        have hsv : ∀ V, Below wr.heap.size wr V → (fun w' : World => w'.cell? ⟨w.heap.size, 0, none⟩ = some (.slice a0 b.oxides.length k0) ∧ w'.cell? ⟨w.heap.size, 1, none⟩ = some (.slice (some ⟨b7, o7, none⟩) b.mats.length k1) ∧ w'.cell? ⟨w.heap.size, 2, none⟩ = some (.slice a2 b.shares.length k2) ∧ w'.cell? ⟨w.heap.size, 3, none⟩ = some (.slice a3 b.props.length k3) ∧ w'.cell? ⟨w.heap.size, 4, none⟩ = some (.int .i64 b.redox.lo) ∧ w'.cell? ⟨w.heap.size, 5, none⟩ = some (.int .i64 b.redox.hi) ∧ w'.cell? ⟨w.heap.size, 6, none⟩ = some (.int .i64 b.wanted)) V := fun V e => ⟨keepC e f0, keepC e f1, keepC e f2, keepC e f3, keepC e f4, keepC e f5, keepC e f6⟩
        have eAr := ext_of_below hAr
        have hlh : hd.length ≤ 12 := by omega
        refine wp_region_till (fun w' => w'.cell? ⟨w.heap.size, 0, none⟩ = some (.slice a0 b.oxides.length k0) ∧ w'.cell? ⟨w.heap.size, 1, none⟩ = some (.slice (some ⟨b7, o7, none⟩) b.mats.length k1) ∧ w'.cell? ⟨w.heap.size, 2, none⟩ = some (.slice a2 b.shares.length k2) ∧ w'.cell? ⟨w.heap.size, 3, none⟩ = some (.slice a3 b.props.length k3) ∧ w'.cell? ⟨w.heap.size, 4, none⟩ = some (.int .i64 b.redox.lo) ∧ w'.cell? ⟨w.heap.size, 5, none⟩ = some (.int .i64 b.redox.hi) ∧ w'.cell? ⟨w.heap.size, 6, none⟩ = some (.int .i64 b.wanted)) 99 (by kernel_rfl) (hsv _ D0) (fun hHeld => ?_)
        refine Till.take 0 (some 51) (v := ?_) rfl rfl (by kernel_rfl) (by kernel_rfl) (by kernel_rfl) (by kernel_rfl) (fun _ _ _ h => h) (Or.inl ⟨by rfl, ?_⟩) (by assumption) ?_
        rotate_left
        · (intro w hSw; (try dsimp only at hSw); go_simp; try with_reducible rfl)
        try simp only [Act.put, List.setIfInBounds_toArray, List.set_cons_zero, List.set_cons_succ]
        refine Till.take 1 (some 52) (v := ?_) rfl rfl (by kernel_rfl) (by kernel_rfl) (by kernel_rfl) (by kernel_rfl) (fun _ _ _ h => h) (Or.inl ⟨by rfl, ?_⟩) (by assumption) ?_
        rotate_left
        · (intro w hSw; (try dsimp only at hSw); go_simp; try with_reducible rfl)
        try simp only [Act.put, List.setIfInBounds_toArray, List.set_cons_zero, List.set_cons_succ]
        refine Till.take 2 (some 53) (v := ?_) rfl rfl (by kernel_rfl) (by kernel_rfl) (by kernel_rfl) (by kernel_rfl) (fun _ _ _ h => h) (Or.inl ⟨by rfl, ?_⟩) (by assumption) ?_
        rotate_left
        · (intro w hSw; (try dsimp only at hSw); go_simp; try with_reducible rfl)
        try simp only [Act.put, List.setIfInBounds_toArray, List.set_cons_zero, List.set_cons_succ]
        refine Till.take 4 (some 55) (v := ?_) rfl rfl (by kernel_rfl) (by kernel_rfl) (by kernel_rfl) (by kernel_rfl) (fun _ _ _ h => h) (Or.inl ⟨by rfl, ?_⟩) (by assumption) ?_
        rotate_left
        · (intro w hSw; (try dsimp only at hSw); go_simp; try with_reducible rfl)
        try simp only [Act.put, List.setIfInBounds_toArray, List.set_cons_zero, List.set_cons_succ]
        refine Till.take 7 (some 58) (v := ?_) rfl rfl (by kernel_rfl) (by kernel_rfl) (by kernel_rfl) (by kernel_rfl) (fun _ _ _ h => h) (Or.inl ⟨by rfl, ?_⟩) (by assumption) ?_
        rotate_left
        · (intro w hSw; (try dsimp only at hSw); go_simp; try with_reducible rfl)
        try simp only [Act.put, List.setIfInBounds_toArray, List.set_cons_zero, List.set_cons_succ]
        have h64b : ∀ y ∈ hd ++ [kq], I64 y := fun y hy => by
          rcases List.mem_append.1 hy with hy | hy
          · exact h64 y hy
          · obtain rfl : y = kq := by simpa using hy
            unfold I64; omega
        refine Till.two 3 5 rfl rfl (by kernel_rfl) (fun K hK => ?_) (fun K hK => ?_)
        · refine step_nil_ints rfl _ _ rfl rfl _ hd rfl (hh.mono (eAr.trans (ext_of_below D0))) (by omega) (fun va wa hoa hba => ?_)
          have D1 := D0.trans (hba.mono D0.size)
          obtain ⟨pa, qa, rfl⟩ := own_slice hoa
          refine hK.out _ _ (fun _ => hsv _ D1) (fun hHeld => ?_)
          clear hK K
          try simp only [Act.put, List.setIfInBounds_toArray]
          refine Till.one 5 rfl (by kernel_rfl) (fun K hK => ?_)
          go_simp
          have BK := Blk.new wa #[.int .i64 kq] 3
          have D2 := D1.alloc D1.size (.cells #[.int .i64 kq] 3)
          have hoa2 : (wa.alloc (.cells #[.int .i64 kq] 3)).ownsRow wr.heap.size 3 1 (.slice pa hd.length qa) hd.length (hd.map (Value.int .i64)) := hoa.alloc (.cells #[.int .i64 kq] 3)
          refine hK.out _ _ (fun _ => hsv _ D2) (fun hHeld => ?_)
          clear hK K
          try simp only [Act.put, List.setIfInBounds_toArray]
          refine Till.one 6 rfl (by kernel_rfl) (fun K hK => ?_)
          refine step_append_lies _ rfl _ _ 37 rfl wr.heap.size 3 i0 (.int .i64 0) 1 8 Try.underlying37 gi gz0 gz1 gz2 rfl (by decide) _ hd.length (hd.map (Value.int .i64)) rfl hoa2 ⟨wa.heap.size, 0, none⟩ 1 1 [.int .i64 kq] rfl rfl (World.news_of_block BK) (by simp [Value.oneCell']) (by decide) (by unfold maxLen; omega) (by omega) D2.size _ rfl (fun g cap wb hob hgb hgg hgl => ?_)
          have D3 : Below wr.heap.size wr wb := D2.grown hgb D2.size (fun k e => (hoa2.lt k e).1)
          have hrb : RInts wb (.slice (some ⟨g, 0, none⟩) (hd.length + 1) cap) (hd ++ [kq]) := by
            have := own_RInts (l := hd ++ [kq]) (base := wr.heap.size) (e := 3) (v := .slice (some ⟨g, 0, none⟩) (hd.length + 1) cap) (w := wb) (by rw [List.length_append, List.length_singleton, List.map_append]; exact hob) (by rw [List.length_append, List.length_singleton]; omega) h64b
            exact this
          refine hK.out _ _ (fun _ => hsv _ D3) (fun hHeld => ?_)
          clear hK K
          try simp only [Act.put, List.setIfInBounds_toArray]
          refine Till.one 8 rfl (by kernel_rfl) (fun K hK => ?_)
          go_simp
          go_at_call 85
          have E3 := eAr.trans (ext_of_below D3)
          refine (ih (hd ++ [kq]) oq _ _ _ _ wb (h.mono E3) (hln.mono E3) hrb (hor.mono (ext_of_below D3)) (by have := HL.out; rw [List.length_append, List.length_singleton]; omega) h64b).mono ?_
          rintro e wf ⟨vf, rfl, hrf, hbf⟩
          obtain ⟨fa, fl, fk, rfl⟩ := hrf.slice
          have D4 := D3.trans (hbf.mono D3.size)
          refine hK.out _ _ (fun _ => hsv _ D4) (fun hHeld => ?_)
          clear hK K
          try simp only [Act.put, List.setIfInBounds_toArray, List.set_cons_zero, List.set_cons_succ]
          have hw4 := hsv _ D4
          dsimp only at hw4
          refine Till.take 9 (some 3) (v := ?_) rfl rfl (by kernel_rfl) (by kernel_rfl) (by kernel_rfl) (by kernel_rfl) (fun _ _ _ h => h) (Or.inl ⟨by rfl, ?_⟩) (by assumption) ?_
          rotate_left
          · (intro w hSw; (try dsimp only at hSw); go_simp; try with_reducible rfl)
          try simp only [Act.put, List.setIfInBounds_toArray, List.set_cons_zero, List.set_cons_succ]
          refine Till.done (by kernel_rfl) ?_ _
          clear hw4 hHeld hsv f0 f1 f2 f3 f4 f5 f6 x4 x5
          have x5 := (BMr.below D4 BMr.lt).cell 5 _ rfl
          have hbN := hbr.trans (D4.mono hbr.size)
          have hrN : ROpt b.mats.length wf (.slice fa fl fk) (((valsM m).take (i + 1)).foldl (fun o x => refOver b (keeps1 b) (hd ++ [x]) o) o) := by rw [HTK.out]; exact hrf
          clear hrf D4 hoa hba hor BMr BBr hAr
          go_wp2
          go_roundw
          case rel => exact ⟨i + 1, by omega, by rw [HNX.out], ⟨_, _, _, rfl⟩, hrN, hbN⟩
          case measure => simp [intOf]; omega
        · go_simp
          have BK0 := Blk.new wr.drew #[.int .i64 kq] 3
          have D1 := D0.alloc D0.size (.cells #[.int .i64 kq] 3)
          refine hK.out _ _ (fun _ => hsv _ D1) (fun hHeld => ?_)
          clear hK K
          try simp only [Act.put, List.setIfInBounds_toArray]
          refine Till.one 3 rfl (by kernel_rfl) (fun K hK => ?_)
          refine step_nil_ints rfl _ _ rfl rfl _ hd rfl (hh.mono (eAr.trans (ext_of_below D1))) (by omega) (fun va wa hoa hba => ?_)
          have D2 := D1.trans (hba.mono D1.size)
          have hoa2 := own_base hoa D1.size
          have BK := BK0.below hba BK0.lt
          obtain ⟨pa, qa, rfl⟩ := own_slice hoa2
          refine hK.out _ _ (fun _ => hsv _ D2) (fun hHeld => ?_)
          clear hK K
          try simp only [Act.put, List.setIfInBounds_toArray]
          refine Till.one 6 rfl (by kernel_rfl) (fun K hK => ?_)
          refine step_append_lies _ rfl _ _ 37 rfl wr.heap.size 3 i0 (.int .i64 0) 1 8 Try.underlying37 gi gz0 gz1 gz2 rfl (by decide) _ hd.length (hd.map (Value.int .i64)) rfl hoa2 ⟨wr.drew.heap.size, 0, none⟩ 1 1 [.int .i64 kq] rfl rfl (World.news_of_block BK) (by simp [Value.oneCell']) (by decide) (by unfold maxLen; omega) (by omega) D2.size _ rfl (fun g cap wb hob hgb hgg hgl => ?_)
          have D3 : Below wr.heap.size wr wb := D2.grown hgb D2.size (fun k e => (hoa2.lt k e).1)
          have hrb : RInts wb (.slice (some ⟨g, 0, none⟩) (hd.length + 1) cap) (hd ++ [kq]) := by
            have := own_RInts (l := hd ++ [kq]) (base := wr.heap.size) (e := 3) (v := .slice (some ⟨g, 0, none⟩) (hd.length + 1) cap) (w := wb) (by rw [List.length_append, List.length_singleton, List.map_append]; exact hob) (by rw [List.length_append, List.length_singleton]; omega) h64b
            exact this
          refine hK.out _ _ (fun _ => hsv _ D3) (fun hHeld => ?_)
          clear hK K
          try simp only [Act.put]
          refine Till.one 8 rfl (by kernel_rfl) (fun K hK => ?_)
          go_simp
          go_at_call 85
          have E3 := eAr.trans (ext_of_below D3)
          refine (ih (hd ++ [kq]) oq _ _ _ _ wb (h.mono E3) (hln.mono E3) hrb (hor.mono (ext_of_below D3)) (by have := HL.out; rw [List.length_append, List.length_singleton]; omega) h64b).mono ?_
          rintro e wf ⟨vf, rfl, hrf, hbf⟩
          obtain ⟨fa, fl, fk, rfl⟩ := hrf.slice
          have D4 := D3.trans (hbf.mono D3.size)
          refine hK.out _ _ (fun _ => hsv _ D4) (fun hHeld => ?_)
          clear hK K
          try simp only [Act.put, List.setIfInBounds_toArray, List.set_cons_zero, List.set_cons_succ]
          have hw4 := hsv _ D4
          dsimp only at hw4
          refine Till.take 9 (some 3) (v := ?_) rfl rfl (by kernel_rfl) (by kernel_rfl) (by kernel_rfl) (by kernel_rfl) (fun _ _ _ h => h) (Or.inl ⟨by rfl, ?_⟩) (by assumption) ?_
          rotate_left
          · (intro w hSw; (try dsimp only at hSw); go_simp; try with_reducible rfl)
          try simp only [Act.put, List.setIfInBounds_toArray, List.set_cons_zero, List.set_cons_succ]
          refine Till.done (by kernel_rfl) ?_ _
          clear hw4 hHeld hsv f0 f1 f2 f3 f4 f5 f6 x4 x5
          have x5 := (BMr.below D4 BMr.lt).cell 5 _ rfl
          have hbN := hbr.trans (D4.mono hbr.size)
          have hrN : ROpt b.mats.length wf (.slice fa fl fk) (((valsM m).take (i + 1)).foldl (fun o x => refOver b (keeps1 b) (hd ++ [x]) o) o) := by rw [HTK.out]; exact hrf
          clear hrf D4 hoa hba hor BMr BBr hAr
          go_wp2
          go_roundw
          case rel => exact ⟨i + 1, by omega, by rw [HNX.out], ⟨_, _, _, rfl⟩, hrN, hbN⟩
          case measure => simp [intOf]; omega
      · have hd3 : decide (m.least + (i : Int) * m.step ≤ m.most) = false := decide_eq_false (fun h => hiv ((HVM.out i).1 h))
        have hfin : (((valsM m).take i).foldl (fun o x => refOver b (keeps1 b) (hd ++ [x]) o) o) = refOver b (keeps1 b) hd o := by rw [HF.out, List.take_of_length_le (by omega)]
        have HFN := Lib.hid hfin
        clear hfin
        generalize m.least + (i : Int) * m.step = kq at *
        go_wp2
        go_ret
        exact ⟨_, rfl, by rw [← HFN.out]; exact hor, hAr⟩

end Go.Proofs.Ytpkggjfaefkiiaa
