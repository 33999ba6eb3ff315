/- The forms of a batch; no statement is proved here. -/
import Derived.Test.YtnnkcbeadiembaaNewLine
namespace Go.Proofs.Ytnnkcbeadiembaa
open Go.RowKit Go.PlainAid
set_option linter.unusedVariables false

def RFm (w : World) (p : Addr) (f : Fm) : Prop := ∃ c u, w.cell? p = some c ∧ w.cell? ⟨p.block, p.off + 1, none⟩ = some u ∧ FmIs w c u f
theorem RFm.mono {w w' : World} (e : Ext w w') {p : Addr} {f : Fm} (h : RFm w p f) : RFm w' p f := by
  obtain ⟨c, u, h1, h2, h3⟩ := h
  exact ⟨c, u, e _ _ h1, e _ _ h2, h3.mono e⟩
def RFms := RSl 2 RFm
theorem RFms.mono {w w' : World} (e : Ext w w') {v : Value} {l : List Fm} (h : RFms w v l) : RFms w' v l := RSl.mono h fun _ _ _ => RFm.mono e

def sidesB (coefs : List Int) (t : Sp) : List Fm := [⟨coefs, true, t⟩, ⟨coefs, false, t⟩]

/-- S: the blocks that the arguments were seen in. -/
def RetFms (S : Nat → Prop) (w : World) (l : List Fm) (e : Ending) (w' : World) : Prop := ∃ v, e = .returned v ∧ RFms (vis (fun b => S b ∨ w.heap.size ≤ b) w') v l ∧ Below w.heap.size w w'

theorem sides_any (S : Nat → Prop) (v : Value) (coefs : List Int) (t : Sp) (w : World) (h : RInts (vis S w) v coefs) :
    Calls Try.prog 113 #[v, .agg #[.int .i64 t.lo, .int .i64 t.hi]] w (RetFms S w (sidesB coefs t)) := by
  obtain ⟨a, k, rfl, -, ⟨-, -⟩, -⟩ := id h
  go_enter Try.func113, Try.ntmps113
  go_wp2
  go_ret
  obtain ⟨B1, B2⟩ : Blk ((w.alloc (.cells #[.int .i64 t.lo, .int .i64 t.hi] 27)).alloc (.cells #[.slice a coefs.length k, .func (.func 123) #[] #[.pointer (some ⟨w.heap.size, 0, none⟩)], .slice a coefs.length k, .func (.func 124) #[] #[.pointer (some ⟨w.heap.size, 0, none⟩)]] 132)) w.heap.size #[.int .i64 t.lo, .int .i64 t.hi] 27 ∧
    Blk ((w.alloc (.cells #[.int .i64 t.lo, .int .i64 t.hi] 27)).alloc (.cells #[.slice a coefs.length k, .func (.func 123) #[] #[.pointer (some ⟨w.heap.size, 0, none⟩)], .slice a coefs.length k, .func (.func 124) #[] #[.pointer (some ⟨w.heap.size, 0, none⟩)]] 132)) (w.heap.size + 1) #[.slice a coefs.length k, .func (.func 123) #[] #[.pointer (some ⟨w.heap.size, 0, none⟩)], .slice a coefs.length k, .func (.func 124) #[] #[.pointer (some ⟨w.heap.size, 0, none⟩)]] 132 := by
    refine ⟨(Blk.new w _ _).alloc _, ?_⟩
    have := Blk.new (w.alloc (.cells #[.int .i64 t.lo, .int .i64 t.hi] 27)) #[.slice a coefs.length k, .func (.func 123) #[] #[.pointer (some ⟨w.heap.size, 0, none⟩)], .slice a coefs.length k, .func (.func 124) #[] #[.pointer (some ⟨w.heap.size, 0, none⟩)]] 132
    simpa using this
  have hA := below_two w (.cells #[.int .i64 t.lo, .int .i64 t.hi] 27) (.cells #[.slice a coefs.length k, .func (.func 123) #[] #[.pointer (some ⟨w.heap.size, 0, none⟩)], .slice a coefs.length k, .func (.func 124) #[] #[.pointer (some ⟨w.heap.size, 0, none⟩)]] 132)
  refine ⟨_, rfl, ⟨some ⟨w.heap.size + 1, 0, none⟩, 2, rfl, Nat.le_refl _, ⟨by omega, by simp [sidesB]⟩, fun i hi => ⟨w.heap.size + 1, 0, rfl, ?_⟩⟩, hA⟩
  have hi2 : i < 2 := hi
  match i, hi2 with
  | 0, _ => exact ⟨_, _, vis_cell.2 ⟨Or.inr (by simp), B2.cell 0 _ rfl⟩, vis_cell.2 ⟨Or.inr (by simp), B2.cell 1 _ rfl⟩, w.heap.size, rfl, h.mono (ext_vis_of (ext_of_below hA) (fun _ _ h => Or.inl h)), vis_cell.2 ⟨Or.inr (by simp), B1.cell 0 _ rfl⟩, vis_cell.2 ⟨Or.inr (by simp), B1.cell 1 _ rfl⟩⟩
  | 1, _ => exact ⟨_, _, vis_cell.2 ⟨Or.inr (by simp), B2.cell 2 _ rfl⟩, vis_cell.2 ⟨Or.inr (by simp), B2.cell 3 _ rfl⟩, w.heap.size, rfl, h.mono (ext_vis_of (ext_of_below hA) (fun _ _ h => Or.inl h)), vis_cell.2 ⟨Or.inr (by simp), B1.cell 0 _ rfl⟩, vis_cell.2 ⟨Or.inr (by simp), B1.cell 1 _ rfl⟩⟩

/-- the coefficients with which a form is the share of an oxide. -/
def shareB (n i : Nat) : List Int := (List.replicate n (0 : Int)).set i 1000

theorem share_I64 (n i : Nat) : ∀ x ∈ shareB n i, I64 x := by
  intro x hx
  rcases List.mem_or_eq_of_mem_set hx with h4 | h4
  · rw [(List.mem_replicate.1 h4).2]; unfold I64; omega
  · rw [h4]; unfold I64; omega

def RetInts (w : World) (l : List Int) (e : Ending) (w' : World) : Prop := ∃ v, e = .returned v ∧ RInts (vis (w.heap.size ≤ ·) w') v l ∧ Below w.heap.size w w'

theorem shareCoefs_any (vb : Value) (b : Bat) (i : Nat) (w : World) (h : RBat w vb b) (hi : i < b.oxides.length) (hn : b.oxides.length ≤ 1000000) :
    Calls Try.prog 50 #[vb, .int .i64 i] w (RetInts w (shareB b.oxides.length i)) := by
  obtain ⟨a0, k0, a1, k1, a2, k2, a3, k3, rfl⟩ := h.agg
  obtain ⟨i0, hi', hz0, hz1, hz2⟩ := info_parts info_int
  have hA0 := below_box w (.cells #[.slice a0 b.oxides.length k0, .slice a1 b.mats.length k1, .slice a2 b.shares.length k2, .slice a3 b.props.length k3, .int .i64 b.redox.lo, .int .i64 b.redox.hi, .int .i64 b.wanted] 29)
  have j1 : (0 : Int) ≤ (i : Int) := Int.natCast_nonneg _
  have j2 : (i : Int) < (b.oxides.length : Int) := by omega
  go_enter Try.func50, Try.ntmps50
  go_wp2_with (at_make; refine wpList_make_full _ rfl _ _ _ rfl (w.heap.size + 1) 3 i0 (.int .i64 0) 1 Try.underlying30 hi' hz0 hz1 .i64 .i64 _ _ b.oxides.length rfl rfl rfl rfl ?_ ?_ ?_ ?_)
  · rw [hz2]; omega
  · unfold maxLen; omega
  · simp
  intro W1 hown hgrow
  have hA1 := hA0.grown hgrow (by simp) (by intro k hk; cases hk)
  rw [toList_madeCells_one, show List.replicate b.oxides.length (Value.int .i64 0) = (List.replicate b.oxides.length (0 : Int)).map (Value.int .i64) from by simp] at hown
  have e1 := hown.cellAt i (by omega)
  rw [List.getElem?_map, List.getElem?_eq_getElem (by simpa using hi), Option.map_some] at e1
  have e2 := hown.frozenAt i
  have hown2 := (hown.stored i (.int .i64 1000)).1
  rw [← List.map_set] at hown2
  have hfin := hA1.setCell (p := ⟨w.heap.size + 1, i, none⟩) (by simp) (.int .i64 1000)
  have hRI := own_RInts (l := shareB b.oxides.length i) (by unfold shareB; rw [List.length_set, List.length_replicate]; exact own_vis (S := (w.heap.size ≤ ·)) hown2 (by intro g hg; simp [Value.ownBlock] at hg; omega)) (by unfold shareB; rw [List.length_set, List.length_replicate]; omega)
    (share_I64 _ _)
  clear hown2 hown hgrow hA0 hA1 h
  simp only [List.getElem_replicate] at e1
  go_wp2
  go_ret
  exact ⟨_, rfl, hRI, hfin⟩

end Go.Proofs.Ytnnkcbeadiembaa
