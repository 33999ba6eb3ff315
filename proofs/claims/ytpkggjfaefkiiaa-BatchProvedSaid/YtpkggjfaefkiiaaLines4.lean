/- The lines of a batch; no statement is proved here. -/
import Derived.Test.YtpkggjfaefkiiaaForms3
import Derived.Laws.EntriesVeiled
namespace Go.Proofs.Ytpkggjfaefkiiaa
open Go.RowKit Go.PlainAid
set_option linter.unusedVariables false

structure Ln where
  fs : List Int
  bound : Int

def LnIs (w : World) (c u : Value) (l : Ln) : Prop := RInts w c l.fs ∧ u = .int .i64 l.bound ∧ I64 l.bound
theorem lnMono : ∀ (w w1 : World), Ext w w1 → ∀ c u x, LnIs w c u x → LnIs w1 c u x := fun _ _ e _ _ _ h => ⟨h.1.mono e, h.2⟩
theorem LnIs.one (w : World) (c u : Value) (f : Ln) (h : LnIs w c u f) : c.oneCell' = true ∧ u.oneCell' = true := by
  obtain ⟨⟨a, k, rfl, _⟩, rfl, _⟩ := h
  exact ⟨rfl, rfl⟩
def RLn (w : World) (p : Addr) (l : Ln) : Prop := ∃ c u, w.cell? p = some c ∧ w.cell? ⟨p.block, p.off + 1, none⟩ = some u ∧ LnIs w c u l
theorem RLn.mono {w w' : World} (e : Ext w w') {p : Addr} {f : Ln} (h : RLn w p f) : RLn w' p f := by
  obtain ⟨c, u, h1, h2, h3⟩ := h
  exact ⟨c, u, e _ _ h1, e _ _ h2, lnMono _ _ e _ _ _ h3⟩
def RLns := RSl 2 RLn
theorem RLns.mono {w w' : World} (e : Ext w w') {v : Value} {l : List Ln} (h : RLns w v l) : RLns w' v l := RSl.mono h fun _ _ _ => RLn.mono e
def RetLns (w : World) (l : List Ln) (e : Ending) (w' : World) : Prop := ∃ v, e = .returned v ∧ RLns w' v l ∧ Below w.heap.size w w'

def lnTo (b : Bat) (k : Nat) : List Ln := ⟨b.mats.map f1B, wrap64 (-1000 * b.wanted)⟩ :: ((formsB b).take k).map fun f => ⟨b.mats.map (facB f), 0⟩
def linesB (b : Bat) : List Ln := lnTo b (formsB b).length ++ [⟨b.mats.map (f2B b), 0⟩, ⟨b.mats.map (f3B b), 0⟩]
theorem lnTo_succ (b : Bat) (k : Nat) (h : k < (formsB b).length) : lnTo b (k + 1) = lnTo b k ++ [⟨b.mats.map (facB (formsB b)[k]), 0⟩] := by
  unfold lnTo
  rw [List.take_succ_eq_append_getElem h, List.map_append, List.map_singleton, List.cons_append]
theorem lnTo_len (b : Bat) (k : Nat) (h : k ≤ (formsB b).length) : (lnTo b k).length = k + 1 := by
  unfold lnTo
  simp; omega

theorem isFn_factor : IsFn 95 := fun xs w => by kernel_rfl

theorem gives1 (l : List Mat) (w : World) : Gives 92 #[] #[] VMat w l f1B := fun m v w1 _ hv hb => lines1_any m v w1 (hv.mono (ext_of_below hb))
theorem gives2 (b : Bat) (p : Nat) (l : List Mat) (w : World) (h : w.cell? ⟨p, 5, none⟩ = some (.int .i64 b.redox.hi)) : Gives 96 #[] #[.pointer (some ⟨p, 0, none⟩)] VMat w l (f2B b) :=
  fun m v w1 _ hv hb => lines2_any m b p v w1 (hv.mono (ext_of_below hb)) (ext_of_below hb _ _ h)
theorem gives3 (b : Bat) (p : Nat) (l : List Mat) (w : World) (h : w.cell? ⟨p, 4, none⟩ = some (.int .i64 b.redox.lo)) : Gives 98 #[] #[.pointer (some ⟨p, 0, none⟩)] VMat w l (f3B b) :=
  fun m v w1 _ hv hb => lines3_any m b p v w1 (hv.mono (ext_of_below hb)) (ext_of_below hb _ _ h)
theorem givesF (f : Fm) (c u : Value) (l : List Mat) (w : World) (h : FmIs w c u f) (hl : ∀ m ∈ l, m.content.length ≤ f.coefs.length) : Gives 95 #[.agg #[c, u]] #[] VMat w l (facB f) :=
  fun m v w1 hm hv hb => factor_any f c u v m w1 (h.mono (ext_of_below hb)) (hv.mono (ext_of_below hb)) (hl m hm)

theorem I64_zero : I64 0 := by unfold I64; omega
theorem f1_I64 (m : Mat) : I64 (f1B m) := wrap_I64 _
theorem f2_I64 (b : Bat) (m : Mat) : I64 (f2B b m) := wrap_I64 _
theorem f3_I64 (b : Bat) (m : Mat) : I64 (f3B b m) := wrap_I64 _
theorem fac_I64 (f : Fm) (m : Mat) : I64 (facB f m) := wrap_I64 _

/-- the first line, in a block of its own. -/
theorem ownLn_one {w : World} {base : Nat} (c : Value) (l : Ln) (t : TypeId) (h : RInts w c l.fs) (hi : I64 l.bound) (hb : base ≤ w.heap.size) :
    OwnPairs LnIs (fun _ => True) (w.alloc (.cells #[c, .int .i64 l.bound] t)) base t (.slice (some ⟨w.heap.size, 0, none⟩) 1 1) [l] := by
  refine ⟨[(c, .int .i64 l.bound)], rfl, ⟨rfl, .inr ⟨w.heap.size, 1, _, rfl, hb, Blk.new w _ t, Nat.le_refl _, by unfold maxLen; omega, rfl, rfl⟩⟩, ?_, ?_⟩
  · intro u hu
    simp only [List.mem_singleton] at hu
    subst hu
    obtain ⟨a, k, rfl, _⟩ := h
    exact ⟨rfl, rfl⟩
  · intro i h1 h2
    have : i = 0 := by simp at h1; omega
    subst this
    refine ⟨h.mono (ext_vis_all (ext_of_below (below_box w _)) fun b hb' => ⟨trivial, fun e => ?_⟩), rfl, hi⟩
    simp only [Value.ownBlock, Option.some.injEq] at e
    omega

/-- below B all but one block is as it was. -/
def SameBut (B g : Nat) (w w' : World) : Prop := ∀ k, k < B → k ≠ g → w'.heap[k]? = w.heap[k]?
theorem SameBut.below {B g : Nat} {w w1 w2 : World} (h : SameBut B g w w1) (hb : Below w1.heap.size w1 w2) (hB : B ≤ w1.heap.size) : SameBut B g w w2 := fun k hk hg => (hb.block k (by omega)).trans (h k hk hg)
theorem SameBut.grown {B g : Nat} {w w1 w2 : World} {row : Option Nat} (h : SameBut B g w w1) (hb : w1.grownBy w2 row) (hB : B ≤ w1.heap.size) (hr : ∀ q, row = some q → q = g ∨ B ≤ q) : SameBut B g w w2 := fun k hk hg => by
  rw [hb.block k (by omega) (fun e => by rcases hr k e.symm with h | h <;> omega)]
  exact h k hk hg
theorem SameBut.ext {B g : Nat} {S : Nat → Prop} {w w1 : World} (h : SameBut B g w w1) (hB : B = w.heap.size) (hS : ∀ b, S b → b ≠ g) : Ext (vis S w) w1 := fun p x hp => by
  obtain ⟨h1, h2⟩ := vis_cell.1 hp
  have := cell_lt h2
  rw [World.cell?_of_block (h p.block (by omega) (hS _ h1))]
  exact h2

set_option maxRecDepth 100000 in
theorem lines_any (vb : Value) (b : Bat) (w : World) (h : RBat w vb b) (hS : b.shares.length ≤ b.oxides.length) (hn : b.oxides.length ≤ 1000) (hp : b.props.length ≤ 1000) (hm : b.mats.length ≤ 1000)
    (hc : ∀ f ∈ formsB b, ∀ m ∈ b.mats, m.content.length ≤ f.coefs.length) :
    Calls Try.prog 48 #[vb] w (RetLns w (linesB b)) := by
  obtain ⟨a0, k0, a1, k1, a2, k2, a3, k3, rfl⟩ := h.agg
  obtain ⟨i0, hi, hz0, hz1, hz2⟩ := info_parts info_line
  have hA := below_box w (.cells #[.slice a0 b.oxides.length k0, .slice a1 b.mats.length k1, .slice a2 b.shares.length k2, .slice a3 b.props.length k3, .int .i64 b.redox.lo, .int .i64 b.redox.hi, .int .i64 b.wanted] 29)
  have hB := Blk.new w #[.slice a0 b.oxides.length k0, .slice a1 b.mats.length k1, .slice a2 b.shares.length k2, .slice a3 b.props.length k3, .int .i64 b.redox.lo, .int .i64 b.redox.hi, .int .i64 b.wanted] 29
  have hsz : w.heap.size + 1 ≤ (w.alloc (.cells #[.slice a0 b.oxides.length k0, .slice a1 b.mats.length k1, .slice a2 b.shares.length k2, .slice a3 b.props.length k3, .int .i64 b.redox.lo, .int .i64 b.redox.hi, .int .i64 b.wanted] 29)).heap.size := by simp
  have hflen : (formsB b).length ≤ 4000 := by unfold formsB; rw [fmsTo2_len b _ (Nat.le_refl _)]; omega
  go_enter Try.func48, Try.ntmps48
  go_wp2_with fail
  generalize w.alloc (.cells #[.slice a0 b.oxides.length k0, .slice a1 b.mats.length k1, .slice a2 b.shares.length k2, .slice a3 b.props.length k3, .int .i64 b.redox.lo, .int .i64 b.redox.hi, .int .i64 b.wanted] 29) = W at *
  refine (newLine_any _ b _ #[] #[] f1B _ _ (h.mono (ext_of_below hA)) isFn_lines1 (gives1 _ _) (fun m _ => f1_I64 m) (by omega)).mono ?_
  rintro e w1 ⟨c1, rfl, hc1, hb1⟩
  obtain ⟨q1, r1, rfl, -, -, -⟩ := id hc1
  rw [List.length_map] at hc1
  simp only [List.length_map]
  have hown := ownLn_one (base := w.heap.size + 1) _ ⟨b.mats.map f1B, wrap64 (-1000 * b.wanted)⟩ 39 (hc1.mono (vis_ext _ _)) (wrap_I64 _) (by have := hb1.size; omega)
  have hA1 := (hA.trans (hb1.mono hA.size)).alloc (by have := hb1.size; have := hA.size; omega) (.cells #[.slice q1 b.mats.length r1, .int .i64 (wrap64 (-1000 * b.wanted))] 39)
  have hB1 := (hB.below hb1 hB.lt).alloc (.cells #[.slice q1 b.mats.length r1, .int .i64 (wrap64 (-1000 * b.wanted))] 39)
  have hsz1 := hb1.size
  have e0 := hB1.cell 0 (.slice a0 b.oxides.length k0) rfl
  have e1 := hB1.cell 1 (.slice a1 b.mats.length k1) rfl
  have e2 := hB1.cell 2 (.slice a2 b.shares.length k2) rfl
  have e3 := hB1.cell 3 (.slice a3 b.props.length k3) rfl
  have e4 := hB1.cell 4 (.int .i64 b.redox.lo) rfl
  have e5 := hB1.cell 5 (.int .i64 b.redox.hi) rfl
  have e6 := hB1.cell 6 (.int .i64 b.wanted) rfl
  clear hb1 hc1 hB hA
  go_wp2_with fail
  generalize hw2 : w1.alloc (.cells #[.slice q1 b.mats.length r1, .int .i64 (wrap64 (-1000 * b.wanted))] 39) = W2 at *
  have hszW2 : w1.heap.size < W2.heap.size := by rw [← hw2]; simp
  generalize hg1 : w1.heap.size = g1 at *
  clear e0 e1 e2 e3 e4 e5 e6 hw2 hg1
  refine (forms_any (· < w.heap.size) _ b _ (h.mono (ext_vis_all (ext_of_below hA1) (fun _ h => h))) (fun b hb => Nat.lt_of_lt_of_le hb hA1.size) hS (by omega) (by omega)).mono ?_
  rintro e w3 ⟨vf, rfl, hvf, hb3⟩
  obtain ⟨qf, rf, rfl, -, ⟨hrf, -⟩, hfl⟩ := id hvf
  have hown3 := hown.below lnMono hb3
  have hA3 := hA1.trans (hb3.mono hA1.size)
  have hB3 := hB1.below hb3 hB1.lt
  have hsz3 : w.heap.size + 1 ≤ w3.heap.size := by have := hb3.size; omega
  have hg1 : w.heap.size + 1 ≤ g1 ∧ g1 < W2.heap.size := ⟨by omega, hszW2⟩
  have hs3 := hb3.size
  clear hown hA1 hB1 hb3 hszW2 hsz1 hvf
  go_wp2
  go_loopw [4, 19] (fun v i wr => ∃ (k : Nat) (l : List Ln), k ≤ (formsB b).length ∧ i = .int .i64 k ∧ Hid (l = lnTo b k) ∧ OwnPairs LnIs (fun _ => True) wr (w.heap.size + 1) 39 v l ∧ Below (w.heap.size + 1) w3 wr ∧ SameBut w3.heap.size g1 w3 wr ∧ (∀ q, v.ownBlock = some q → q = g1 ∨ w3.heap.size ≤ q)) (fun _ i _ => (formsB b).length - (intOf i).toNat)
  case atStart => exact ⟨0, _, Nat.zero_le _, rfl, rfl, hown3, Below.refl _ _, fun _ _ _ => rfl, fun q hq => by simp only [Value.ownBlock, Option.some.injEq] at hq; exact Or.inl hq.symm⟩
  case round =>
    obtain ⟨k, l, hk, rfl, hx, hown, hb, hsame, hob⟩ := hrel
    clear hown3
    have hfinB := hA3.trans (hb.mono (by omega))
    have hBr := hB3.below hb (by omega)
    have hszr := hb.size
    by_cases hlt : k < (formsB b).length
    · have hst := Lib.hid (lnTo_succ b k hlt)
      have hll : l.length ≤ 5000 := by rw [hx.out, lnTo_len b k hk]; omega
      have hcf := hc _ (List.getElem_mem hlt)
      obtain ⟨b1, o1, rfl, c, u, g0, g1', hF⟩ := hfl k hlt
      replace hF := fmMono _ _ (hsame.ext rfl (fun b hb => by rcases hb with h | h <;> omega)) _ _ _ hF
      replace g0 := hsame.ext rfl (fun b hb => by rcases hb with h | h <;> omega) _ _ g0
      replace g1' := hsame.ext rfl (fun b hb => by rcases hb with h | h <;> omega) _ _ g1'
      simp only at g0 g1'
      have hbl := cell_lt g0
      simp only at hbl
      obtain ⟨p, rfl, hF1, hF2⟩ := id hF
      obtain ⟨ac, kc, rfl, -, -, -⟩ := id hF1
      clear hfl hc hF1 hF2
      generalize hff : (formsB b)[k] = f at *
      clear hff
      have f0 := hBr.cell 0 (.slice a0 b.oxides.length k0) rfl
      have f1 := hBr.cell 1 (.slice a1 b.mats.length k1) rfl
      have f2 := hBr.cell 2 (.slice a2 b.shares.length k2) rfl
      have f3 := hBr.cell 3 (.slice a3 b.props.length k3) rfl
      have f4 := hBr.cell 4 (.int .i64 b.redox.lo) rfl
      have f5 := hBr.cell 5 (.int .i64 b.redox.hi) rfl
      have f6 := hBr.cell 6 (.int .i64 b.wanted) rfl
      have hbl2 := hBr.lt
      go_wp2_with fail
      have W3b := below_box wr (.cells #[.slice ac f.coefs.length kc, .func (.func (fmFn f)) #[] #[.pointer (some ⟨p, 0, none⟩)]] 121)
      have hfin3 := hfinB.trans (W3b.mono hfinB.size)
      have hownW := hown.below lnMono W3b
      have hFW := fmMono _ _ (ext_of_below W3b) _ _ _ hF
      have hsameW := hsame.below W3b (by omega)
      have hbW := hb.trans (W3b.mono (by omega))
      generalize wr.alloc (.cells #[.slice ac f.coefs.length kc, .func (.func (fmFn f)) #[] #[.pointer (some ⟨p, 0, none⟩)]] 121) = W4 at *
      refine (newLine_any _ b _ #[.agg #[.slice ac f.coefs.length kc, .func (.func (fmFn f)) #[] #[.pointer (some ⟨p, 0, none⟩)]]] #[] (facB f) _ _ (h.mono (ext_of_below hfin3)) isFn_factor (givesF f _ _ _ _ hFW hcf) (fun m _ => fac_I64 f m) (by omega)).mono ?_
      rintro e w5 ⟨c5, rfl, hc5, hb5⟩
      obtain ⟨q5, r5, rfl, -, -, -⟩ := id hc5
      rw [List.length_map] at hc5
      simp only [List.length_map]
      clear f0 f1 f2 f3 f4 f5 f6 hcf hF hFW g0 g1' W3b
      have own5 := hownW.below lnMono hb5
      have hb5s := hb5.size
      have hWs := hfin3.size
      have hsame5 := (hsameW.below hb5 (by have := hbW.size; omega)).below (below_box w5 (.cells #[.slice q5 b.mats.length r5, .int .i64 0] 39)) (by have := hbW.size; omega)
      have hbW5 := (hbW.trans (hb5.mono (by have := hbW.size; omega))).trans ((below_box w5 (.cells #[.slice q5 b.mats.length r5, .int .i64 0] 39)).mono (by have := hbW.size; omega))
      have own6 := own5.below lnMono (below_box w5 (.cells #[.slice q5 b.mats.length r5, .int .i64 0] 39))
      have hlt4 : ∀ q, u4.ownBlock = some q → q < W4.heap.size := own_lt hownW.choose_spec.2.1
      obtain ⟨us, hus, hown6, hone, hR6⟩ := own6
      have hc6 : RInts (vis (fun b => True ∧ offOwn u4 b) (w5.alloc (.cells #[.slice q5 b.mats.length r5, .int .i64 0] 39))) (.slice q5 b.mats.length r5) (b.mats.map (facB f)) :=
        hc5.mono (ext_vis_of (ext_of_below (below_box w5 _)) (fun q _ hq => ⟨trivial, fun e => by have := hlt4 q e; omega⟩))
      have hsz6 : w3.heap.size ≤ w5.heap.size := by have := hbW.size; omega
      clear hown hownW own5 hsameW hbW hsame hb hc5 hfinB hBr hb5 hfin3
      go_wp2_with (at_builtin; refine wpList_append_lies _ rfl _ _ _ rfl (w.heap.size + 1) 39 i0 _ 2 32 Try.underlying32 hi hz0 hz1 hz2 rfl (by omega) _ l.length _ rfl hown6 ⟨w5.heap.size, 0, none⟩ 1 1 (pc (.slice q5 b.mats.length r5, .int .i64 0)) rfl rfl (World.news_of_block (cs := #[.slice q5 b.mats.length r5, .int .i64 0]) (heap_alloc_new w5 _)) (by simp [pc, Value.oneCell']) (by omega) (by unfold maxLen; omega) (by omega) (by simp; omega) _ rfl ?_; intro g6 k6 w7 hown7 hgrow7 hat7 hlt7)
      have hownF := ownPairs_snoc (R := LnIs) lnMono (w := w5.alloc (.cells #[.slice q5 b.mats.length r5, .int .i64 0] 39)) (l2 := [⟨b.mats.map (facB f), 0⟩]) (us2 := [(.slice q5 b.mats.length r5, .int .i64 0)]) hus rfl (by simpa using hown7) hgrow7 hat7 hone (by intro u hu; simp only [List.mem_singleton] at hu; subst hu; exact ⟨rfl, rfl⟩) hR6
        (fun i h1 h2 => by
          have : i = 0 := by simp at h1; omega
          subst this
          exact ⟨hc6, rfl, I64_zero⟩)
      rw [show l ++ [(⟨b.mats.map (facB f), 0⟩ : Ln)] = lnTo b (k + 1) by rw [hst.out, hx.out]] at hownF
      have hB7 := hbW5.grown hgrow7 (by simp; omega) (fun q hq => (hown6.lt q hq).1)
      have hS7 := hsame5.grown hgrow7 (by simp; omega) hob
      have hob7 : ∀ q, (Value.slice (some ⟨g6, 0, none⟩) (l.length + 1) k6).ownBlock = some q → q = g1 ∨ w3.heap.size ≤ q := by
        intro q hq
        simp only [Value.ownBlock, Option.some.injEq] at hq
        rcases hat7 with h7 | h7
        · subst hq; exact hob _ h7
        · right; simp at h7; omega
      clear hown7 hgrow7 hat7 hown6 hone hR6 hc6 hsame5 hbW5 hob hlt4
      go_roundw
      case rel => exact ⟨k + 1, _, by omega, by go_num, rfl, hownF, hB7, hS7, hob7⟩
      case measure => simp [intOf]; omega
    · have f0 := hBr.cell 0 (.slice a0 b.oxides.length k0) rfl
      have f1 := hBr.cell 1 (.slice a1 b.mats.length k1) rfl
      have f2 := hBr.cell 2 (.slice a2 b.shares.length k2) rfl
      have f3 := hBr.cell 3 (.slice a3 b.props.length k3) rfl
      have f4 := hBr.cell 4 (.int .i64 b.redox.lo) rfl
      have f5 := hBr.cell 5 (.int .i64 b.redox.hi) rfl
      have f6 := hBr.cell 6 (.int .i64 b.wanted) rfl
      have hxx := hx.out
      rw [show k = (formsB b).length from by omega] at hxx
      have HX := Lib.hid hxx
      have hll : l.length ≤ 5000 := by rw [hxx, lnTo_len b _ (Nat.le_refl _)]; omega
      have hRB := (h.mono (ext_of_below hfinB)).mono (ext_drew wr)
      have f4d := ext_drew wr _ _ f4
      have f5d := ext_drew wr _ _ f5
      have hlt4 : ∀ q, u4.ownBlock = some q → w.heap.size + 1 ≤ q ∧ q < wr.heap.size := fun q hq => (hown.choose_spec.2.1).lt q hq
      have N1 : some w.heap.size ≠ u4.ownBlock := by
        intro e
        have := hlt4 _ e.symm
        omega
      have hgr := Lib.hid (hown.below lnMono ((Below.refl wr.heap.size wr).drew))
      clear hxx hx hfl hc hown hsame hob hB3 hA3 hBr
      have hsz3r : w.heap.size + 1 ≤ wr.heap.size := by omega
      go_wp2
      go_region_held3 (fun w' => w'.cell? ⟨w.heap.size, 0, none⟩ = some (.slice a0 b.oxides.length k0) ∧ w'.cell? ⟨w.heap.size, 1, none⟩ = some (.slice a1 b.mats.length k1) ∧ w'.cell? ⟨w.heap.size, 2, none⟩ = some (.slice a2 b.shares.length k2) ∧ w'.cell? ⟨w.heap.size, 3, none⟩ = some (.slice a3 b.props.length k3) ∧ w'.cell? ⟨w.heap.size, 4, none⟩ = some (.int .i64 b.redox.lo) ∧ w'.cell? ⟨w.heap.size, 5, none⟩ = some (.int .i64 b.redox.hi) ∧ w'.cell? ⟨w.heap.size, 6, none⟩ = some (.int .i64 b.wanted))
        (first | go_keep | (exact keep7 (by assumption) (by assumption)) | (exact grow7 (by assumption) N1 (by assumption)) | (refine ⟨?_, ?_, ?_, ?_, ?_, ?_, ?_⟩ <;> exact keepCell (by assumption) (by assumption)))
        (first
        | (go_at_call 93; (with_reducible refine (newLine_any _ b 96 #[] #[.pointer (some ⟨w.heap.size, 0, none⟩)] (f2B b) _ _ hRB isFn_lines2 (gives2 b _ _ _ f5d) (fun m _ => f2_I64 b m) (by omega)).mono ?_); rintro e wA ⟨cA, rfl, hcA, hbA⟩; obtain ⟨qA, rA, rfl, -, -, -⟩ := id hcA; rw [List.length_map] at hcA; simp only [List.length_map])
        | (go_at_call 93; (with_reducible refine (newLine_any _ b 98 #[] #[.pointer (some ⟨w.heap.size, 0, none⟩)] (f3B b) _ _ (hRB.mono (ext_of_below hbA)) isFn_lines3 (gives3 b _ _ _ (keepCell hbA f4d)) (fun m _ => f3_I64 b m) (by omega)).mono ?_); rintro e wB ⟨cB, rfl, hcB, hbB⟩; obtain ⟨qB, rB, rfl, -, -, -⟩ := id hcB; rw [List.length_map] at hcB; simp only [List.length_map]; have hownB := ((hgr.out.below lnMono hbA).below lnMono hbB).below lnMono (below_box wB (.cells #[.slice qA b.mats.length rA, .int .i64 0, .slice qB b.mats.length rB, .int .i64 0] 39)); obtain ⟨us, hus, hown6, hone, hR6⟩ := hownB; have hszB : w.heap.size + 1 ≤ wB.heap.size := by (have := hbA.size; have := hbB.size; simp only [World.size_drew] at *; omega))
        | (refine step_append_lies _ (by rfl) _ _ _ (by rfl) (w.heap.size + 1) 39 i0 _ 2 32 Try.underlying32 hi hz0 hz1 hz2 rfl (by omega) _ l.length _ (by rfl) hown6 ⟨wB.heap.size, 0, none⟩ 2 2 (pc (.slice qA b.mats.length rA, .int .i64 0) ++ pc (.slice qB b.mats.length rB, .int .i64 0)) (by rfl) (by rfl) (World.news_of_block (cs := #[.slice qA b.mats.length rA, .int .i64 0, .slice qB b.mats.length rB, .int .i64 0]) (heap_alloc_new wB _)) (by simp [pc, Value.oneCell']) (by omega) (by unfold maxLen; omega) (by omega) (by simp; omega) _ rfl ?_; intro g6 k6 w7 hown7 hgrow7 hat7 hlt7))
      have hbAB : Below wr.heap.size wr (wB.alloc (.cells #[.slice qA b.mats.length rA, .int .i64 0, .slice qB b.mats.length rB, .int .i64 0] 39)) :=
        ((((Below.refl wr.heap.size wr).drew).trans (hbA.mono (Nat.le_refl _))).trans (hbB.mono hbA.size)).alloc (by have := hbA.size; have := hbB.size; simp only [World.size_drew] at *; omega) _
      have hsA := hbA.size
      have hsB := hbB.size
      simp only [World.size_drew] at hsA
      have hE1 : Ext wA (wB.alloc (.cells #[.slice qA b.mats.length rA, .int .i64 0, .slice qB b.mats.length rB, .int .i64 0] 39)) := (ext_of_below hbB).trans (ext_of_below (below_box wB _))
      have hownF := ownPairs_snoc (R := LnIs) lnMono (w := wB.alloc (.cells #[.slice qA b.mats.length rA, .int .i64 0, .slice qB b.mats.length rB, .int .i64 0] 39)) (l2 := [⟨b.mats.map (f2B b), 0⟩, ⟨b.mats.map (f3B b), 0⟩]) (us2 := [(.slice qA b.mats.length rA, .int .i64 0), (.slice qB b.mats.length rB, .int .i64 0)]) hus rfl (by simpa using hown7) hgrow7 hat7 hone
        (by intro u hu; simp only [List.mem_cons, List.not_mem_nil, or_false] at hu; rcases hu with rfl | rfl <;> exact ⟨rfl, rfl⟩) hR6
        (fun i h1 h2 => by
          have hi2 : i < 2 := h1
          match i, hi2 with
          | 0, _ => exact ⟨hcA.mono (ext_vis_of hE1 (fun q _ hq => ⟨trivial, fun e => by have := hlt4 q e; simp only [World.size_drew] at hq; omega⟩)), rfl, I64_zero⟩
          | 1, _ => exact ⟨hcB.mono (ext_vis_of (ext_of_below (below_box wB _)) (fun q _ hq => ⟨trivial, fun e => by have := hlt4 q e; omega⟩)), rfl, I64_zero⟩)
      rw [show l ++ [(⟨b.mats.map (f2B b), 0⟩ : Ln), ⟨b.mats.map (f3B b), 0⟩] = linesB b by rw [HX.out]; rfl] at hownF
      have hres := own_pairs_RSl lnMono hownF (fun _ _ => trivial) (by unfold linesB; rw [List.length_append, lnTo_len b _ (Nat.le_refl _)]; simp; omega)
      have hRes : RLns w7 _ (linesB b) := RLns.mono (vis_ext _ _) hres
      have hB7 := (hfinB.trans (hbAB.mono hfinB.size)).grown hgrow7 (by simp; omega) (fun q hq => by have := (hown6.lt q hq).1; omega)
      clear hownF hres hown7 hgrow7 hat7 hown6 hone hR6 hbAB hE1 hcA hcB hbA hbB hlt4 hgr
      go_wp2
      go_ret
      exact ⟨_, rfl, hRes, hB7⟩

end Go.Proofs.Ytpkggjfaefkiiaa
