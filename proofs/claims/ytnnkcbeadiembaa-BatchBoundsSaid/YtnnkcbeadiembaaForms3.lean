/- The forms of a batch: the two loops; no statement is proved here. -/
import Derived.Test.YtnnkcbeadiembaaForms2
namespace Go.Proofs.Ytnnkcbeadiembaa
open Go.RowKit Go.PlainAid
set_option linter.unusedVariables false

def fmsTo1 (b : Bat) (k : Nat) : List Fm := (List.range k).flatMap fun i => sidesB (shareB b.oxides.length i) (b.shares.getD i ⟨0, 0⟩)
def fmsTo2 (b : Bat) (k : Nat) : List Fm := fmsTo1 b b.shares.length ++ (b.props.take k).flatMap fun p => sidesB p.coefs p.target
def formsB (b : Bat) : List Fm := fmsTo2 b b.props.length

theorem fmsTo1_len (b : Bat) (k : Nat) : (fmsTo1 b k).length = 2 * k := by
  unfold fmsTo1
  induction k with
  | zero => rfl
  | succ k ih => rw [List.range_succ, List.flatMap_append, List.length_append, ih]; simp [sidesB]; omega
theorem fmsTo1_succ (b : Bat) (k : Nat) (h : k < b.shares.length) : fmsTo1 b (k + 1) = fmsTo1 b k ++ sidesB (shareB b.oxides.length k) b.shares[k] := by
  unfold fmsTo1
  rw [List.range_succ, List.flatMap_append, List.flatMap_singleton]
  simp [List.getD, List.getElem?_eq_getElem h]
theorem fmsTo2_len (b : Bat) (k : Nat) (h : k ≤ b.props.length) : (fmsTo2 b k).length = 2 * b.shares.length + 2 * k := by
  unfold fmsTo2
  rw [List.length_append, fmsTo1_len]
  congr 1
  induction k with
  | zero => rfl
  | succ k ih => rw [List.take_succ_eq_append_getElem (by omega), List.flatMap_append, List.length_append, ih (by omega)]; simp [sidesB]; omega
theorem fmsTo2_succ (b : Bat) (k : Nat) (h : k < b.props.length) : fmsTo2 b (k + 1) = fmsTo2 b k ++ sidesB b.props[k].coefs b.props[k].target := by
  unfold fmsTo2
  rw [List.take_succ_eq_append_getElem h, List.flatMap_append, List.flatMap_singleton, List.append_assoc]


set_option maxRecDepth 100000 in
theorem forms_any (S : Nat → Prop) (vb : Value) (b : Bat) (w : World) (h : RBat (vis S w) vb b) (hT : ∀ b, S b → b < w.heap.size) (hS : b.shares.length ≤ b.oxides.length) (hn : b.oxides.length ≤ 1000000) (hp : b.props.length ≤ 1000000) :
    Calls Try.prog 92 #[vb] w (RetFms S w (formsB b)) := by
  obtain ⟨v0, v1, v2, v3, rfl, h0, h1, h2, h3, i1, i2, i3⟩ := id h
  obtain ⟨a0, k0, rfl, -, ⟨-, l0⟩, -⟩ := h0
  obtain ⟨a1, k1, rfl, -, ⟨-, l1⟩, -⟩ := h1
  obtain ⟨a2, k2, rfl, -, ⟨-, l2⟩, hl2⟩ := h2
  obtain ⟨a3, k3, rfl, -, ⟨-, l3⟩, hl3⟩ := h3
  obtain ⟨i0, hi, hz0, hz1, hz2⟩ := info_parts info_form
  have hA := below_box w (.cells #[.slice a0 b.oxides.length k0, .slice a1 b.mats.length k1, .slice a2 b.shares.length k2, .slice a3 b.props.length k3, .int .i64 b.redox.lo, .int .i64 b.redox.hi, .int .i64 b.wanted] 29)
  have hB := Blk.new w #[.slice a0 b.oxides.length k0, .slice a1 b.mats.length k1, .slice a2 b.shares.length k2, .slice a3 b.props.length k3, .int .i64 b.redox.lo, .int .i64 b.redox.hi, .int .i64 b.wanted] 29
  have hsz : w.heap.size + 1 ≤ (w.alloc (.cells #[.slice a0 b.oxides.length k0, .slice a1 b.mats.length k1, .slice a2 b.shares.length k2, .slice a3 b.props.length k3, .int .i64 b.redox.lo, .int .i64 b.redox.hi, .int .i64 b.wanted] 29)).heap.size := by simp
  go_enter Try.func92, Try.ntmps92
  go_wp2
  generalize w.alloc (.cells #[.slice a0 b.oxides.length k0, .slice a1 b.mats.length k1, .slice a2 b.shares.length k2, .slice a3 b.props.length k3, .int .i64 b.redox.lo, .int .i64 b.redox.hi, .int .i64 b.wanted] 29) = W at *
  go_loopw [3, 11] (fun v i wr => ∃ (k : Nat) (l : List Fm), k ≤ b.shares.length ∧ i = .int .i64 k ∧ Hid (l = fmsTo1 b k) ∧ OwnPairs FmIs (fun b => S b ∨ w.heap.size ≤ b) wr (w.heap.size + 1) 132 v l ∧ Below (w.heap.size + 1) W wr) (fun _ i _ => b.shares.length - (intOf i).toNat)
  case atStart => exact ⟨0, [], Nat.zero_le _, rfl, rfl, ownPairs_nil _ _ _ _ _, Below.refl _ _⟩
  case round =>
    obtain ⟨k, l, hk, rfl, hx, hown, hb⟩ := hrel
    have hfinB := hA.trans (hb.mono (by omega))
    have hBr := hB.below hb (by omega)
    by_cases hlt : k < b.shares.length
    · have hst := Lib.hid (fmsTo1_succ b k hlt)
      have hll : l.length ≤ 2000000 := by rw [hx.out, fmsTo1_len]; omega
      obtain ⟨b1, o1, rfl, g1, g2, -, -⟩ := hl2 k hlt
      replace g1 := vis_ext _ _ _ _ g1
      replace g2 := vis_ext _ _ _ _ g2
      have hbl := cell_lt g1
      simp only at g1 g2 hbl
      obtain ⟨hcc, hzz⟩ := bcell hfinB
      clear hl2 hl3
      generalize b.shares[k] = s at *
      go_wp2_with fail
      have W2 := below_box wr (.cells #[.int .i64 s.lo, .int .i64 s.hi] 27)
      have B2 := Blk.new wr #[.int .i64 s.lo, .int .i64 s.hi] 27
      have hW3 := hb.trans (W2.mono (by have := hb.size; omega))
      have hfin3 := hfinB.trans (W2.mono hfinB.size)
      have hown' : wr.ownsRow (w.heap.size + 1) 132 2 u3 l.length _ := hown.choose_spec.2.1
      obtain ⟨us, hus, hown3, hone3, hR3⟩ := hown.below fmMono W2
      have hB3 := hBr.below W2 hBr.lt
      generalize hszr : wr.heap.size = nr at *
      generalize wr.alloc (.cells #[.int .i64 s.lo, .int .i64 s.hi] 27) = W3 at *
      have hRB := ((h.mono (vis_ext _ _)).mono (ext_of_below hfin3)).mono (ext_drew W3)
      have c0 : W3.cell? ⟨w.heap.size, 0, none⟩ = some (.slice a0 b.oxides.length k0) := hB3.cell 0 _ rfl
      have c1 : W3.cell? ⟨w.heap.size, 1, none⟩ = some (.slice a1 b.mats.length k1) := hB3.cell 1 _ rfl
      have c2 : W3.cell? ⟨w.heap.size, 2, none⟩ = some (.slice (some ⟨b1, o1, none⟩) b.shares.length k2) := hB3.cell 2 _ rfl
      have c3 : W3.cell? ⟨w.heap.size, 3, none⟩ = some (.slice a3 b.props.length k3) := hB3.cell 3 _ rfl
      have c4 : W3.cell? ⟨w.heap.size, 4, none⟩ = some (.int .i64 b.redox.lo) := hB3.cell 4 _ rfl
      have c5 : W3.cell? ⟨w.heap.size, 5, none⟩ = some (.int .i64 b.redox.hi) := hB3.cell 5 _ rfl
      have c6 : W3.cell? ⟨w.heap.size, 6, none⟩ = some (.int .i64 b.wanted) := hB3.cell 6 _ rfl
      have j0 : W3.cell? ⟨nr, 0, none⟩ = some (.int .i64 s.lo) := B2.cell 0 _ rfl
      have j1 : W3.cell? ⟨nr, 1, none⟩ = some (.int .i64 s.hi) := B2.cell 1 _ rfl
      have hltx : k < b.oxides.length := by omega
      have N1 : some w.heap.size ≠ u3.ownBlock := by
        intro e
        have := hown3.lt _ e.symm
        omega
      have N2 : some nr ≠ u3.ownBlock := by
        intro e
        have := own_lt hown' _ e.symm
        omega
      clear g1 g2 hcc hzz hown hown' W2 B2 hszr hBr hfinB hb hB3
      go_region_held3 (fun w' => w'.cell? ⟨w.heap.size, 0, none⟩ = some (.slice a0 b.oxides.length k0) ∧ w'.cell? ⟨w.heap.size, 1, none⟩ = some (.slice a1 b.mats.length k1) ∧ w'.cell? ⟨w.heap.size, 2, none⟩ = some (.slice (some ⟨b1, o1, none⟩) b.shares.length k2) ∧ w'.cell? ⟨w.heap.size, 3, none⟩ = some (.slice a3 b.props.length k3) ∧ w'.cell? ⟨w.heap.size, 4, none⟩ = some (.int .i64 b.redox.lo) ∧ w'.cell? ⟨w.heap.size, 5, none⟩ = some (.int .i64 b.redox.hi) ∧ w'.cell? ⟨w.heap.size, 6, none⟩ = some (.int .i64 b.wanted) ∧ w'.cell? ⟨nr, 0, none⟩ = some (.int .i64 s.lo) ∧ w'.cell? ⟨nr, 1, none⟩ = some (.int .i64 s.hi))
        (first | go_keep | (exact keep9 (by assumption) (by assumption)) | (exact grow9 (by assumption) N1 N2 (by assumption)) | (refine ⟨?_, ?_, ?_, ?_, ?_, ?_, ?_, ?_, ?_⟩ <;> exact keepCell (by assumption) (by assumption)))
        (first
        | (go_at_call 50; refine (shareCoefs_any _ b k _ hRB hltx hn).mono ?_; rintro e w1 ⟨v1, rfl, hv1, hb1⟩)
        | (go_at_call 113; refine (sides_any (W3.drew.heap.size ≤ ·) _ _ s _ hv1).mono ?_; rintro e w2 ⟨v2, rfl, hv2, hb2⟩; have hown4 := own_below (own_below (own_drew hown3) hb1 (own_lt hown3)) hb2 (own_lt (own_below (own_drew hown3) hb1 (own_lt hown3))); obtain ⟨b5, o5, k5, us5, rfl, n1, n2, n3, n4, n5, n6⟩ := fms_two hv2; have hsz2 : w.heap.size + 1 ≤ w2.heap.size := by (have := hb2.size; have := hb1.size; have := hW3.size; simp at *; omega))
        | (refine step_append_lies _ (by rfl) _ _ _ (by rfl) (w.heap.size + 1) 132 i0 _ 2 32 Try.underlying128 hi hz0 hz1 hz2 rfl (by omega) _ l.length _ (by rfl) hown4 ⟨b5, o5, none⟩ 2 k5 (us5.flatMap pc) (by rfl) n2 n3 n5 (by omega) (by unfold maxLen; omega) (by omega) hsz2 _ rfl ?_; intro g6 k6 w3 hown6 hgrow6 hat6 hlt6))
      have hb12 : Below W3.heap.size W3 w2 := ((Below.refl _ _).drew.trans (hb1.mono (Nat.le_refl _))).trans (hb2.mono hb1.size)
      have hownF := ownPairs_snoc (R := FmIs) fmMono (w := w2) (l2 := sidesB (shareB b.oxides.length k) s) hus n1 hown6 hgrow6 hat6 hone3 n4 (fun i h h' => FmIs.mono (ext_vis_of (ext_of_below hb12) (fun _ _ h => h)) (hR3 i h h'))
        (fun i h h' => FmIs.mono (ext_vis_of (Ext.refl _) (fun b _ hbS => ⟨Or.inr (by
          have h1 := hb1.size
          have h2 := hfin3.size
          simp only [World.size_drew] at h1 hbS
          rcases hbS with h3 | h3 <;> omega), fun e => by
          have := own_lt hown3 b e
          have h1 := hb1.size
          simp only [World.size_drew] at h1 hbS
          rcases hbS with h2 | h2
          · omega
          · omega⟩)) (n6 i h h'))
      rw [show l ++ sidesB (shareB b.oxides.length k) s = fmsTo1 b (k + 1) by rw [hst.out, hx.out]] at hownF
      have hB4 := (hW3.trans (hb12.mono (by have := hW3.size; omega))).grown hgrow6 hsz2 (fun q hq => (hown3.lt q hq).1)
      clear hb12 hgrow6 hown6 hown4 hown3 hR3 n6 hb1 hb2 hv1 hv2 hRB hB hW3 hfin3 hat6
      go_wp2
      go_roundw
      case rel => exact ⟨k + 1, _, by omega, by go_num, rfl, hownF, hB4⟩
      case measure => simp [intOf]; omega
    · have hxx := hx.out
      rw [show k = b.shares.length from by omega] at hxx
      have m3 : wr.cell? ⟨w.heap.size, 3, none⟩ = some (.slice a3 b.props.length k3) := hBr.cell 3 _ rfl
      have HX := Lib.hid hxx
      clear hxx hx hl2
      have hB0 := hB.below hb (by omega)
      have hsz0 : w.heap.size + 1 ≤ wr.heap.size := by have := hb.size; omega
      clear hBr hB hb hA
      go_wp2
      clear m3 hlt hk
      obtain ⟨wo, rfl⟩ : ∃ wo : World, wo = wr := ⟨_, rfl⟩
      go_loopw [3, 27] (fun v i wr => ∃ (k : Nat) (l : List Fm), k ≤ b.props.length ∧ i = .int .i64 k ∧ Hid (l = fmsTo2 b k) ∧ OwnPairs FmIs (fun b => S b ∨ w.heap.size ≤ b) wr (w.heap.size + 1) 132 v l ∧ Below (w.heap.size + 1) wo wr) (fun _ i _ => b.props.length - (intOf i).toNat)
      case atStart => exact ⟨0, l, Nat.zero_le _, rfl, by unfold fmsTo2; simpa [Hid] using HX.out, hown, Below.refl _ _⟩
      case round =>
        clear hown HX
        obtain ⟨k, l, hk, rfl, hx, hown, hb⟩ := hrel
        have hfinC := hfinB.trans (hb.mono (by omega))
        by_cases hlt : k < b.props.length
        · have hst := Lib.hid (fmsTo2_succ b k hlt)
          have hll : l.length ≤ 4000000 := by rw [hx.out, fmsTo2_len b k hk]; omega
          obtain ⟨b1, o1, rfl, c, ⟨g0, g1, g2, g3⟩, hc, hs⟩ := hl3 k hlt
          replace g0 := vis_ext _ _ _ _ g0
          replace g1 := vis_ext _ _ _ _ g1
          replace g2 := vis_ext _ _ _ _ g2
          replace g3 := vis_ext _ _ _ _ g3
          have hbl := cell_lt g0
          simp only at g0 g1 g2 g3 hbl
          obtain ⟨ac, kc, rfl, -, -, -⟩ := id hc
          obtain ⟨hcc, hzz⟩ := bcell hfinC
          clear hl3
          generalize b.props[k] = s at *
          go_wp2_with fail
          have W2 := below_box wr (.cells #[.string s.name, .slice ac s.coefs.length kc, .int .i64 s.target.lo, .int .i64 s.target.hi] 60)
          have hW3 := hb.trans (W2.mono (by have := hb.size; omega))
          have hfin3 := hfinC.trans (W2.mono hfinC.size)
          have hown2 := hown.below fmMono W2
          generalize wr.alloc (.cells #[.string s.name, .slice ac s.coefs.length kc, .int .i64 s.target.lo, .int .i64 s.target.hi] 60) = W3 at *
          refine (sides_any S _ s.coefs s.target _ (hc.mono (ext_vis_of (ext_of_below hfin3) (fun _ _ h => h)))).mono ?_
          rintro e w2 ⟨v2, rfl, hv2, hb2⟩
          obtain ⟨us, hus, hown4, hone, hR4⟩ := hown2.below fmMono hb2
          obtain ⟨b5, o5, k5, us5, rfl, n1, n2, n3, n4, n5, n6⟩ := fms_two hv2
          have hW5 := hW3.trans (hb2.mono (by have := hW3.size; omega))
          have hsz2 : w.heap.size + 1 ≤ w2.heap.size := by have := hW5.size; omega
          have hbs := hb2.size
          have hown3 : ∀ q, u3.ownBlock = some q → w.heap.size + 1 ≤ q ∧ q < W3.heap.size := fun q hq => (hown2.choose_spec.2.1).lt q hq
          clear hown hown2 W2 hcc hzz g0 g1 g2 g3 hc hb
          go_wp2_with (at_builtin; refine wpList_append_lies _ rfl _ _ _ rfl (w.heap.size + 1) 132 i0 _ 2 32 Try.underlying128 hi hz0 hz1 hz2 rfl (by omega) _ l.length _ rfl hown4 ⟨b5, o5, none⟩ 2 k5 (us5.flatMap pc) rfl n2 n3 n5 (by omega) (by unfold maxLen; omega) (by omega) hsz2 _ rfl ?_; intro g6 k6 w3 hown6 hgrow6 hat6 hlt6)
          have hownF := ownPairs_snoc (R := FmIs) fmMono (w := w2) (l2 := sidesB s.coefs s.target) hus n1 hown6 hgrow6 hat6 hone n4 hR4
            (fun i h h' => FmIs.mono (ext_vis_of (Ext.refl _) (fun b _ hbS => ⟨(by
              have h1 := hfin3.size
              rcases hbS with h2 | h2
              · exact Or.inl h2
              · exact Or.inr (by omega)), fun e => by
              have h3 := hown3 b e
              rcases hbS with h2 | h2
              · have := hT b h2
                omega
              · omega⟩)) (n6 i h h'))
          rw [show l ++ sidesB s.coefs s.target = fmsTo2 b (k + 1) by rw [hst.out, hx.out]] at hownF
          have hB4 := hW5.grown hgrow6 hsz2 (fun q hq => (hown3 q hq).1)
          clear hgrow6 hown6 hown4 hown3 hR4 n6 hb2 hv2 hW3 hW5 hfin3 hat6
          go_wp2
          go_roundw
          case rel => exact ⟨k + 1, _, by omega, by go_num, rfl, hownF, hB4⟩
          case measure => simp [intOf]; omega
        · have hxx := hx.out
          rw [show k = b.props.length from by omega] at hxx
          have hF : l = formsB b := hxx
          have hlen : l.length ≤ 140737488351232 := by rw [hxx, fmsTo2_len b _ (Nat.le_refl _)]; omega
          have hres := own_pairs_RSl fmMono hown (fun g hg => Or.inr (by omega)) hlen
          rw [hF] at hres
          have HR := Lib.hid hres
          clear hxx hx hl3 hown hres hF hlen
          go_wp2
          go_ret
          exact ⟨_, rfl, HR.out, hfinC⟩

end Go.Proofs.Ytnnkcbeadiembaa
