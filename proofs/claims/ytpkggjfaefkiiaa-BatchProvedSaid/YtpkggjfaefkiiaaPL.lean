/- Prices and Leasts; no statement is proved here. -/
import Derived.Test.YtpkggjfaefkiiaaForms3
import Derived.Ground.Names2Prog
import Derived.Shelf.Slices.Clone
import Derived.Test.YtpkggjfaefkiiaaNewLine
namespace Go.Proofs.Ytpkggjfaefkiiaa
open Go.RowKit Go.PlainAid Go.Shelf
set_option linter.unusedVariables false

def cloneRen : Go.Shelf.Ren := ⟨fun | 15 => 121 | n => n, fun | 22 => 37 | 3 => 3 | 4 => 4 | n => n, fun | n => n⟩
theorem cloneLays : Go.Proofs.Lays2.n15 Try.prog cloneRen := {
  mixed := by kernel_rfl
  f15 := Try.func121.trans (congrArg some (by kernel_rfl))
  t3 := Try.underlying3
  a3 := Try.isAgg3
  z3 := Try.sizeOf3
  v3 := Try.zeroValue3
  t4 := Try.underlying4
  a4 := Try.isAgg4
  z4 := Try.sizeOf4
  v4 := Try.zeroValue4
  t22 := Try.underlying37
  a22 := Try.isAgg37
  z22 := Try.sizeOf37
  v22 := Try.zeroValue37
  i3 := by kernel_rfl }

def RetRow (w : World) (l : List Int) (e : Ending) (w' : World) : Prop := ∃ v, e = .returned v ∧ w'.ownsRow w.heap.size 3 1 v l.length (l.map (Value.int .i64)) ∧ Below w.heap.size w w'

theorem clone_any (v : Value) (l : List Int) (w : World) (h : RInts w v l) (hn : l.length ≤ 1000000) :
    Calls Try.prog 121 #[v] w (RetRow w l) := by
  obtain ⟨a, cap, rfl, hc1, ⟨hc2, hm⟩, hl⟩ := h
  cases a with
  | none =>
    have h0 : l = [] := by
      cases l with
      | nil => rfl
      | cons x l => obtain ⟨b, off, h, -⟩ := hl 0 (by simp); cases h
    subst h0
    refine (Any.slices_Clone_int_nil cloneLays _ cap w).mono ?_
    rintro e w1 ⟨rfl, rfl⟩
    exact ⟨_, rfl, ⟨by simp, .inl ⟨rfl, rfl⟩⟩, Below.refl _ _⟩
  | some a =>
    by_cases h0 : l = []
    · subst h0
      refine (Any.slices_Clone_int_zero cloneLays a cap w).mono ?_
      rintro e w1 ⟨v', rfl, hown, -, hb⟩
      exact ⟨_, rfl, hown, hb⟩
    · have hp : 0 < l.length := List.length_pos_iff.2 h0
      obtain ⟨b, off, h, -⟩ := hl 0 hp
      simp only [Option.some.injEq] at h
      subst h
      refine (Any.slices_Clone_int cloneLays b off l.length cap l w (Nat.le_refl _) (by omega) ?_).mono ?_
      · intro j hj
        obtain ⟨b', off', h, h1, -⟩ := hl j hj
        simp only [Option.some.injEq, Addr.mk.injEq, and_true] at h
        obtain ⟨rfl, rfl⟩ := h
        rw [Nat.mul_one] at h1
        rw [h1]
        simp [List.getD, List.getElem?_eq_getElem hj]
      rintro e w1 ⟨v', rfl, hown, -, hb⟩
      rw [List.take_of_length_le (Nat.le_refl _)] at hown
      exact ⟨_, rfl, hown, hb⟩

end Go.Proofs.Ytpkggjfaefkiiaa

namespace Go.Proofs.Ytpkggjfaefkiiaa
open Go.RowKit Go.PlainAid
set_option linter.unusedVariables false

set_option maxRecDepth 100000 in
theorem prices_any (vb : Value) (b : Bat) (w : World) (h : RBat w vb b) (hn : b.mats.length ≤ 1000000) (hg : ∀ m ∈ b.mats, I64 m.price) :
    Calls Try.prog 80 #[vb] w (RetInts w (b.mats.map Mat.price)) := by
  obtain ⟨v0, v1, v2, v3, rfl, h0, h1, h2, h3, i1, i2, i3⟩ := h
  obtain ⟨a0, k0, rfl, -, ⟨-, l0⟩, -⟩ := h0
  obtain ⟨a1, k1, rfl, l1c, ⟨l1c', l1⟩, hl⟩ := id h1
  obtain ⟨a2, k2, rfl, -, ⟨-, l2⟩, -⟩ := h2
  obtain ⟨a3, k3, rfl, -, ⟨-, l3⟩, -⟩ := h3
  obtain ⟨i0, hi, hz0, hz1, hz2⟩ := info_parts info_int
  have hA0 := below_box w (.cells #[.slice a0 b.oxides.length k0, .slice a1 b.mats.length k1, .slice a2 b.shares.length k2, .slice a3 b.props.length k3, .int .i64 b.redox.lo, .int .i64 b.redox.hi, .int .i64 b.wanted] 29)
  have hB1 := Blk.new w #[.slice a0 b.oxides.length k0, .slice a1 b.mats.length k1, .slice a2 b.shares.length k2, .slice a3 b.props.length k3, .int .i64 b.redox.lo, .int .i64 b.redox.hi, .int .i64 b.wanted] 29
  go_enter Try.func80, Try.ntmps80
  go_wp2_with (at_make; refine wpList_make_full _ rfl _ _ _ rfl (w.heap.size + 1) 3 i0 (.int .i64 0) 1 Try.underlying37 hi hz0 hz1 .i64 .i64 _ _ b.mats.length rfl rfl rfl rfl ?_ ?_ ?_ ?_)
  · rw [hz2]; omega
  · unfold maxLen; omega
  · simp
  intro W1 hown hgrow
  have hA1 := hA0.grown hgrow (by simp) (by intro k hk; cases hk)
  have hC1 : Below (w.heap.size + 1) _ W1 := Below.grown (Below.refl _ _) hgrow (by simp) (by intro k hk; cases hk)
  have hB1' := hB1.below hC1 (by omega)
  have hlt1 : w.heap.size + 1 < W1.heap.size := own_lt hown _ rfl
  rw [toList_madeCells_one, show List.replicate b.mats.length (Value.int .i64 0) = (List.replicate b.mats.length (0 : Int)).map (Value.int .i64) from by simp] at hown
  have hsz0 : w.heap.size ≤ W1.heap.size := by omega
  have m1 : W1.cell? ⟨w.heap.size, 1, none⟩ = some (.slice a1 b.mats.length k1) := hB1'.cell 1 _ rfl
  clear hA0 hgrow hC1 hB1
  go_wp2
  go_loopw [13] (fun i wr => ∃ (k : Nat) (ys : List Int), k ≤ b.mats.length ∧ i = .int .i64 k ∧ Hid (ys.length = b.mats.length ∧ ∀ j, j < k → ys.getD j 0 = (b.mats.map Mat.price).getD j 0) ∧ wr.ownsRow (w.heap.size + 1) 3 1 (.slice (some ⟨w.heap.size + 1, 0, none⟩) b.mats.length b.mats.length) b.mats.length (ys.map (Value.int .i64)) ∧ Below (w.heap.size + 1) W1 wr) (fun i _ => b.mats.length - (intOf i).toNat)
  case atStart => exact ⟨0, List.replicate b.mats.length 0, Nat.zero_le _, rfl, ⟨by simp, by intro j hj; omega⟩, hown, Below.refl _ _⟩
  case round =>
    obtain ⟨k, ys, hk, rfl, hx, hown, hb⟩ := hrel
    have hfinB := hA1.trans (hb.mono (by omega))
    by_cases hlt : k < b.mats.length
    · obtain ⟨b1, o1, rfl, c, ⟨g0, g1, g2, g3, g4, g5, g6⟩, hc, hs⟩ := hl k hlt
      obtain ⟨ac, kc, rfl, -, -, -⟩ := id hc
      have hbl := cell_lt g0
      simp only at g0 g1 g2 g3 g4 g5 g6 hbl
      have hgk := hg b.mats[k] (List.getElem_mem hlt)
      have hst := Lib.hid (fun x hx' => set_upto b.mats Mat.price ys k hlt hx.out.1 hx.out.2 x hx')
      obtain ⟨hcc, hzz⟩ := bcell hfinB
      have hlr : w.heap.size + 1 < wr.heap.size := own_lt hown _ rfl
      clear hl hg hc hs
      generalize b.mats[k] = s at *
      have hAm := below_box wr (.cells #[.string s.name, .int .i64 s.price, .int .i64 s.redox, .int .i64 s.least, .int .i64 s.most, .int .i64 s.step, .slice ac s.content.length kc] 68)
      have hown1 := own_below hown hAm (fun g hg => own_lt hown g hg)
      have e1 := hown1.cellAt k (by omega)
      rw [List.getElem?_map, List.getElem?_eq_getElem (by rw [hx.out.1]; exact hlt), Option.map_some] at e1
      have e2 := hown1.frozenAt k
      have hownS := (hown.stored k (.int .i64 s.price)).1
      rw [← List.map_set] at hownS
      have hfinS := hb.setCell (p := ⟨w.heap.size + 1, k, none⟩) (by simp) (.int .i64 s.price)
      have hAn := below_box (wr.setCell ⟨w.heap.size + 1, k, none⟩ (.int .i64 s.price)) (.cells #[.string s.name, .int .i64 s.price, .int .i64 s.redox, .int .i64 s.least, .int .i64 s.most, .int .i64 s.step, .slice ac s.content.length kc] 68)
      have hown2 := own_below hownS hAn (fun g hg => own_lt hownS g hg)
      have hfin2 := hfinS.trans (hAn.mono (Nat.le_of_lt (own_lt hownS _ rfl)))
      clear hown hown1 hownS hfinS hAn hfinB hb hAm
      go_wp2
      go_roundw
      case rel => exact ⟨k + 1, ys.set k s.price, by omega, by go_num, hst.out _ rfl, hown2, hfin2⟩
      case measure => simp [intOf]; omega
    · have hfin := ext_upto (b.mats.map Mat.price) ys (by rw [hx.out.1]; simp) (fun j hj => hx.out.2 j (by simp at hj; omega))
      subst hfin
      have hRI := own_RInts (l := b.mats.map Mat.price) (by rw [List.length_map]; exact own_vis (S := (w.heap.size ≤ ·)) hown (by intro g hg; simp [Value.ownBlock] at hg; omega)) (by rw [List.length_map]; exact l1) (by intro x hx; obtain ⟨m, hm, rfl⟩ := List.mem_map.1 hx; exact hg m hm)
      have HR := Lib.hid hRI
      clear hRI hx hl hg hown hb hA1
      go_wp2
      go_ret
      exact ⟨_, rfl, HR.out, hfinB⟩

set_option maxRecDepth 100000 in
theorem leasts_any (vb : Value) (b : Bat) (w : World) (h : RBat w vb b) (hn : b.mats.length ≤ 1000000) (hg : ∀ m ∈ b.mats, I64 m.least) :
    Calls Try.prog 119 #[vb] w (RetInts w (b.mats.map Mat.least)) := by
  obtain ⟨v0, v1, v2, v3, rfl, h0, h1, h2, h3, i1, i2, i3⟩ := h
  obtain ⟨a0, k0, rfl, -, ⟨-, l0⟩, -⟩ := h0
  obtain ⟨a1, k1, rfl, l1c, ⟨l1c', l1⟩, hl⟩ := id h1
  obtain ⟨a2, k2, rfl, -, ⟨-, l2⟩, -⟩ := h2
  obtain ⟨a3, k3, rfl, -, ⟨-, l3⟩, -⟩ := h3
  obtain ⟨i0, hi, hz0, hz1, hz2⟩ := info_parts info_int
  have hA0 := below_box w (.cells #[.slice a0 b.oxides.length k0, .slice a1 b.mats.length k1, .slice a2 b.shares.length k2, .slice a3 b.props.length k3, .int .i64 b.redox.lo, .int .i64 b.redox.hi, .int .i64 b.wanted] 29)
  have hB1 := Blk.new w #[.slice a0 b.oxides.length k0, .slice a1 b.mats.length k1, .slice a2 b.shares.length k2, .slice a3 b.props.length k3, .int .i64 b.redox.lo, .int .i64 b.redox.hi, .int .i64 b.wanted] 29
  go_enter Try.func119, Try.ntmps119
  go_wp2_with (at_make; refine wpList_make_full _ rfl _ _ _ rfl (w.heap.size + 1) 3 i0 (.int .i64 0) 1 Try.underlying37 hi hz0 hz1 .i64 .i64 _ _ b.mats.length rfl rfl rfl rfl ?_ ?_ ?_ ?_)
  · rw [hz2]; omega
  · unfold maxLen; omega
  · simp
  intro W1 hown hgrow
  have hA1 := hA0.grown hgrow (by simp) (by intro k hk; cases hk)
  have hC1 : Below (w.heap.size + 1) _ W1 := Below.grown (Below.refl _ _) hgrow (by simp) (by intro k hk; cases hk)
  have hB1' := hB1.below hC1 (by omega)
  have hlt1 : w.heap.size + 1 < W1.heap.size := own_lt hown _ rfl
  rw [toList_madeCells_one, show List.replicate b.mats.length (Value.int .i64 0) = (List.replicate b.mats.length (0 : Int)).map (Value.int .i64) from by simp] at hown
  have hsz0 : w.heap.size ≤ W1.heap.size := by omega
  have m1 : W1.cell? ⟨w.heap.size, 1, none⟩ = some (.slice a1 b.mats.length k1) := hB1'.cell 1 _ rfl
  clear hA0 hgrow hC1 hB1
  go_wp2
  go_loopw [13] (fun i wr => ∃ (k : Nat) (ys : List Int), k ≤ b.mats.length ∧ i = .int .i64 k ∧ Hid (ys.length = b.mats.length ∧ ∀ j, j < k → ys.getD j 0 = (b.mats.map Mat.least).getD j 0) ∧ wr.ownsRow (w.heap.size + 1) 3 1 (.slice (some ⟨w.heap.size + 1, 0, none⟩) b.mats.length b.mats.length) b.mats.length (ys.map (Value.int .i64)) ∧ Below (w.heap.size + 1) W1 wr) (fun i _ => b.mats.length - (intOf i).toNat)
  case atStart => exact ⟨0, List.replicate b.mats.length 0, Nat.zero_le _, rfl, ⟨by simp, by intro j hj; omega⟩, hown, Below.refl _ _⟩
  case round =>
    obtain ⟨k, ys, hk, rfl, hx, hown, hb⟩ := hrel
    have hfinB := hA1.trans (hb.mono (by omega))
    by_cases hlt : k < b.mats.length
    · obtain ⟨b1, o1, rfl, c, ⟨g0, g1, g2, g3, g4, g5, g6⟩, hc, hs⟩ := hl k hlt
      obtain ⟨ac, kc, rfl, -, -, -⟩ := id hc
      have hbl := cell_lt g0
      simp only at g0 g1 g2 g3 g4 g5 g6 hbl
      have hgk := hg b.mats[k] (List.getElem_mem hlt)
      have hst := Lib.hid (fun x hx' => set_upto b.mats Mat.least ys k hlt hx.out.1 hx.out.2 x hx')
      obtain ⟨hcc, hzz⟩ := bcell hfinB
      have hlr : w.heap.size + 1 < wr.heap.size := own_lt hown _ rfl
      clear hl hg hc hs
      generalize b.mats[k] = s at *
      have hAm := below_box wr (.cells #[.string s.name, .int .i64 s.price, .int .i64 s.redox, .int .i64 s.least, .int .i64 s.most, .int .i64 s.step, .slice ac s.content.length kc] 68)
      have hown1 := own_below hown hAm (fun g hg => own_lt hown g hg)
      have e1 := hown1.cellAt k (by omega)
      rw [List.getElem?_map, List.getElem?_eq_getElem (by rw [hx.out.1]; exact hlt), Option.map_some] at e1
      have e2 := hown1.frozenAt k
      have hownS := (hown.stored k (.int .i64 s.least)).1
      rw [← List.map_set] at hownS
      have hfinS := hb.setCell (p := ⟨w.heap.size + 1, k, none⟩) (by simp) (.int .i64 s.least)
      have hAn := below_box (wr.setCell ⟨w.heap.size + 1, k, none⟩ (.int .i64 s.least)) (.cells #[.string s.name, .int .i64 s.price, .int .i64 s.redox, .int .i64 s.least, .int .i64 s.most, .int .i64 s.step, .slice ac s.content.length kc] 68)
      have hown2 := own_below hownS hAn (fun g hg => own_lt hownS g hg)
      have hfin2 := hfinS.trans (hAn.mono (Nat.le_of_lt (own_lt hownS _ rfl)))
      clear hown hown1 hownS hfinS hAn hfinB hb hAm
      go_wp2
      go_roundw
      case rel => exact ⟨k + 1, ys.set k s.least, by omega, by go_num, hst.out _ rfl, hown2, hfin2⟩
      case measure => simp [intOf]; omega
    · have hfin := ext_upto (b.mats.map Mat.least) ys (by rw [hx.out.1]; simp) (fun j hj => hx.out.2 j (by simp at hj; omega))
      subst hfin
      have hRI := own_RInts (l := b.mats.map Mat.least) (by rw [List.length_map]; exact own_vis (S := (w.heap.size ≤ ·)) hown (by intro g hg; simp [Value.ownBlock] at hg; omega)) (by rw [List.length_map]; exact l1) (by intro x hx; obtain ⟨m, hm, rfl⟩ := List.mem_map.1 hx; exact hg m hm)
      have HR := Lib.hid hRI
      clear hRI hx hl hg hown hb hA1
      go_wp2
      go_ret
      exact ⟨_, rfl, HR.out, hfinB⟩

theorem own_base {w : World} {base base' : Nat} {e : TypeId} {size : Nat} {v : Value} {n : Nat} {xs : List Value} (h : w.ownsRow base e size v n xs) (hb : base' ≤ base) : w.ownsRow base' e size v n xs := by
  obtain ⟨h1, h2⟩ := h
  refine ⟨h1, ?_⟩
  rcases h2 with h2 | ⟨g, cap, cur, hv, hg, hh, r⟩
  · exact Or.inl h2
  · exact Or.inr ⟨g, cap, cur, hv, Nat.le_trans hb hg, hh, r⟩

set_option maxRecDepth 100000 in
theorem leastsRow_any (vb : Value) (b : Bat) (w : World) (h : RBat w vb b) (hn : b.mats.length ≤ 1000000) (hg : ∀ m ∈ b.mats, I64 m.least) :
    Calls Try.prog 119 #[vb] w (RetRow w (b.mats.map Mat.least)) := by
  obtain ⟨v0, v1, v2, v3, rfl, h0, h1, h2, h3, i1, i2, i3⟩ := h
  obtain ⟨a0, k0, rfl, -, ⟨-, l0⟩, -⟩ := h0
  obtain ⟨a1, k1, rfl, l1c, ⟨l1c', l1⟩, hl⟩ := id h1
  obtain ⟨a2, k2, rfl, -, ⟨-, l2⟩, -⟩ := h2
  obtain ⟨a3, k3, rfl, -, ⟨-, l3⟩, -⟩ := h3
  obtain ⟨i0, hi, hz0, hz1, hz2⟩ := info_parts info_int
  have hA0 := below_box w (.cells #[.slice a0 b.oxides.length k0, .slice a1 b.mats.length k1, .slice a2 b.shares.length k2, .slice a3 b.props.length k3, .int .i64 b.redox.lo, .int .i64 b.redox.hi, .int .i64 b.wanted] 29)
  have hB1 := Blk.new w #[.slice a0 b.oxides.length k0, .slice a1 b.mats.length k1, .slice a2 b.shares.length k2, .slice a3 b.props.length k3, .int .i64 b.redox.lo, .int .i64 b.redox.hi, .int .i64 b.wanted] 29
  go_enter Try.func119, Try.ntmps119
  go_wp2_with (at_make; refine wpList_make_full _ rfl _ _ _ rfl (w.heap.size + 1) 3 i0 (.int .i64 0) 1 Try.underlying37 hi hz0 hz1 .i64 .i64 _ _ b.mats.length rfl rfl rfl rfl ?_ ?_ ?_ ?_)
  · rw [hz2]; omega
  · unfold maxLen; omega
  · simp
  intro W1 hown hgrow
  have hA1 := hA0.grown hgrow (by simp) (by intro k hk; cases hk)
  have hC1 : Below (w.heap.size + 1) _ W1 := Below.grown (Below.refl _ _) hgrow (by simp) (by intro k hk; cases hk)
  have hB1' := hB1.below hC1 (by omega)
  have hlt1 : w.heap.size + 1 < W1.heap.size := own_lt hown _ rfl
  rw [toList_madeCells_one, show List.replicate b.mats.length (Value.int .i64 0) = (List.replicate b.mats.length (0 : Int)).map (Value.int .i64) from by simp] at hown
  have hsz0 : w.heap.size ≤ W1.heap.size := by omega
  have m1 : W1.cell? ⟨w.heap.size, 1, none⟩ = some (.slice a1 b.mats.length k1) := hB1'.cell 1 _ rfl
  clear hA0 hgrow hC1 hB1
  go_wp2
  go_loopw [13] (fun i wr => ∃ (k : Nat) (ys : List Int), k ≤ b.mats.length ∧ i = .int .i64 k ∧ Hid (ys.length = b.mats.length ∧ ∀ j, j < k → ys.getD j 0 = (b.mats.map Mat.least).getD j 0) ∧ wr.ownsRow (w.heap.size + 1) 3 1 (.slice (some ⟨w.heap.size + 1, 0, none⟩) b.mats.length b.mats.length) b.mats.length (ys.map (Value.int .i64)) ∧ Below (w.heap.size + 1) W1 wr) (fun i _ => b.mats.length - (intOf i).toNat)
  case atStart => exact ⟨0, List.replicate b.mats.length 0, Nat.zero_le _, rfl, ⟨by simp, by intro j hj; omega⟩, hown, Below.refl _ _⟩
  case round =>
    obtain ⟨k, ys, hk, rfl, hx, hown, hb⟩ := hrel
    have hfinB := hA1.trans (hb.mono (by omega))
    by_cases hlt : k < b.mats.length
    · obtain ⟨b1, o1, rfl, c, ⟨g0, g1, g2, g3, g4, g5, g6⟩, hc, hs⟩ := hl k hlt
      obtain ⟨ac, kc, rfl, -, -, -⟩ := id hc
      have hbl := cell_lt g0
      simp only at g0 g1 g2 g3 g4 g5 g6 hbl
      have hgk := hg b.mats[k] (List.getElem_mem hlt)
      have hst := Lib.hid (fun x hx' => set_upto b.mats Mat.least ys k hlt hx.out.1 hx.out.2 x hx')
      obtain ⟨hcc, hzz⟩ := bcell hfinB
      have hlr : w.heap.size + 1 < wr.heap.size := own_lt hown _ rfl
      clear hl hg hc hs
      generalize b.mats[k] = s at *
      have hAm := below_box wr (.cells #[.string s.name, .int .i64 s.price, .int .i64 s.redox, .int .i64 s.least, .int .i64 s.most, .int .i64 s.step, .slice ac s.content.length kc] 68)
      have hown1 := own_below hown hAm (fun g hg => own_lt hown g hg)
      have e1 := hown1.cellAt k (by omega)
      rw [List.getElem?_map, List.getElem?_eq_getElem (by rw [hx.out.1]; exact hlt), Option.map_some] at e1
      have e2 := hown1.frozenAt k
      have hownS := (hown.stored k (.int .i64 s.least)).1
      rw [← List.map_set] at hownS
      have hfinS := hb.setCell (p := ⟨w.heap.size + 1, k, none⟩) (by simp) (.int .i64 s.least)
      have hAn := below_box (wr.setCell ⟨w.heap.size + 1, k, none⟩ (.int .i64 s.least)) (.cells #[.string s.name, .int .i64 s.price, .int .i64 s.redox, .int .i64 s.least, .int .i64 s.most, .int .i64 s.step, .slice ac s.content.length kc] 68)
      have hown2 := own_below hownS hAn (fun g hg => own_lt hownS g hg)
      have hfin2 := hfinS.trans (hAn.mono (Nat.le_of_lt (own_lt hownS _ rfl)))
      clear hown hown1 hownS hfinS hAn hfinB hb hAm
      go_wp2
      go_roundw
      case rel => exact ⟨k + 1, ys.set k s.least, by omega, by go_num, hst.out _ rfl, hown2, hfin2⟩
      case measure => simp [intOf]; omega
    · have hfin := ext_upto (b.mats.map Mat.least) ys (by rw [hx.out.1]; simp) (fun j hj => hx.out.2 j (by simp at hj; omega))
      subst hfin
      have HR := Lib.hid (own_base hown (show w.heap.size ≤ w.heap.size + 1 by omega))
      clear hx hl hg hown hb hA1
      go_wp2
      go_ret
      exact ⟨_, rfl, by rw [List.length_map]; exact HR.out, hfinB⟩

end Go.Proofs.Ytpkggjfaefkiiaa
