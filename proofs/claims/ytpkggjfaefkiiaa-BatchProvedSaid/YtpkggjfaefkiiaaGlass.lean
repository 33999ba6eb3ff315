/- Glass, by its contract; no statement is proved here. -/
import Derived.Test.YtpkggjfaefkiiaaValue
namespace Go.Proofs.Ytpkggjfaefkiiaa
open Go.RowKit Go.PlainAid
set_option linter.unusedVariables false

theorem cont_ok {b : Bat} (h : OkB b) (k q : Nat) (hk : k < b.mats.length) (hq : q < b.oxides.length) : SpIn (cont b k q) 0 1000 := by
  have hm := h.mats _ (List.getElem_mem hk)
  unfold cont
  rw [List.getElem?_eq_getElem hk]
  have hl : q < (b.mats[k]).content.length := by rw [hm.len]; exact hq
  have := hm.spans _ (List.getElem_mem hl)
  simp only [List.getD, List.getElem?_eq_getElem hl, Option.getD_some]
  exact this

theorem prod_bd {a c : Int} (ha : 0 ≤ a ∧ a ≤ 10000) (hc : 0 ≤ c ∧ c ≤ 1000) : 0 ≤ a * c ∧ a * c ≤ 10000000 := by
  have h1 : a * c ≤ 10000 * c := Int.mul_le_mul_of_nonneg_right ha.2 hc.1
  have h2 : 0 ≤ a * c := Int.mul_nonneg ha.1 hc.1
  omega

theorem sums_ok {b : Bat} (h : OkB b) {r : List Int} (hr : ∀ x ∈ r, 0 ≤ x ∧ x ≤ 10000) (hl : r.length = b.mats.length) (q : Nat) (hq : q < b.oxides.length) :
    ∀ c, c ≤ b.mats.length → 0 ≤ loSum b r c q ∧ loSum b r c q ≤ hiSum b r c q ∧ hiSum b r c q ≤ 10000000 * c := by
  intro c
  induction c with
  | zero => intro _; simp [loSum, hiSum]
  | succ c ih =>
    intro hc
    have h1 := ih (by omega)
    have h2 := cont_ok h c q (by omega) hq
    have h3 := hr _ (List.getElem_mem (show c < r.length by omega))
    have e : r.getD c 0 = r[c]'(by omega) := by simp [List.getD, List.getElem?_eq_getElem (show c < r.length by omega)]
    have h4 := prod_bd h3 ⟨h2.lo, by have := h2.le; have := h2.hi; omega⟩
    have h5 := prod_bd h3 ⟨by have := h2.le; have := h2.lo; omega, h2.hi⟩
    have h6 : r[c]'(by omega) * (cont b c q).lo ≤ r[c]'(by omega) * (cont b c q).hi := Int.mul_le_mul_of_nonneg_left h2.le h3.1
    unfold loSum hiSum at h1 ⊢
    rw [List.range_succ, List.map_append, List.map_append, List.map_singleton, List.map_singleton, sum_snoc, sum_snoc, e]
    omega

theorem gAt_ok {b : Bat} (h : OkB b) {r : List Int} (hr : ∀ x ∈ r, 0 ≤ x ∧ x ≤ 10000) (hl : r.length = b.mats.length) (q : Nat) (hq : q < b.oxides.length) :
    gAt b r b.mats.length q = ⟨loSum b r b.mats.length q, hiSum b r b.mats.length q⟩ := by
  have h1 := sums_ok h hr hl q hq b.mats.length (Nat.le_refl _)
  have h2 := h.mt
  unfold gAt
  rw [wrap_id _ (by unfold I64; omega), wrap_id _ (by unfold I64; omega)]

theorem grams_ok {b : Bat} (h : OkB b) {r : List Int} (hr : ∀ x ∈ r, 0 ≤ x ∧ x ≤ 10000) (hl : r.length = b.mats.length) :
    ∀ s ∈ gramsB b r, 0 ≤ s.lo ∧ s.lo ≤ s.hi ∧ s.hi ≤ 120000000 := by
  intro s hs
  unfold gramsB gTo at hs
  obtain ⟨q, hq, rfl⟩ := List.mem_map.1 hs
  have hq := List.mem_range.1 hq
  rw [if_neg (by omega), gAt_ok h hr hl q hq]
  have h1 := sums_ok h hr hl q hq b.mats.length (Nat.le_refl _)
  have h2 := h.mt
  simp only
  omega

theorem sum_bd (f : Sp → Int) (m : Int) (hm : 0 ≤ m) : ∀ l : List Sp, (∀ s ∈ l, 0 ≤ f s ∧ f s ≤ m) → 0 ≤ (l.map f).sum ∧ (l.map f).sum ≤ m * l.length := by
  intro l
  induction l with
  | nil => intro _; simp
  | cons a l ih =>
    intro h
    have h1 := ih fun s hs => h s (List.mem_cons_of_mem _ hs)
    have h2 := h a List.mem_cons_self
    rw [List.map_cons, List.sum_cons, List.length_cons, Int.natCast_succ, Int.mul_add]
    omega

theorem tot_ok {b : Bat} (h : OkB b) {r : List Int} (hr : ∀ x ∈ r, 0 ≤ x ∧ x ≤ 10000) (hl : r.length = b.mats.length) :
    (tot (gramsB b r)).lo = ((gramsB b r).map Sp.lo).sum ∧ (tot (gramsB b r)).hi = ((gramsB b r).map Sp.hi).sum ∧ 0 ≤ ((gramsB b r).map Sp.lo).sum ∧ ((gramsB b r).map Sp.lo).sum ≤ 1440000000 ∧ 0 ≤ ((gramsB b r).map Sp.hi).sum ∧ ((gramsB b r).map Sp.hi).sum ≤ 1440000000 := by
  have hg := grams_ok h hr hl
  have hlen : (gramsB b r).length = b.oxides.length := gTo_len _ _ _ _
  have ho := h.ox
  have h1 := sum_bd Sp.lo 120000000 (by omega) (gramsB b r) fun s hs => by have := hg s hs; omega
  have h2 := sum_bd Sp.hi 120000000 (by omega) (gramsB b r) fun s hs => by have := hg s hs; omega
  rw [hlen] at h1 h2
  unfold tot
  simp only
  rw [wrap_id _ (by unfold I64; omega), wrap_id _ (by unfold I64; omega)]
  omega

theorem share_ok {b : Bat} (h : OkB b) {r : List Int} (hr : ∀ x ∈ r, 0 ≤ x ∧ x ≤ 10000) (hl : r.length = b.mats.length) (hp : (tot (gramsB b r)).lo ≠ 0) (i : Nat) : MeanOk (shareB b.oxides.length i) (gramsB b r) := by
  have hg := grams_ok h hr hl
  have ht := tot_ok h hr hl
  have hlen : (gramsB b r).length = b.oxides.length := gTo_len _ _ _ _
  refine ⟨by rw [hlen]; simp [shareB], by have := h.ox; simpa [shareB] using this, ?_, fun s hs => by have := hg s hs; omega, by rw [ht.1] at hp; omega⟩
  intro x hx
  rcases share_mem hx with rfl | rfl <;> omega

theorem value_I64 {c : List Int} {g : List Sp} (h : MeanOk c g) : I64 (valueB c g).lo ∧ I64 (valueB c g).hi := by
  have h1 := gm_bd h
  have h2 := gm_bd (neg_ok h)
  unfold valueB I64
  simp only
  omega

def glassTo (b : Bat) (r : List Int) (k : Nat) : List Sp := (List.range k).map fun i => valueB (shareB b.oxides.length i) (gramsB b r)
def glassB (b : Bat) (r : List Int) : List Sp × Int :=
  if bothB b r ≠ 0 then ([], bothB b r) else if (tot (gramsB b r)).lo = 0 then ([], 8) else (glassTo b r b.oxides.length, 0)

theorem glassTo_succ (b : Bat) (r : List Int) (k : Nat) : glassTo b r (k + 1) = glassTo b r k ++ [valueB (shareB b.oxides.length k) (gramsB b r)] := by
  unfold glassTo
  rw [List.range_succ, List.map_append, List.map_singleton]
theorem glassTo_len (b : Bat) (r : List Int) (k : Nat) : (glassTo b r k).length = k := by simp [glassTo]

/-- a list of spans, and an error. -/
def RetSpsE (w : World) (p : List Sp × Int) (e : Ending) (w' : World) : Prop := ∃ v, e = .returned (.tuple #[v, .int .i64 p.2]) ∧ RSps (vis (w.heap.size ≤ ·) w') v p.1 ∧ Below w.heap.size w w'

theorem RSps_nil (w : World) : RSps w (.slice none 0 0) [] := ⟨none, 0, rfl, Nat.le_refl _, ⟨by omega, by simp⟩, fun i h => by simp at h⟩

set_option maxRecDepth 100000 in
theorem glass_any (v rv : Value) (b : Bat) (r : List Int) (w : World) (h : RBat w v b) (hr : RInts w rv r) :
    Calls Try.prog 24 #[v, rv] w (RetSpsE w (glassB b r)) := by
  obtain ⟨a0, k0, a1, k1, a2, k2, a3, k3, rfl⟩ := h.agg
  obtain ⟨i0, hi, hz0, hz1, hz2⟩ := info_parts info_span
  have hA := below_box w (.cells #[.slice a0 b.oxides.length k0, .slice a1 b.mats.length k1, .slice a2 b.shares.length k2, .slice a3 b.props.length k3, .int .i64 b.redox.lo, .int .i64 b.redox.hi, .int .i64 b.wanted] 29)
  have hB := Blk.new w #[.slice a0 b.oxides.length k0, .slice a1 b.mats.length k1, .slice a2 b.shares.length k2, .slice a3 b.props.length k3, .int .i64 b.redox.lo, .int .i64 b.redox.hi, .int .i64 b.wanted] 29
  go_enter Try.func24, Try.ntmps24
  go_wp2_with fail
  generalize w.alloc (.cells #[.slice a0 b.oxides.length k0, .slice a1 b.mats.length k1, .slice a2 b.shares.length k2, .slice a3 b.props.length k3, .int .i64 b.redox.lo, .int .i64 b.redox.hi, .int .i64 b.wanted] 29) = W at *
  refine (checkBoth_any _ _ b r _ (h.mono (ext_of_below hA)) (hr.mono (ext_of_below hA))).mono ?_
  rintro e w1 ⟨rfl, hb1⟩
  have hA1 := hA.trans (hb1.mono hA.size)
  have hB1 := hB.below hb1 hB.lt
  clear hA hB hb1
  by_cases e1 : bothB b r = 0
  case neg =>
    have e1' : (bothB b r != 0) = true := by simp [e1]
    have hfin := Lib.hid (show glassB b r = ([], bothB b r) by simp [glassB, e1])
    clear hB1 e1
    go_wp2
    go_ret2
    unfold RetSpsE
    rw [hfin.out]
    exact ⟨_, rfl, RSps_nil _, hA1⟩
  have e1' : (bothB b r != 0) = false := by simp [e1]
  obtain ⟨g1, g2, g3⟩ := rec_len e1
  have hok := ok_of g1
  have f0 := hB1.cell 0 (.slice a0 b.oxides.length k0) rfl
  have f1 := hB1.cell 1 (.slice a1 b.mats.length k1) rfl
  have f2 := hB1.cell 2 (.slice a2 b.shares.length k2) rfl
  have f3 := hB1.cell 3 (.slice a3 b.props.length k3) rfl
  have f4 := hB1.cell 4 (.int .i64 b.redox.lo) rfl
  have f5 := hB1.cell 5 (.int .i64 b.redox.hi) rfl
  have f6 := hB1.cell 6 (.int .i64 b.wanted) rfl
  have E1 := Lib.hid e1
  have G2 := Lib.hid g2
  have G3 := Lib.hid g3
  have hgr := grams_any _ rv b r w1 (h.mono (ext_of_below hA1)) (hr.mono (ext_of_below hA1)) hok g2
  clear e1 g1 g2 g3 hr
  go_wp2_with fail
  refine hgr.mono ?_
  rintro e w2 ⟨vg, rfl, hvg, hb2⟩
  have hA2 := hA1.trans (hb2.mono hA1.size)
  have hB2 := hB1.below hb2 hB1.lt
  have hvg2 := hvg.mono (vis_ext _ _)
  clear hgr f0 f1 f2 f3 f4 f5 f6 hB1 hA1 hb2 hvg
  go_wp2_with fail
  refine (total_any vg (gramsB b r) w2 hvg2).mono ?_
  rintro e w3 ⟨rfl, hb3⟩
  have hA3 := hA2.trans (hb3.mono hA2.size)
  have hB3 := hB2.below hb3 hB2.lt
  have hvg3 := hvg2.mono (ext_of_below hb3)
  have hfd := fun w => field_lo (.int .i64 (tot (gramsB b r)).lo) (.int .i64 (tot (gramsB b r)).hi) w
  clear hB2 hA2 hb3 hvg2 e1'
  by_cases hz : (tot (gramsB b r)).lo = 0
  · have hfin := Lib.hid (show glassB b r = ([], 8) by simp [glassB, E1.out, hz])
    have hz' : ((tot (gramsB b r)).lo == 0) = true := by simp [hz]
    clear hz hvg3 hB3
    go_wp2
    go_ret2
    unfold RetSpsE
    rw [hfin.out]
    exact ⟨_, rfl, RSps_nil _, hA3⟩
  have hfin := Lib.hid (show glassB b r = (glassTo b r b.oxides.length, 0) by simp [glassB, E1.out, hz])
  have hz' : ((tot (gramsB b r)).lo == 0) = false := by simp [hz]
  have hMO := fun i => share_ok hok G3.out G2.out hz i
  have m0 : w3.cell? ⟨w.heap.size, 0, none⟩ = some (.slice a0 b.oxides.length k0) := hB3.cell 0 _ rfl
  have ho := hok.ox
  clear hz
  go_wp2
  clear m0 hz' hfd
  go_loopw [4, 25] (fun v i wr => ∃ (k : Nat) (l : List Sp), k ≤ b.oxides.length ∧ i = .int .i64 k ∧ Hid (l = glassTo b r k) ∧ wr.ownsRow w3.heap.size 27 2 v l.length (l.flatMap spCells) ∧ Below w3.heap.size w3 wr) (fun _ i _ => b.oxides.length - (intOf i).toNat)
  case atStart => exact ⟨0, [], Nat.zero_le _, rfl, rfl, World.ownsRow_nil _ _ _ _, Below.refl _ _⟩
  case round =>
    obtain ⟨k, l, hk, rfl, hx, hown, hb⟩ := hrel
    have hfinB := hA3.trans (hb.mono hA3.size)
    have hBr := hB3.below hb hB3.lt
    by_cases hlt : k < b.oxides.length
    · have f0 := hBr.cell 0 (.slice a0 b.oxides.length k0) rfl
      have f1 := hBr.cell 1 (.slice a1 b.mats.length k1) rfl
      have f2 := hBr.cell 2 (.slice a2 b.shares.length k2) rfl
      have f3 := hBr.cell 3 (.slice a3 b.props.length k3) rfl
      have f4 := hBr.cell 4 (.int .i64 b.redox.lo) rfl
      have f5 := hBr.cell 5 (.int .i64 b.redox.hi) rfl
      have f6 := hBr.cell 6 (.int .i64 b.wanted) rfl
      have hll : l.length ≤ 12 := by rw [hx.out, glassTo_len]; omega
      have hsn := glassTo_succ b r k
      rw [← hx.out] at hsn
      have HSN := Lib.hid hsn
      have hsc := shareCoefs_any _ b k wr (h.mono (ext_of_below hfinB)) hlt (by omega)
      have hMk := hMO k
      have hvI := value_I64 hMk
      have hvgr := hvg3.mono (ext_of_below hb)
      clear hsn hx hMO
      go_wp2_with fail
      refine hsc.mono ?_
      rintro e w4 ⟨vc, rfl, hvc, hb4⟩
      have hva := value_any vc vg (shareB b.oxides.length k) (gramsB b r) w4 (hvc.mono (vis_ext _ _)) (hvgr.mono (ext_of_below hb4)) hMk
      have hown4 := own_below hown hb4 (own_lt hown)
      have hb4' := hb.trans (hb4.mono hb.size)
      clear hsc f0 f1 f2 f3 f4 f5 f6 hown hb hb4 hvc hvgr
      go_wp2_with fail
      refine hva.mono ?_
      rintro e w5 ⟨rfl, hb5⟩
      have hown5 := (own_below hown4 hb5 (own_lt hown4)).alloc (.cells #[.int .i64 (valueB (shareB b.oxides.length k) (gramsB b r)).lo, .int .i64 (valueB (shareB b.oxides.length k) (gramsB b r)).hi] 27)
      have hb5' := (hb4'.trans (hb5.mono hb4'.size)).alloc (by have := hb4'.size; have := hb5.size; omega) (.cells #[.int .i64 (valueB (shareB b.oxides.length k) (gramsB b r)).lo, .int .i64 (valueB (shareB b.oxides.length k) (gramsB b r)).hi] 27)
      have hs5 : w3.heap.size ≤ w5.heap.size := by have := hb4'.size; have := hb5.size; omega
      clear hva hown4 hb5 hb4' hBr hfinB
      generalize valueB (shareB b.oxides.length k) (gramsB b r) = s at *
      go_wp2_with (at_builtin; refine wpList_append_own _ rfl _ _ 24 rfl w3.heap.size 27 i0 (.agg #[.int .i64 0, .int .i64 0]) 2 16 Try.underlying24 hi hz0 hz1 hz2 rfl (by decide) _ l.length _ rfl hown5 ⟨w5.heap.size, 0, none⟩ 1 1 (spCells s) rfl rfl (World.news_of_block (cs := #[.int .i64 s.lo, .int .i64 s.hi]) (heap_alloc_new w5 _)) (by simp [spCells, Value.oneCell']) (by unfold maxLen; omega) (by omega) (by simp; omega) ?_; intro v6 w6 hown6 hgrow6 _)
      have hB6 := hb5'.grown hgrow6 (by simp; omega) (fun q hq => (hown5.lt q hq).1)
      have hownF : w6.ownsRow w3.heap.size 27 2 v6 (l ++ [s]).length ((l ++ [s]).flatMap spCells) := by
        rw [List.flatMap_append, List.flatMap_singleton, List.length_append]; exact hown6
      clear hown6 hown5 hgrow6 hb5'
      go_roundw
      case rel => exact ⟨k + 1, l ++ [s], by omega, by go_num, HSN.out.symm, hownF, hB6⟩
      case measure => simp [intOf]; omega
    · have hl : l = glassTo b r b.oxides.length := by rw [hx.out, show k = b.oxides.length from by omega]
      subst hl
      have hs3 := hA3.size
      have hRI := own_RSps (own_vis (S := (w.heap.size ≤ ·)) hown (fun g hg => by have := (hown.lt g hg).1; omega)) (by rw [glassTo_len]; omega) (by intro x hx; obtain ⟨i, _, rfl⟩ := List.mem_map.1 hx; exact value_I64 (hMO i))
      clear hx hown hMO
      go_wp2
      go_ret2
      unfold RetSpsE
      rw [hfin.out]
      exact ⟨_, rfl, hRI, hfinB⟩

end Go.Proofs.Ytpkggjfaefkiiaa
