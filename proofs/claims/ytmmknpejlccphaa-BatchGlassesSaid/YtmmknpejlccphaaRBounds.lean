/- The specification's own bounds of a mean: they are counted up by ones; no statement is proved here. -/
import Derived.Test.YtmmknpejlccphaaBrings
import Derived.Test.YtmmknpejlccphaaRRec
namespace Go.Proofs.Ytmmknpejlccphaa
open Go.RowKit Go.PlainAid
set_option linter.unusedVariables false

def gramsE (b : Bat) (r : List Int) : List Sp × Int := if bothB b r = 0 then (gramsB b r, 0) else ([], bothB b r)
def wE (b : Bat) (r : List Int) : List Sp × Int := if (tot (gramsB b r)).lo = 0 then ([], 8) else (gramsB b r, 0)

set_option maxRecDepth 100000 in
theorem bgrams_any (v rv : Value) (b : Bat) (r : List Int) (w : World) (h : RBat w v b) (hr : RInts w rv r) :
    Calls Try.prog 21 #[v, rv] w (RetSpsE w (gramsE b r)) := by
  obtain ⟨a0, k0, a1, k1, a2, k2, a3, k3, rfl⟩ := h.agg
  obtain ⟨ar, kr, rfl, -, -, -⟩ := id hr
  have hA := below_box w (.cells #[.slice a0 b.oxides.length k0, .slice a1 b.mats.length k1, .slice a2 b.shares.length k2, .slice a3 b.props.length k3, .int .i64 b.redox.lo, .int .i64 b.redox.hi, .int .i64 b.wanted] 29)
  have hB := Blk.new w #[.slice a0 b.oxides.length k0, .slice a1 b.mats.length k1, .slice a2 b.shares.length k2, .slice a3 b.props.length k3, .int .i64 b.redox.lo, .int .i64 b.redox.hi, .int .i64 b.wanted] 29
  go_enter Try.func21, Try.ntmps21
  go_wp2_with fail
  generalize w.alloc (.cells #[.slice a0 b.oxides.length k0, .slice a1 b.mats.length k1, .slice a2 b.shares.length k2, .slice a3 b.props.length k3, .int .i64 b.redox.lo, .int .i64 b.redox.hi, .int .i64 b.wanted] 29) = W at *
  refine (checkBoth_any _ _ b r _ (h.mono (ext_of_below hA)) (hr.mono (ext_of_below hA))).mono ?_
  rintro e w1 ⟨rfl, hb⟩
  have hA1 := hA.trans (hb.mono hA.size)
  have hB1 := hB.below hb hB.lt
  clear hb hA hB
  by_cases e1 : bothB b r = 0
  case neg =>
    have e1' : (bothB b r != 0) = true := by simp [e1]
    have hfin := Lib.hid (show gramsE b r = ([], bothB b r) by simp [gramsE, e1])
    clear hB1 e1
    go_wp2
    go_ret2
    unfold RetSpsE
    rw [hfin.out]
    exact ⟨_, rfl, RSps_nil _, hA1⟩
  have e1' : (bothB b r != 0) = false := by simp [e1]
  obtain ⟨g1, g2, g3⟩ := rec_len e1
  have hfin := Lib.hid (show gramsE b r = (gramsB b r, 0) by simp [gramsE, e1])
  have hgr := grams_any _ _ b r w1 (h.mono (ext_of_below hA1)) (hr.mono (ext_of_below hA1)) (ok_of g1) g2
  have f0 := hB1.cell 0 (.slice a0 b.oxides.length k0) rfl
  have f1 := hB1.cell 1 (.slice a1 b.mats.length k1) rfl
  have f2 := hB1.cell 2 (.slice a2 b.shares.length k2) rfl
  have f3 := hB1.cell 3 (.slice a3 b.props.length k3) rfl
  have f4 := hB1.cell 4 (.int .i64 b.redox.lo) rfl
  have f5 := hB1.cell 5 (.int .i64 b.redox.hi) rfl
  have f6 := hB1.cell 6 (.int .i64 b.wanted) rfl
  clear e1 g1 g2 g3
  go_wp2_with fail
  refine hgr.mono ?_
  rintro e w2 ⟨vg, rfl, hvg, hb2⟩
  have hA2 := hA1.trans (hb2.mono hA1.size)
  have hs : RSps (vis (w.heap.size ≤ ·) w2) vg (gramsB b r) := hvg.mono (ext_vis_of (fun _ _ h => h) fun g _ hg => Nat.le_trans hA1.size hg)
  clear hgr hvg f0 f1 f2 f3 f4 f5 f6 hB1
  go_wp2
  go_ret2
  unfold RetSpsE
  rw [hfin.out]
  exact ⟨_, rfl, hs, hA2⟩

set_option maxRecDepth 100000 in
theorem rgrams_any (v rv : Value) (b : Bat) (r : List Int) (w : World) (h : RBat w v b) (hr : RInts w rv r) :
    Calls Try.prog 22 #[v, rv] w (RetSpsE w (gramsE b r)) := by
  obtain ⟨a0, k0, a1, k1, a2, k2, a3, k3, rfl⟩ := h.agg
  obtain ⟨ar, kr, rfl, -, -, -⟩ := id hr
  have hA := below_box w (.cells #[.slice a0 b.oxides.length k0, .slice a1 b.mats.length k1, .slice a2 b.shares.length k2, .slice a3 b.props.length k3, .int .i64 b.redox.lo, .int .i64 b.redox.hi, .int .i64 b.wanted] 29)
  have hB := Blk.new w #[.slice a0 b.oxides.length k0, .slice a1 b.mats.length k1, .slice a2 b.shares.length k2, .slice a3 b.props.length k3, .int .i64 b.redox.lo, .int .i64 b.redox.hi, .int .i64 b.wanted] 29
  go_enter Try.func22, Try.ntmps22
  go_wp2_with fail
  generalize w.alloc (.cells #[.slice a0 b.oxides.length k0, .slice a1 b.mats.length k1, .slice a2 b.shares.length k2, .slice a3 b.props.length k3, .int .i64 b.redox.lo, .int .i64 b.redox.hi, .int .i64 b.wanted] 29) = W at *
  refine (rasked_any _ _ b r _ (h.mono (ext_of_below hA)) (hr.mono (ext_of_below hA))).mono ?_
  rintro e w1 ⟨rfl, hb⟩
  have hA1 := hA.trans (hb.mono hA.size)
  have hB1 := hB.below hb hB.lt
  clear hb hA hB
  by_cases e1 : bothB b r = 0
  case neg =>
    have e1' : (bothB b r != 0) = true := by simp [e1]
    have hfin := Lib.hid (show gramsE b r = ([], bothB b r) by simp [gramsE, e1])
    clear hB1 e1
    go_wp2
    go_ret2
    unfold RetSpsE
    rw [hfin.out]
    exact ⟨_, rfl, RSps_nil _, hA1⟩
  have e1' : (bothB b r != 0) = false := by simp [e1]
  obtain ⟨g1, g2, g3⟩ := rec_len e1
  have hfin := Lib.hid (show gramsE b r = (gramsB b r, 0) by simp [gramsE, e1])
  have hgr := brings_any _ _ b r w1 (h.mono (ext_of_below hA1)) (hr.mono (ext_of_below hA1)) (ok_of g1) g2
  have f0 := hB1.cell 0 (.slice a0 b.oxides.length k0) rfl
  have f1 := hB1.cell 1 (.slice a1 b.mats.length k1) rfl
  have f2 := hB1.cell 2 (.slice a2 b.shares.length k2) rfl
  have f3 := hB1.cell 3 (.slice a3 b.props.length k3) rfl
  have f4 := hB1.cell 4 (.int .i64 b.redox.lo) rfl
  have f5 := hB1.cell 5 (.int .i64 b.redox.hi) rfl
  have f6 := hB1.cell 6 (.int .i64 b.wanted) rfl
  clear e1 g1 g2 g3
  go_wp2_with fail
  refine hgr.mono ?_
  rintro e w2 ⟨vg, rfl, hvg, hb2⟩
  have hA2 := hA1.trans (hb2.mono hA1.size)
  have hs : RSps (vis (w.heap.size ≤ ·) w2) vg (gramsB b r) := hvg.mono (ext_vis_of (fun _ _ h => h) fun g _ hg => Nat.le_trans hA1.size hg)
  clear hgr hvg f0 f1 f2 f3 f4 f5 f6 hB1
  go_wp2
  go_ret2
  unfold RetSpsE
  rw [hfin.out]
  exact ⟨_, rfl, hs, hA2⟩

set_option maxRecDepth 100000 in
theorem weighed_any (v rv : Value) (b : Bat) (r : List Int) (w : World) (h : RBat w v b) (hr : RInts w rv r) (hk : OkB b) (hl : r.length = b.mats.length) :
    Calls Try.prog 67 #[v, rv] w (RetSpsE w (wE b r)) := by
  obtain ⟨a0, k0, a1, k1, a2, k2, a3, k3, rfl⟩ := h.agg
  obtain ⟨ar, kr, rfl, -, -, -⟩ := id hr
  have hA := below_box w (.cells #[.slice a0 b.oxides.length k0, .slice a1 b.mats.length k1, .slice a2 b.shares.length k2, .slice a3 b.props.length k3, .int .i64 b.redox.lo, .int .i64 b.redox.hi, .int .i64 b.wanted] 29)
  have hB := Blk.new w #[.slice a0 b.oxides.length k0, .slice a1 b.mats.length k1, .slice a2 b.shares.length k2, .slice a3 b.props.length k3, .int .i64 b.redox.lo, .int .i64 b.redox.hi, .int .i64 b.wanted] 29
  have hgr := fun w' (e : Ext w w') => brings_any _ _ b r w' (h.mono e) (hr.mono e) hk hl
  clear hl
  go_enter Try.func67, Try.ntmps67
  go_wp2_with fail
  generalize w.alloc (.cells #[.slice a0 b.oxides.length k0, .slice a1 b.mats.length k1, .slice a2 b.shares.length k2, .slice a3 b.props.length k3, .int .i64 b.redox.lo, .int .i64 b.redox.hi, .int .i64 b.wanted] 29) = W at *
  refine (hgr _ (ext_of_below hA)).mono ?_
  rintro e w1 ⟨vg, rfl, hvg, hb⟩
  have hA1 := hA.trans (hb.mono hA.size)
  have hv1 := hvg.mono (vis_ext _ _)
  have hs : RSps (vis (w.heap.size ≤ ·) w1) vg (gramsB b r) := hvg.mono (ext_vis_of (fun _ _ h => h) fun g _ hg => Nat.le_trans hA.size hg)
  clear hgr hvg hB hA hb
  go_wp2_with fail
  refine (rsums_any vg _ w1 hv1).mono ?_
  rintro e w2 ⟨rfl, rfl⟩
  by_cases hz : (tot (gramsB b r)).lo = 0
  · have hfin := Lib.hid (show wE b r = ([], 8) by simp [wE, hz])
    have hz' : ((tot (gramsB b r)).lo == 0) = true := by simp [hz]
    clear hz
    go_wp2
    go_ret2
    unfold RetSpsE
    rw [hfin.out]
    exact ⟨_, rfl, RSps_nil _, hA1⟩
  · have hfin := Lib.hid (show wE b r = (gramsB b r, 0) by simp [wE, hz])
    have hz' : ((tot (gramsB b r)).lo == 0) = false := by simp [hz]
    clear hz
    go_wp2
    go_ret2
    unfold RetSpsE
    rw [hfin.out]
    exact ⟨_, rfl, hs, hA1⟩

theorem abE_iff {c : List Int} {g : List Sp} (h : MeanOk c g) (n : Int) : abE c g n g.length ≤ 0 ↔ (valueB c g).hi ≤ n := by
  show _ ↔ gmB c g ≤ n
  rw [gm_iff h, fE_sumO, h.len]
  exact Iff.rfl

theorem beE_iff {c : List Int} {g : List Sp} (h : MeanOk c g) (n : Int) : beE c g n g.length ≤ 0 ↔ n ≤ (valueB c g).lo := by
  show _ ↔ n ≤ -(gmB (negB c) g)
  have h1 := gm_iff (neg_ok h) (-n)
  rw [fE_sumO] at h1
  have hl : (negB c).length = c.length := by simp [negB]
  rw [hl, sumO_congr (p := fun i => n - c.getD i 0) (fun i hi => by rw [neg_at c i hi]; omega), h.len] at h1
  show sumO _ _ _ ≤ 0 ↔ _
  rw [← h1]
  omega

theorem fE_least {c : List Int} {g : List Sp} (h : MeanOk c g) : ∀ k, k ≤ c.length → ((g.take k).map Sp.lo).sum ≤ fE c (-10001) g k := by
  intro k
  induction k with
  | zero => intro _; simp [fE]
  | succ k ih =>
    intro hk
    have h1 := ih (by omega)
    have hkg : k < g.length := by have := h.len; omega
    have h2 := g_at h.hg k hkg
    have h3 := h.hc _ (getD_mem (d := 0) (show k < c.length by omega))
    rw [fE_succ, List.take_succ_eq_append_getElem hkg, List.map_append, List.map_singleton, sum_snoc, grE_pos (by omega) h2.2]
    have e : g[k] = g.getD k ⟨0, 0⟩ := by simp [List.getD, List.getElem?_eq_getElem hkg]
    rw [e]
    have h4 : (g.getD k ⟨0, 0⟩).hi ≤ (c.getD k 0 - -10001) * (g.getD k ⟨0, 0⟩).hi := by
      have := Int.mul_le_mul_of_nonneg_right (show (1 : Int) ≤ c.getD k 0 - -10001 by omega) (show 0 ≤ (g.getD k ⟨0, 0⟩).hi by omega)
      omega
    omega

theorem gm_in {c : List Int} {g : List Sp} (h : MeanOk c g) : -10000 ≤ gmB c g ∧ gmB c g ≤ 10000 := by
  constructor
  · have h1 := gm_iff h (-10001)
    have h2 := fE_least h c.length (Nat.le_refl _)
    rw [h.len, List.take_of_length_le (Nat.le_refl _), ← h.len] at h2
    have h3 := h.pos
    omega
  · exact (gm_iff h 10000).2 (below_all h.hg h.len 10000 (fun x hx => (h.hc x hx).2) _ (Nat.le_refl _))

theorem value_in {c : List Int} {g : List Sp} (h : MeanOk c g) : -10000 ≤ (valueB c g).lo ∧ (valueB c g).lo ≤ 10000 ∧ -10000 ≤ (valueB c g).hi ∧ (valueB c g).hi ≤ 10000 := by
  have h1 := gm_in h
  have h2 := gm_in (neg_ok h)
  simp only [valueB]
  omega

theorem abOk_of {c : List Int} {g : List Sp} (h : MeanOk c g) {n : Int} (hn : -10000 ≤ n ∧ n ≤ 10000) : AbOk c g n :=
  ⟨by rw [h.len]; exact Nat.le_refl _, by rw [← h.len]; exact h.n.2, h.hc, hn, fun s hs => by have := h.hg s hs; omega⟩

theorem ret_sp {s : Sp} {a b : Int} (h : s = ⟨a, b⟩) : Ending.returned (.agg #[.int .i64 a, .int .i64 b]) = .returned (.agg #[.int .i64 s.lo, .int .i64 s.hi]) := by rw [h]

set_option maxRecDepth 100000 in
theorem bounds_any (vc vg : Value) (c : List Int) (g : List Sp) (w : World) (hc : RInts w vc c) (hg : RSps w vg g) (hk : MeanOk c g) :
    Calls Try.prog 69 #[vc, vg] w (RetSp w (valueB c g)) := by
  obtain ⟨ac, kc, rfl, -, -, -⟩ := id hc
  obtain ⟨ag, kg, rfl, -, -, -⟩ := id hg
  have hA := below_two w (.cells #[.int .i64 0, .int .i64 0] 27) (.cells #[.int .i64 (-10000), .int .i64 10000] 27)
  have hB0 := (Blk.new w #[.int .i64 0, .int .i64 0] 27).alloc (.cells #[.int .i64 (-10000), .int .i64 10000] 27)
  have hC : Blk ((w.alloc (.cells #[.int .i64 0, .int .i64 0] 27)).alloc (.cells #[.int .i64 (-10000), .int .i64 10000] 27)) (w.heap.size + 1) #[.int .i64 (-10000), .int .i64 10000] 27 := by
    have := Blk.new (w.alloc (.cells #[.int .i64 0, .int .i64 0] 27)) #[.int .i64 (-10000), .int .i64 10000] 27
    simpa using this
  have hin := value_in hk
  go_enter Try.func69, Try.ntmps69
  go_wp2
  generalize (w.alloc (.cells #[.int .i64 0, .int .i64 0] 27)).alloc (.cells #[.int .i64 (-10000), .int .i64 10000] 27) = W at *
  go_loopw [9] (fun _ wr => ∃ n : Int, -10000 ≤ n ∧ n ≤ (valueB c g).lo ∧ Blk wr (w.heap.size + 1) #[.int .i64 n, .int .i64 10000] 27 ∧ Blk wr w.heap.size #[.int .i64 0, .int .i64 0] 27 ∧ Below w.heap.size w wr) (fun _ wr => (10000 - intOf ((wr.cell? ⟨w.heap.size + 1, 0, none⟩).getD (.int .i64 0))).toNat)
  case atStart => exact ⟨-10000, Int.le_refl _, hin.1, hC, hB0, hA⟩
  case round =>
    obtain ⟨n, hn1, hn2, hC, hB0, hb⟩ := hrel
    have z0 : wr.cell? ⟨w.heap.size + 1, 0, none⟩ = some (.int .i64 n) := hC.cell 0 _ rfl
    have z1 : wr.cell? ⟨w.heap.size + 1, 1, none⟩ = some (.int .i64 10000) := hC.cell 1 _ rfl
    by_cases hlt : n < (valueB c g).lo
    · have j1 : n < 10000 := by omega
      have hbe := below_any _ _ c g (n + 1) wr (hc.mono (ext_of_below hb)) (hg.mono (ext_of_below hb)) (abOk_of hk (by omega))
      have hle : beE c g (n + 1) g.length ≤ 0 := (beE_iff hk _).2 (by omega)
      generalize beE c g (n + 1) g.length = x at *
      have ZO := Lib.hid z0
      go_wp2_with fail
      refine hbe.mono ?_
      rintro e w1 ⟨rfl, hb1⟩
      replace hC := hC.below hb1 hC.lt
      replace hB0 := hB0.below hb1 hB0.lt
      replace hb := hb.trans (hb1.mono hb.size)
      clear hbe hb1 z0 z1
      have z0 : w1.cell? ⟨w.heap.size + 1, 0, none⟩ = some (.int .i64 n) := hC.cell 0 _ rfl
      have y0 := hC.frozen 0
      have hCn := hC.set 0 (.int .i64 (n + 1))
      have hBn := hB0.other ⟨w.heap.size + 1, 0, none⟩ (.int .i64 (n + 1)) (by simp)
      have hbn := hb.setCell (p := ⟨w.heap.size + 1, 0, none⟩) (by simp) (.int .i64 (n + 1))
      have zn := hCn.cell 0 (.int .i64 (n + 1)) rfl
      go_wp2
      go_roundw
      case rel => exact ⟨n + 1, by omega, by omega, hCn, hBn, hbn⟩
      case measure => rw [zn, ZO.out]; simp [intOf]; omega
    · have hn : (valueB c g).lo = n := by omega
      by_cases j1 : n < 10000
      · have hle : ¬ beE c g (n + 1) g.length ≤ 0 := fun h => by have := (beE_iff hk _).1 h; omega
        have hbe := below_any _ _ c g (n + 1) wr (hc.mono (ext_of_below hb)) (hg.mono (ext_of_below hb)) (abOk_of hk (by omega))
        generalize beE c g (n + 1) g.length = x at *
        clear hlt hn1 hn2
        go_wp2_with fail
        refine hbe.mono ?_
        rintro e w1 ⟨rfl, hb1⟩
        replace hC := hC.below hb1 hC.lt
        replace hB0 := hB0.below hb1 hB0.lt
        replace hb := hb.trans (hb1.mono hb.size)
        clear hbe hb1 z0 z1
        go_wp2
        clear hle j1
        go_loopw [25] (fun _ wr => ∃ m : Int, (valueB c g).hi ≤ m ∧ m ≤ 10000 ∧ Blk wr (w.heap.size + 1) #[.int .i64 n, .int .i64 m] 27 ∧ Blk wr w.heap.size #[.int .i64 0, .int .i64 0] 27 ∧ Below w.heap.size w wr) (fun _ wr => (intOf ((wr.cell? ⟨w.heap.size + 1, 1, none⟩).getD (.int .i64 0)) + 10000).toNat)
        case atStart => exact ⟨10000, hin.2.2.2, Int.le_refl _, hC, hB0, hb⟩
        case round =>
          clear hC hB0 hb
          obtain ⟨m, hm1, hm2, hC, hB0, hb⟩ := hrel
          have z0 : wr.cell? ⟨w.heap.size + 1, 0, none⟩ = some (.int .i64 n) := hC.cell 0 _ rfl
          have z1 : wr.cell? ⟨w.heap.size + 1, 1, none⟩ = some (.int .i64 m) := hC.cell 1 _ rfl
          by_cases hlt : (valueB c g).hi < m
          · have j1 : -10000 < m := by omega
            have hbe := above_any _ _ c g (m - 1) wr (hc.mono (ext_of_below hb)) (hg.mono (ext_of_below hb)) (abOk_of hk (by omega))
            have hle : abE c g (m - 1) g.length ≤ 0 := (abE_iff hk _).2 (by omega)
            generalize abE c g (m - 1) g.length = x at *
            have ZO := Lib.hid z1
            go_wp2_with fail
            refine hbe.mono ?_
            rintro e w1 ⟨rfl, hb1⟩
            replace hC := hC.below hb1 hC.lt
            replace hB0 := hB0.below hb1 hB0.lt
            replace hb := hb.trans (hb1.mono hb.size)
            clear hbe hb1 z0 z1
            have z1 : w1.cell? ⟨w.heap.size + 1, 1, none⟩ = some (.int .i64 m) := hC.cell 1 _ rfl
            have y1 := hC.frozen 1
            have hCn := hC.set 1 (.int .i64 (m - 1))
            have hBn := hB0.other ⟨w.heap.size + 1, 1, none⟩ (.int .i64 (m - 1)) (by simp)
            have hbn := hb.setCell (p := ⟨w.heap.size + 1, 1, none⟩) (by simp) (.int .i64 (m - 1))
            have zn := hCn.cell 1 (.int .i64 (m - 1)) rfl
            go_wp2
            go_roundw
            case rel => exact ⟨m - 1, by omega, by omega, hCn, hBn, hbn⟩
            case measure => rw [zn, ZO.out]; simp [intOf]; omega
          · have hm : m = (valueB c g).hi := by omega
            have heq := Lib.hid (show valueB c g = ⟨n, m⟩ by subst hm; subst hn; rfl)
            by_cases j1 : -10000 < m
            · have hle : ¬ abE c g (m - 1) g.length ≤ 0 := fun h => by have := (abE_iff hk _).1 h; omega
              have hbe := above_any _ _ c g (m - 1) wr (hc.mono (ext_of_below hb)) (hg.mono (ext_of_below hb)) (abOk_of hk (by omega))
              generalize abE c g (m - 1) g.length = x at *
              clear hm hlt hm1 hn hin
              go_wp2_with fail
              refine hbe.mono ?_
              rintro e w1 ⟨rfl, hb1⟩
              replace hC := hC.below hb1 hC.lt
              replace hB0 := hB0.below hb1 hB0.lt
              replace hb := hb.trans (hb1.mono hb.size)
              clear hbe hb1 z0 z1
              have z0 : w1.cell? ⟨w.heap.size + 1, 0, none⟩ = some (.int .i64 n) := hC.cell 0 _ rfl
              have z1 : w1.cell? ⟨w.heap.size + 1, 1, none⟩ = some (.int .i64 m) := hC.cell 1 _ rfl
              have y0 : w1.cell? ⟨w.heap.size, 0, none⟩ = some (.int .i64 0) := hB0.cell 0 _ rfl
              have y1 : w1.cell? ⟨w.heap.size, 1, none⟩ = some (.int .i64 0) := hB0.cell 1 _ rfl
              have f0 := hB0.frozen 0
              have f1 := hB0.frozen 1
              clear hc hg
              go_wp2
              have B3 := (hB0.set 0 (.int .i64 n)).set 1 (.int .i64 m)
              have d0 := B3.cell 0 (.int .i64 n) rfl
              have d1 := B3.cell 1 (.int .i64 m) rfl
              exact bodyPost_ret (v := .agg #[.int .i64 n, .int .i64 m]) (by simp only [results, Try.results69]; simp [go_sem, d0, d1]) rfl ⟨ret_sp heq.out, (hb.setCell (p := ⟨w.heap.size, 0, none⟩) (by simp) _).setCell (p := ⟨w.heap.size, 1, none⟩) (by simp) _⟩
            · clear hm hlt hm1 hn hin z0 z1
              have z0 : wr.cell? ⟨w.heap.size + 1, 0, none⟩ = some (.int .i64 n) := hC.cell 0 _ rfl
              have z1 : wr.cell? ⟨w.heap.size + 1, 1, none⟩ = some (.int .i64 m) := hC.cell 1 _ rfl
              have y0 : wr.cell? ⟨w.heap.size, 0, none⟩ = some (.int .i64 0) := hB0.cell 0 _ rfl
              have y1 : wr.cell? ⟨w.heap.size, 1, none⟩ = some (.int .i64 0) := hB0.cell 1 _ rfl
              have f0 := hB0.frozen 0
              have f1 := hB0.frozen 1
              clear hc hg
              go_wp2
              have B3 := (hB0.set 0 (.int .i64 n)).set 1 (.int .i64 m)
              have d0 := B3.cell 0 (.int .i64 n) rfl
              have d1 := B3.cell 1 (.int .i64 m) rfl
              exact bodyPost_ret (v := .agg #[.int .i64 n, .int .i64 m]) (by simp only [results, Try.results69]; simp [go_sem, d0, d1]) rfl ⟨ret_sp heq.out, (hb.setCell (p := ⟨w.heap.size, 0, none⟩) (by simp) _).setCell (p := ⟨w.heap.size, 1, none⟩) (by simp) _⟩
      · clear hlt hn1 hn2 z1
        go_wp2
        go_loopw [25] (fun _ wr => ∃ m : Int, (valueB c g).hi ≤ m ∧ m ≤ 10000 ∧ Blk wr (w.heap.size + 1) #[.int .i64 n, .int .i64 m] 27 ∧ Blk wr w.heap.size #[.int .i64 0, .int .i64 0] 27 ∧ Below w.heap.size w wr) (fun _ wr => (intOf ((wr.cell? ⟨w.heap.size + 1, 1, none⟩).getD (.int .i64 0)) + 10000).toNat)
        case atStart => exact ⟨10000, hin.2.2.2, Int.le_refl _, hC, hB0, hb⟩
        case round =>
          clear hC hB0 hb
          obtain ⟨m, hm1, hm2, hC, hB0, hb⟩ := hrel
          have z0 : wr.cell? ⟨w.heap.size + 1, 0, none⟩ = some (.int .i64 n) := hC.cell 0 _ rfl
          have z1 : wr.cell? ⟨w.heap.size + 1, 1, none⟩ = some (.int .i64 m) := hC.cell 1 _ rfl
          by_cases hlt : (valueB c g).hi < m
          · have j1 : -10000 < m := by omega
            have hbe := above_any _ _ c g (m - 1) wr (hc.mono (ext_of_below hb)) (hg.mono (ext_of_below hb)) (abOk_of hk (by omega))
            have hle : abE c g (m - 1) g.length ≤ 0 := (abE_iff hk _).2 (by omega)
            generalize abE c g (m - 1) g.length = x at *
            have ZO := Lib.hid z1
            go_wp2_with fail
            refine hbe.mono ?_
            rintro e w1 ⟨rfl, hb1⟩
            replace hC := hC.below hb1 hC.lt
            replace hB0 := hB0.below hb1 hB0.lt
            replace hb := hb.trans (hb1.mono hb.size)
            clear hbe hb1 z0 z1
            have z1 : w1.cell? ⟨w.heap.size + 1, 1, none⟩ = some (.int .i64 m) := hC.cell 1 _ rfl
            have y1 := hC.frozen 1
            have hCn := hC.set 1 (.int .i64 (m - 1))
            have hBn := hB0.other ⟨w.heap.size + 1, 1, none⟩ (.int .i64 (m - 1)) (by simp)
            have hbn := hb.setCell (p := ⟨w.heap.size + 1, 1, none⟩) (by simp) (.int .i64 (m - 1))
            have zn := hCn.cell 1 (.int .i64 (m - 1)) rfl
            go_wp2
            go_roundw
            case rel => exact ⟨m - 1, by omega, by omega, hCn, hBn, hbn⟩
            case measure => rw [zn, ZO.out]; simp [intOf]; omega
          · have hm : m = (valueB c g).hi := by omega
            have heq := Lib.hid (show valueB c g = ⟨n, m⟩ by subst hm; subst hn; rfl)
            by_cases j1 : -10000 < m
            · have hle : ¬ abE c g (m - 1) g.length ≤ 0 := fun h => by have := (abE_iff hk _).1 h; omega
              have hbe := above_any _ _ c g (m - 1) wr (hc.mono (ext_of_below hb)) (hg.mono (ext_of_below hb)) (abOk_of hk (by omega))
              generalize abE c g (m - 1) g.length = x at *
              clear hm hlt hm1 hn hin
              go_wp2_with fail
              refine hbe.mono ?_
              rintro e w1 ⟨rfl, hb1⟩
              replace hC := hC.below hb1 hC.lt
              replace hB0 := hB0.below hb1 hB0.lt
              replace hb := hb.trans (hb1.mono hb.size)
              clear hbe hb1 z0 z1
              have z0 : w1.cell? ⟨w.heap.size + 1, 0, none⟩ = some (.int .i64 n) := hC.cell 0 _ rfl
              have z1 : w1.cell? ⟨w.heap.size + 1, 1, none⟩ = some (.int .i64 m) := hC.cell 1 _ rfl
              have y0 : w1.cell? ⟨w.heap.size, 0, none⟩ = some (.int .i64 0) := hB0.cell 0 _ rfl
              have y1 : w1.cell? ⟨w.heap.size, 1, none⟩ = some (.int .i64 0) := hB0.cell 1 _ rfl
              have f0 := hB0.frozen 0
              have f1 := hB0.frozen 1
              clear hc hg
              go_wp2
              have B3 := (hB0.set 0 (.int .i64 n)).set 1 (.int .i64 m)
              have d0 := B3.cell 0 (.int .i64 n) rfl
              have d1 := B3.cell 1 (.int .i64 m) rfl
              exact bodyPost_ret (v := .agg #[.int .i64 n, .int .i64 m]) (by simp only [results, Try.results69]; simp [go_sem, d0, d1]) rfl ⟨ret_sp heq.out, (hb.setCell (p := ⟨w.heap.size, 0, none⟩) (by simp) _).setCell (p := ⟨w.heap.size, 1, none⟩) (by simp) _⟩
            · clear hm hlt hm1 hn hin z0 z1
              have z0 : wr.cell? ⟨w.heap.size + 1, 0, none⟩ = some (.int .i64 n) := hC.cell 0 _ rfl
              have z1 : wr.cell? ⟨w.heap.size + 1, 1, none⟩ = some (.int .i64 m) := hC.cell 1 _ rfl
              have y0 : wr.cell? ⟨w.heap.size, 0, none⟩ = some (.int .i64 0) := hB0.cell 0 _ rfl
              have y1 : wr.cell? ⟨w.heap.size, 1, none⟩ = some (.int .i64 0) := hB0.cell 1 _ rfl
              have f0 := hB0.frozen 0
              have f1 := hB0.frozen 1
              clear hc hg
              go_wp2
              have B3 := (hB0.set 0 (.int .i64 n)).set 1 (.int .i64 m)
              have d0 := B3.cell 0 (.int .i64 n) rfl
              have d1 := B3.cell 1 (.int .i64 m) rfl
              exact bodyPost_ret (v := .agg #[.int .i64 n, .int .i64 m]) (by simp only [results, Try.results69]; simp [go_sem, d0, d1]) rfl ⟨ret_sp heq.out, (hb.setCell (p := ⟨w.heap.size, 0, none⟩) (by simp) _).setCell (p := ⟨w.heap.size, 1, none⟩) (by simp) _⟩

end Go.Proofs.Ytmmknpejlccphaa
