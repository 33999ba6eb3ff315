/- What the law on contents asks, as facts on numbers; no statement is proved here. -/
import Derived.Test.YtnnkcbeadiembaaRealG
import Derived.Test.YtnnkcbeadiembaaLess
namespace Go.Proofs.Ytnnkcbeadiembaa
open Go.RowKit Go.PlainAid
set_option linter.unusedVariables false

theorem gm_top {c : List Int} {G : List Sp} (h : MeanOk c G) : gmB c G ≤ 10000 := by
  rw [gm_iff h]
  exact below_all h.hg h.len 10000 (fun x hx => (h.hc x hx).2) _ (Nat.le_refl _)

theorem mulw {a w : Int} (ha : -10000 ≤ a ∧ a ≤ 10000) (hw : 0 ≤ w ∧ w ≤ 144000000000) : -1440000000000000 ≤ a * w ∧ a * w ≤ 1440000000000000 := by
  have h1 : a * w ≤ 10000 * w := Int.mul_le_mul_of_nonneg_right ha.2 hw.1
  have h2 : -10000 * w ≤ a * w := Int.mul_le_mul_of_nonneg_right ha.1 hw.1
  omega

structure Rng (s : Sp) (w d : Int) : Prop where
  lo : s.lo * w ≤ d
  hi : d ≤ s.hi * w
  l1 : -1440000000000000 ≤ s.lo * w
  l2 : s.lo * w ≤ 1440000000000000
  h1 : -1440000000000000 ≤ s.hi * w
  h2 : s.hi * w ≤ 1440000000000000

theorem val_rng {c g : List Int} {G : List Sp} (hm : MeanOk c G) (hb : Betw g G) (hw : 0 ≤ wTot g c.length ∧ wTot g c.length ≤ 144000000000) : Rng (valueB c G) (wTot g c.length) (dotTo c g c.length) := by
  have h1 := real_value hm hb (t := valueB c G) (by omega) (by omega)
  have h2 : (valueB c G).hi ≤ 10000 := gm_top hm
  have h3 : -10000 ≤ (valueB c G).lo := by
    have := gm_top (neg_ok hm)
    unfold valueB
    simp only
    omega
  have h4 := real_le hm hb (n := 10000) (gm_top hm)
  have h5 := real_le (neg_ok hm) hb (n := 10000) (gm_top (neg_ok hm))
  rw [show (negB c).length = c.length by simp [negB], dot_neg c g _ (Nat.le_refl _)] at h5
  generalize wTot g c.length = w at *
  have k1 : (valueB c G).hi * w ≤ 10000 * w := Int.mul_le_mul_of_nonneg_right h2 hw.1
  have k2 : -10000 * w ≤ (valueB c G).lo * w := Int.mul_le_mul_of_nonneg_right h3 hw.1
  exact ⟨h1.1, h1.2, by omega, by omega, by omega, by omega⟩

theorem tgt_rng {c g : List Int} {G : List Sp} (hm : MeanOk c G) (hb : Betw g G) (hw : 0 ≤ wTot g c.length ∧ wTot g c.length ≤ 144000000000) {t : Sp} (ht : SpIn t (-10000) 10000) (h1 : t.lo ≤ (valueB c G).lo) (h2 : (valueB c G).hi ≤ t.hi) : Rng t (wTot g c.length) (dotTo c g c.length) := by
  have k := real_value hm hb h1 h2
  have k1 := mulw (a := t.lo) ⟨ht.lo, by have := ht.le; have := ht.hi; omega⟩ hw
  have k2 := mulw (a := t.hi) ⟨by have := ht.le; have := ht.lo; omega, ht.hi⟩ hw
  exact ⟨k.1, k.2, k1.1, k1.2, k2.1, k2.2⟩

section
variable {b : Bat} (hb : OkB b) {r : List Int} (hr : ∀ x ∈ r, 0 ≤ x ∧ x ≤ 10000) (hl : r.length = b.mats.length) (hz : (tot (gramsB b r)).lo ≠ 0) {g : List Int} (hg : Betw g (gramsB b r))
include hb hr hl hg

theorem wt_ok : 100 * (tot (gramsB b r)).lo ≤ wTot g b.oxides.length ∧ 0 ≤ wTot g b.oxides.length ∧ wTot g b.oxides.length ≤ 144000000000 := by
  have h1 := wTot_in hb hr hl hg
  have h2 := tot_bd hb hr hl
  omega

theorem g_ok {i : Nat} (hi : i < g.length) : 0 ≤ g[i] ∧ g[i] ≤ 12000000000 := by
  have hlen : (gramsB b r).length = b.oxides.length := gTo_len _ _ _ _
  have h0 := hg.len
  have h1 := hg.all i (by omega)
  have h2 := grams_ok hb hr hl _ (getD_mem (d := ⟨0, 0⟩) (show i < (gramsB b r).length by omega))
  rw [show g.getD i 0 = g[i] from by simp [List.getD, List.getElem?_eq_getElem hi]] at h1
  omega

theorem wTo_ok : ∀ k, k ≤ g.length → 0 ≤ wTot g k ∧ wTot g k ≤ 12000000000 * k := by
  intro k
  induction k with
  | zero => intro _; simp [wTot]
  | succ k ih =>
    intro hk
    have h1 := ih (by omega)
    have h2 := g_ok hb hr hl hg (show k < g.length by omega)
    rw [wTot_succ, show g.getD k 0 = g[k] from by simp [List.getD, List.getElem?_eq_getElem (show k < g.length by omega)]]
    omega

include hz
theorem sh_rng {i : Nat} (hi : i < g.length) : Rng (valueB (shareB b.oxides.length i) (gramsB b r)) (wTot g b.oxides.length) (1000 * g[i]) := by
  have hlen : (gramsB b r).length = b.oxides.length := gTo_len _ _ _ _
  have h0 := hg.len
  have hm := share_ok hb hr hl hz i
  have hw := wt_ok hb hr hl hg
  have k := val_rng hm hg (by rw [shareB_len]; omega)
  rw [shareB_len, dot_share _ _ _ (by omega) _ (Nat.le_refl _), if_pos (by omega), show g.getD i 0 = g[i] from by simp [List.getD, List.getElem?_eq_getElem hi]] at k
  exact k
theorem sh_tgt (hp : insideP b r) {i : Nat} (hi : i < g.length) (hs : i < b.shares.length) : Rng (b.shares[i]) (wTot g b.oxides.length) (1000 * g[i]) := by
  have hlen : (gramsB b r).length = b.oxides.length := gTo_len _ _ _ _
  have h0 := hg.len
  have hm := share_ok hb hr hl hz i
  have hw := wt_ok hb hr hl hg
  have e : b.shares.getD i ⟨0, 0⟩ = b.shares[i] := by simp [List.getD, List.getElem?_eq_getElem hs]
  have hsp := hb.shares _ (List.getElem_mem hs)
  have hin := hp.2.1 i (by omega)
  rw [e] at hin
  have k := tgt_rng hm hg (by rw [shareB_len]; omega) (t := b.shares[i]) ⟨by have := hsp.lo; omega, hsp.le, by have := hsp.hi; omega⟩ hin.1 hin.2
  rw [shareB_len, dot_share _ _ _ (by omega) _ (Nat.le_refl _), if_pos (by omega), show g.getD i 0 = g[i] from by simp [List.getD, List.getElem?_eq_getElem hi]] at k
  exact k
theorem pr_rng {p : Prp} (hp : p ∈ b.props) : Rng (valueB p.coefs (gramsB b r)) (wTot g b.oxides.length) (dotTo p.coefs g g.length) := by
  have hlen : (gramsB b r).length = b.oxides.length := gTo_len _ _ _ _
  have h0 := hg.len
  have hm := coefs_ok hb hr hl hz hp
  have hw := wt_ok hb hr hl hg
  have e : p.coefs.length = b.oxides.length := (hb.props p hp).len
  have k := val_rng hm hg (by rw [e]; omega)
  rw [e] at k
  rw [show g.length = b.oxides.length by omega]
  exact k
theorem pr_tgt (hi : insideP b r) {p : Prp} (hp : p ∈ b.props) : Rng p.target (wTot g b.oxides.length) (dotTo p.coefs g g.length) := by
  have hlen : (gramsB b r).length = b.oxides.length := gTo_len _ _ _ _
  have h0 := hg.len
  have hm := coefs_ok hb hr hl hz hp
  have hw := wt_ok hb hr hl hg
  have e : p.coefs.length = b.oxides.length := (hb.props p hp).len
  have hin := hi.2.2.2 p hp
  have k := tgt_rng hm hg (by rw [e]; omega) (hb.props p hp).target hin.1 hin.2
  rw [e] at k
  rw [show g.length = b.oxides.length by omega]
  exact k
end

def sdL (b : Bat) (r : List Int) (k : Nat) : Int := ((List.range k).map fun i => r.getD i 0 * rdxAt b i).sum
theorem sdL_succ (b : Bat) (r : List Int) (k : Nat) : sdL b r (k + 1) = sdL b r k + r.getD k 0 * rdxAt b k := by
  unfold sdL; rw [List.range_succ, List.map_append, List.map_singleton, sum_snoc]
theorem sdL_rdx (b : Bat) (r : List Int) : ∀ k, 1000000 * sdL b r k = rdxTo b r k := by
  intro k
  induction k with
  | zero => simp [sdL, rdxTo]
  | succ k ih =>
    rw [sdL_succ, rdxTo_succ, ← ih, Int.mul_add, Int.mul_assoc, Int.mul_comm (rdxAt b k)]
theorem sd_prod {p d : Int} (hp : 0 ≤ p ∧ p ≤ 10000) (hd : -1000 ≤ d ∧ d ≤ 1000) : -10000000 ≤ p * d ∧ p * d ≤ 10000000 := by
  have h1 : p * d ≤ p * 1000 := Int.mul_le_mul_of_nonneg_left hd.2 hp.1
  have h2 : p * -1000 ≤ p * d := Int.mul_le_mul_of_nonneg_left hd.1 hp.1
  omega
theorem sdL_bd {b : Bat} (hb : OkB b) {r : List Int} (hr : ∀ x ∈ r, 0 ≤ x ∧ x ≤ 10000) (hl : r.length = b.mats.length) : ∀ k, k ≤ b.mats.length → -(10000000 * (k : Int)) ≤ sdL b r k ∧ sdL b r k ≤ 10000000 * k := by
  intro k
  induction k with
  | zero => intro _; simp [sdL]
  | succ k ih =>
    intro hk
    have h1 := ih (by omega)
    have h4 := hr _ (getD_mem (d := 0) (show k < r.length by omega))
    have h5 := (hb.mats _ (List.getElem_mem (show k < b.mats.length by omega))).redox
    rw [← rdx_at (show k < b.mats.length by omega)] at h5
    have h6 := sd_prod h4 h5
    rw [sdL_succ]
    omega

theorem rdx_small {b : Bat} (hb : OkB b) {r : List Int} (hr : ∀ x ∈ r, 0 ≤ x ∧ x ≤ 10000) (hl : r.length = b.mats.length) (hz : (tot (gramsB b r)).lo ≠ 0) :
    (-1000000000000000 ≤ (rdxB b r).lo ∧ (rdxB b r).lo ≤ 1000000000000000) ∧ (-1000000000000000 ≤ (rdxB b r).hi ∧ (rdxB b r).hi ≤ 1000000000000000) := by
  have h0 := rdx_bd hb hr hl b.mats.length (Nat.le_refl _)
  have h1 := hb.mt
  unfold rdxB
  simp only
  generalize rdxTo b r b.mats.length = s at *
  generalize (tot (gramsB b r)).lo = l
  generalize (tot (gramsB b r)).hi = h
  have a1 := Int.natAbs_ediv_le_natAbs s l
  have a2 := Int.natAbs_ediv_le_natAbs s h
  have a3 := Int.natAbs_ediv_le_natAbs (-s) l
  have a4 := Int.natAbs_ediv_le_natAbs (-s) h
  generalize s / l = x1 at *
  generalize s / h = x2 at *
  generalize (-s) / l = x3 at *
  generalize (-s) / h = x4 at *
  omega

/-- the comparisons of redox numbers. -/
theorem less_redox {b : Bat} (hb : OkB b) {r : List Int} (hr : ∀ x ∈ r, 0 ≤ x ∧ x ≤ 10000) (hl : r.length = b.mats.length) (hz : (tot (gramsB b r)).lo ≠ 0) {g : List Int} (hg : Betw g (gramsB b r)) {t : Sp} (h1 : t.lo ≤ (rdxB b r).lo) (h2 : (rdxB b r).hi ≤ t.hi)
    (ht : (-1000000000000000 ≤ t.lo ∧ t.lo ≤ 1000000000000000) ∧ (-1000000000000000 ≤ t.hi ∧ t.hi ≤ 1000000000000000)) :
    LessAt t.lo (wTot g b.oxides.length) 100000000 (sdL b r b.mats.length) ∧ LessAt (-t.hi) (wTot g b.oxides.length) 100000000 (-(sdL b r b.mats.length)) := by
  have hw := wt_ok hb hr hl hg
  have ht0 := tot_bd hb hr hl
  have hs := sdL_bd hb hr hl b.mats.length (Nat.le_refl _)
  have hm := hb.mt
  have hk := real_redox hb hr hl hz hg h1 h2
  rw [← sdL_rdx] at hk
  generalize wTot g b.oxides.length = w at *
  generalize sdL b r b.mats.length = s at *
  constructor
  · exact ⟨by omega, by omega, by omega, by omega, by omega, by omega, by omega⟩
  · exact ⟨by omega, by omega, by omega, by omega, by omega, by omega, by omega⟩

theorem glass_parts (b : Bat) (r : List Int) : (∃ n, (n != 0) = true ∧ glassB b r = ([], n)) ∨ (bothB b r = 0 ∧ (tot (gramsB b r)).lo ≠ 0 ∧ glassB b r = (glassTo b r b.oxides.length, 0)) := by
  by_cases h1 : bothB b r = 0
  · by_cases h2 : (tot (gramsB b r)).lo = 0
    · exact .inl ⟨8, by decide, by simp [glassB, h1, h2]⟩
    · exact .inr ⟨h1, h2, by simp [glassB, h1, h2]⟩
  · exact .inl ⟨bothB b r, by simp [h1], by simp [glassB, h1]⟩

theorem dot_bd2 {c g : List Int} (hc : ∀ x ∈ c, -10000 ≤ x ∧ x ≤ 10000) (hgb : ∀ i (h : i < g.length), 0 ≤ g[i] ∧ g[i] ≤ 12000000000) (hl : c.length = g.length) : ∀ k, k ≤ g.length → -(120000000000000 * (k : Int)) ≤ dotTo c g k ∧ dotTo c g k ≤ 120000000000000 * k := by
  intro k
  induction k with
  | zero => intro _; simp [dotTo]
  | succ k ih =>
    intro hk
    have h1 := ih (by omega)
    have h2 := hc _ (getD_mem (d := 0) (show k < c.length by omega))
    have h3 := hgb k (by omega)
    rw [show g[k] = g.getD k 0 from by simp [List.getD, List.getElem?_eq_getElem (show k < g.length by omega)]] at h3
    have h4 : c.getD k 0 * g.getD k 0 ≤ 10000 * g.getD k 0 := Int.mul_le_mul_of_nonneg_right h2.2 h3.1
    have h5 : -10000 * g.getD k 0 ≤ c.getD k 0 * g.getD k 0 := Int.mul_le_mul_of_nonneg_right h2.1 h3.1
    rw [dotTo_succ']
    omega
theorem cg_bd {c g : Int} (hc : -10000 ≤ c ∧ c ≤ 10000) (hg : 0 ≤ g ∧ g ≤ 12000000000) : -120000000000000 ≤ c * g ∧ c * g ≤ 120000000000000 := by
  have h4 : c * g ≤ 10000 * g := Int.mul_le_mul_of_nonneg_right hc.2 hg.1
  have h5 : -10000 * g ≤ c * g := Int.mul_le_mul_of_nonneg_right hc.1 hg.1
  omega

end Go.Proofs.Ytnnkcbeadiembaa
