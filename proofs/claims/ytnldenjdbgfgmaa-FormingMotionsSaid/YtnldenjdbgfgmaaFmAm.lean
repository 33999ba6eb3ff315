/- The stretches of a path are just the times at which it is in a span; no statement is proved here. -/
import Derived.Test.YtnldenjdbgfgmaaFmEx
namespace Go.Proofs.Ytnldenjdbgfgmaa
set_option linter.unusedVariables false
set_option linter.unusedSimpArgs false

structure EndOk (r : Rt) : Prop where
  d : 1 ≤ r.d ∧ r.d ≤ 1000000
  n : -8000000000 ≤ r.n ∧ r.n ≤ 8000000000
  g : gI r.n r.d = 1
theorem timeF_end {x y : Sp} (h : LegOk x y) (hne : x.hi ≠ y.hi) {p : Int} (hp : 0 ≤ p ∧ p ≤ 1000000) : EndOk (timeF x y p) := by
  obtain ⟨m1, m2⟩ := timeN_bd h hp
  have h2 := h.b; have h3 := h.c
  have hb : -8000000000 ≤ timeN x y p ∧ timeN x y p ≤ 8000000000 := by unfold timeN; omega
  unfold timeF
  by_cases hd : 0 < y.hi - x.hi
  · rw [rat_pos hd]
    have a1 := mk_nabs (timeN x y p) hd 8000000000 hb
    have a2 := mk_dpos (timeN x y p) hd
    have a3 := mk_dle (timeN x y p) hd
    exact ⟨⟨a2, by omega⟩, a1, mk_low _ hd⟩
  · have hd' : 0 < -(y.hi - x.hi) := by omega
    rw [show rat (timeN x y p) (y.hi - x.hi) = mk (-timeN x y p) (-(y.hi - x.hi)) by unfold rat; rw [if_neg hd]]
    have a1 := mk_nabs (-timeN x y p) hd' 8000000000 (by omega)
    have a2 := mk_dpos (-timeN x y p) hd'
    have a3 := mk_dle (-timeN x y p) hd'
    exact ⟨⟨a2, by omega⟩, a1, mk_low _ hd'⟩
/-- at its time a leg is where it shall be. -/
theorem timeF_at {x y : Sp} (h : LegOk x y) (hne : x.hi ≠ y.hi) (p : Int) : legF x y (rv (timeF x y p)) = (p : Rat) := by
  have hl := leg_len h
  have key : rv (timeF x y p) = ((x.lo : Rat) * ((y.hi : Rat) - (x.hi : Rat)) + ((p : Rat) - (x.hi : Rat)) * ((y.lo : Rat) - (x.lo : Rat))) / ((y.hi : Rat) - (x.hi : Rat)) := by
    unfold timeF
    by_cases hd : 0 < y.hi - x.hi
    · rw [rat_pos hd, rv_mk _ hd, Rat.divInt_eq_div]
      unfold timeN
      simp only [Rat.intCast_mul, Rat.intCast_add, Rat.intCast_sub]
    · have hd' : 0 < -(y.hi - x.hi) := by omega
      rw [show rat (timeN x y p) (y.hi - x.hi) = mk (-timeN x y p) (-(y.hi - x.hi)) by unfold rat; rw [if_neg hd], rv_mk _ hd', Rat.divInt_eq_div]
      unfold timeN
      have hz : (y.hi : Rat) - (x.hi : Rat) ≠ 0 := by
        have : (x.hi : Rat) ≠ (y.hi : Rat) := fun e => hne (Rat.intCast_inj.1 e)
        grind
      simp only [Rat.intCast_mul, Rat.intCast_add, Rat.intCast_sub, Rat.intCast_neg]
      grind
  have hz : (y.hi : Rat) - (x.hi : Rat) ≠ 0 := by
    have : (x.hi : Rat) ≠ (y.hi : Rat) := fun e => hne (Rat.intCast_inj.1 e)
    grind
  rw [key]
  unfold legF
  generalize (y.lo : Rat) = a at *
  generalize (x.lo : Rat) = b at *
  generalize (y.hi : Rat) = c at *
  generalize (x.hi : Rat) = d at *
  generalize (p : Rat) = q at *
  have hl2 : a - b ≠ 0 := by grind
  grind
theorem leg_up {x y : Sp} (h : LegOk x y) (hu : x.hi < y.hi) {s t : Rat} : legF x y s ≤ legF x y t ↔ s ≤ t := by
  have hl := leg_len h
  have hk : (0 : Rat) < ((y.hi : Rat) - (x.hi : Rat)) / ((y.lo : Rat) - (x.lo : Rat)) := by
    have : (x.hi : Rat) < (y.hi : Rat) := Rat.intCast_lt_intCast.2 hu
    rw [Rat.div_def]
    exact Rat.mul_pos (by grind) (Rat.inv_pos.2 hl)
  unfold legF
  generalize ((y.hi : Rat) - (x.hi : Rat)) / ((y.lo : Rat) - (x.lo : Rat)) = k at *
  constructor
  · intro hle
    rcases Rat.le_total (a := s) (b := t) with hst | hst
    · exact hst
    · by_cases he : s = t
      · rw [he]; exact Rat.le_refl
      · have := Rat.mul_pos hk (show 0 < s - t by grind)
        grind
  · intro hle
    have := Rat.mul_nonneg (Rat.le_of_lt hk) (show 0 ≤ t - s by grind)
    grind
theorem leg_down {x y : Sp} (h : LegOk x y) (hu : y.hi < x.hi) {s t : Rat} : legF x y s ≤ legF x y t ↔ t ≤ s := by
  have hl := leg_len h
  have hk : (0 : Rat) < ((x.hi : Rat) - (y.hi : Rat)) / ((y.lo : Rat) - (x.lo : Rat)) := by
    have : (y.hi : Rat) < (x.hi : Rat) := Rat.intCast_lt_intCast.2 hu
    rw [Rat.div_def]
    exact Rat.mul_pos (by grind) (Rat.inv_pos.2 hl)
  have e : ((y.hi : Rat) - (x.hi : Rat)) / ((y.lo : Rat) - (x.lo : Rat)) = -(((x.hi : Rat) - (y.hi : Rat)) / ((y.lo : Rat) - (x.lo : Rat))) := by rw [Rat.div_def, Rat.div_def]; grind
  unfold legF
  rw [e]
  generalize ((x.hi : Rat) - (y.hi : Rat)) / ((y.lo : Rat) - (x.lo : Rat)) = k at *
  constructor
  · intro hle
    rcases Rat.le_total (a := t) (b := s) with hst | hst
    · exact hst
    · by_cases he : s = t
      · rw [he]; exact Rat.le_refl
      · have := Rat.mul_pos hk (show 0 < t - s by grind)
        grind
  · intro hle
    have := Rat.mul_nonneg (Rat.le_of_lt hk) (show 0 ≤ s - t by grind)
    grind
theorem leg_same {x y : Sp} (hu : x.hi = y.hi) (t : Rat) : legF x y t = (x.hi : Rat) := by
  unfold legF
  rw [hu]
  have : ((y.hi : Rat) - (y.hi : Rat)) = 0 := by grind
  rw [this, Rat.div_def]
  grind
def InSp (s : Sp) (p : Rat) : Prop := (s.lo : Rat) ≤ p ∧ p ≤ (s.hi : Rat)
/-- the ends of a leg's positions. -/
theorem leg_in {x y s : Sp} (h : LegOk x y) {t : Rat} (ht : InLeg x y t) : InSp s (legF x y t) ↔ ((lowF x y s : Int) : Rat) ≤ legF x y t ∧ legF x y t ≤ ((highF x y s : Int) : Rat) := by
  have ha := legF_a (x := x) (y := y)
  have hb := legF_b h
  have mn : ((min x.hi y.hi : Int) : Rat) ≤ legF x y t ∧ legF x y t ≤ ((max x.hi y.hi : Int) : Rat) := by
    rcases Int.lt_trichotomy x.hi y.hi with hc | hc | hc
    · rw [show min x.hi y.hi = x.hi by omega, show max x.hi y.hi = y.hi by omega]
      have k1 := (leg_up h hc (s := (x.lo : Rat)) (t := t)).2 ht.1
      have k2 := (leg_up h hc (s := t) (t := (y.lo : Rat))).2 ht.2
      rw [ha] at k1; rw [hb] at k2
      exact ⟨k1, k2⟩
    · rw [show min x.hi y.hi = x.hi by omega, show max x.hi y.hi = x.hi by omega, leg_same hc]
      exact ⟨Rat.le_refl, Rat.le_refl⟩
    · rw [show min x.hi y.hi = y.hi by omega, show max x.hi y.hi = x.hi by omega]
      have k1 := (leg_down h hc (s := t) (t := (x.lo : Rat))).2 ht.1
      have k2 := (leg_down h hc (s := (y.lo : Rat)) (t := t)).2 ht.2
      rw [ha] at k1; rw [hb] at k2
      exact ⟨k2, k1⟩
  have l1 : ((s.lo : Int) : Rat) ≤ ((lowF x y s : Int) : Rat) := Rat.intCast_le_intCast.2 (by unfold lowF; omega)
  have l2 : ((highF x y s : Int) : Rat) ≤ ((s.hi : Int) : Rat) := Rat.intCast_le_intCast.2 (by unfold highF; omega)
  have e1 : lowF x y s = s.lo ∨ lowF x y s = min x.hi y.hi := by unfold lowF; omega
  have e2 : highF x y s = s.hi ∨ highF x y s = max x.hi y.hi := by unfold highF; omega
  unfold InSp
  constructor
  · rintro ⟨a, b⟩
    constructor
    · rcases e1 with e | e <;> rw [e]
      · exact a
      · exact mn.1
    · rcases e2 with e | e <;> rw [e]
      · exact b
      · exact mn.2
  · rintro ⟨a, b⟩
    exact ⟨Rat.le_trans l1 a, Rat.le_trans b l2⟩
theorem ins_none {x y s : Sp} (h : LegOk x y) (hn : insF x y s = none) {t : Rat} (ht : InLeg x y t) : ¬ InSp s (legF x y t) := by
  rw [leg_in h ht]
  unfold insF at hn
  by_cases hc : highF x y s < lowF x y s
  · have := Rat.intCast_lt_intCast.2 hc
    grind
  · rw [if_neg hc] at hn
    split at hn
    · cases hn
    · split at hn <;> cases hn
theorem rv_int (n : Int) : rv ⟨n, 1⟩ = (n : Rat) := by rw [rv_div, show ((1 : Int) : Rat) = 1 from rfl]; grind
theorem ins_some {x y s : Sp} {n : St} (h : LegOk x y) (hn : insF x y s = some n) : (EndOk n.a ∧ EndOk n.b) ∧ ((x.lo : Rat) ≤ rv n.a ∧ rv n.a ≤ rv n.b ∧ rv n.b ≤ (y.lo : Rat)) ∧ ∀ t, InLeg x y t → (InSp s (legF x y t) ↔ rv n.a ≤ t ∧ t ≤ rv n.b) := by
  have h1 := h.a; have h2 := h.b; have h3 := h.c
  have hL : lowF x y s = max s.lo (min x.hi y.hi) := rfl
  have hH : highF x y s = min s.hi (max x.hi y.hi) := rfl
  have ha := legF_a (x := x) (y := y)
  have hb := legF_b h
  have hl := leg_len h
  unfold insF at hn
  by_cases hc : highF x y s < lowF x y s
  · rw [if_pos hc] at hn; cases hn
  rw [if_neg hc] at hn
  have hcr : ((lowF x y s : Int) : Rat) ≤ ((highF x y s : Int) : Rat) := Rat.intCast_le_intCast.2 (by omega)
  by_cases hu : x.hi < y.hi
  · rw [if_pos hu] at hn
    cases hn
    have t1 := timeF_at h (by omega) (lowF x y s)
    have t2 := timeF_at h (by omega) (highF x y s)
    have k1 : ((x.hi : Int) : Rat) ≤ ((lowF x y s : Int) : Rat) := Rat.intCast_le_intCast.2 (by omega)
    have k2 : ((highF x y s : Int) : Rat) ≤ ((y.hi : Int) : Rat) := Rat.intCast_le_intCast.2 (by omega)
    refine ⟨⟨timeF_end h (by omega) (by omega), timeF_end h (by omega) (by omega)⟩, ⟨?_, ?_, ?_⟩, fun t ht => ?_⟩
    · exact (leg_up h hu).1 (by rw [ha, t1]; exact k1)
    · exact (leg_up h hu).1 (by rw [t1, t2]; exact hcr)
    · exact (leg_up h hu).1 (by rw [hb, t2]; exact k2)
    · rw [leg_in h ht, ← leg_up h hu (s := rv (timeF x y (lowF x y s))), ← leg_up h hu (t := rv (timeF x y (highF x y s))), t1, t2]
  rw [if_neg hu] at hn
  by_cases hd : y.hi < x.hi
  · rw [if_pos hd] at hn
    cases hn
    have t1 := timeF_at h (by omega) (lowF x y s)
    have t2 := timeF_at h (by omega) (highF x y s)
    have k1 : ((y.hi : Int) : Rat) ≤ ((lowF x y s : Int) : Rat) := Rat.intCast_le_intCast.2 (by omega)
    have k2 : ((highF x y s : Int) : Rat) ≤ ((x.hi : Int) : Rat) := Rat.intCast_le_intCast.2 (by omega)
    refine ⟨⟨timeF_end h (by omega) (by omega), timeF_end h (by omega) (by omega)⟩, ⟨?_, ?_, ?_⟩, fun t ht => ?_⟩
    · exact (leg_down h hd).1 (by rw [ha, t2]; exact k2)
    · exact (leg_down h hd).1 (by rw [t1, t2]; exact hcr)
    · exact (leg_down h hd).1 (by rw [hb, t1]; exact k1)
    · rw [leg_in h ht, ← leg_down h hd (s := t) (t := rv (timeF x y (highF x y s))), ← leg_down h hd (s := rv (timeF x y (lowF x y s))), t1, t2]
      exact And.comm
  rw [if_neg hd] at hn
  cases hn
  have he : x.hi = y.hi := by omega
  refine ⟨⟨⟨by simp only; omega, by simp only; omega, by unfold gI; simp⟩, ⟨by simp only; omega, by simp only; omega, by unfold gI; simp⟩⟩, ⟨by rw [rv_int]; exact Rat.le_refl, by rw [rv_int, rv_int]; grind, by rw [rv_int]; exact Rat.le_refl⟩, fun t ht => ?_⟩
  rw [leg_in h ht, leg_same he, rv_int, rv_int]
  have k1 : ((lowF x y s : Int) : Rat) ≤ ((x.hi : Int) : Rat) := Rat.intCast_le_intCast.2 (by omega)
  have k2 : ((x.hi : Int) : Rat) ≤ ((highF x y s : Int) : Rat) := Rat.intCast_le_intCast.2 (by omega)
  exact ⟨fun _ => ht, fun _ => ⟨k1, k2⟩⟩

/-- the times of the first legs that are in a span. -/
def Cov (c h : Int) (l : List Sp) (s : Sp) (k : Nat) (t : Rat) : Prop := ∃ i, i < k ∧ InLeg (lgA h l i) (lgB c h l i) t ∧ InSp s (legF (lgA h l i) (lgB c h l i) t)
def vtx (c h : Int) (l : List Sp) (k : Nat) : Rat := if k = 0 then 0 else ((lgB c h l (k - 1)).lo : Rat)
structure IvOk (x : St) : Prop where
  a : EndOk x.a
  b : EndOk x.b
  z : 0 ≤ rv x.a
  o : rv x.a ≤ rv x.b
structure RunI (c h : Int) (l : List Sp) (s : Sp) (k : Nat) (d : List St) (p : Option St) : Prop where
  iv : ∀ x, x ∈ d ++ p.toList → IvOk x ∧ rv x.b ≤ vtx c h l k
  pw : List.Pairwise (fun x y => rv x.b < rv y.a) (d ++ p.toList)
  cov : ∀ t, (Cov c h l s k t ↔ ∃ x, x ∈ d ++ p.toList ∧ rv x.a ≤ t ∧ t ≤ rv x.b)
  nil : p = none → d = []
theorem cov_succ {c h : Int} {l : List Sp} {s : Sp} {k : Nat} {t : Rat} : Cov c h l s (k + 1) t ↔ Cov c h l s k t ∨ (InLeg (lgA h l k) (lgB c h l k) t ∧ InSp s (legF (lgA h l k) (lgB c h l k) t)) := by
  constructor
  · rintro ⟨i, hi, h1⟩
    by_cases he : i = k
    · subst he; exact .inr h1
    · exact .inl ⟨i, by omega, h1⟩
  · rintro (⟨i, hi, h1⟩ | h1)
    · exact ⟨i, by omega, h1⟩
    · exact ⟨k, by omega, h1⟩
theorem vtx_lo {c h : Int} {l : List Sp} (H : chkM c h l = 0) {k : Nat} (hk : k < nL l) : vtx c h l k = ((lgA h l k).lo : Rat) := by
  unfold vtx
  by_cases h0 : k = 0
  · subst h0; rw [if_pos rfl, lg_first H]; rfl
  · rw [if_neg h0, lg_next (c := c) (h := h) (show k - 1 + 1 < nL l by omega), show k - 1 + 1 = k by omega]
theorem run_ok {c h : Int} {l : List Sp} {s : Sp} (H : chkM c h l = 0) : ∀ k, k ≤ nL l → RunI c h l s k (runS c h l s k).1 (runS c h l s k).2 := by
  intro k
  induction k with
  | zero =>
    intro _
    refine ⟨fun x hx => by simp [runS] at hx, by simp [runS], fun t => ?_, fun _ => rfl⟩
    constructor
    · rintro ⟨i, hi, -⟩; omega
    · rintro ⟨x, hx, -⟩; simp [runS] at hx
  | succ k ih =>
    intro hk
    obtain ⟨iv, pw, cov, nil⟩ := ih (by omega)
    have hok := legOk_of H (show k < nL l by omega)
    have hl := leg_len hok
    have hv := vtx_lo H (show k < nL l by omega)
    have hv1 : vtx c h l (k + 1) = ((lgB c h l k).lo : Rat) := by unfold vtx; rw [if_neg (by omega), show k + 1 - 1 = k by omega]
    have hvv : vtx c h l k ≤ vtx c h l (k + 1) := by rw [hv, hv1]; grind
    have hlo0 : (0 : Rat) ≤ ((lgA h l k).lo : Rat) := by
      have := hok.a
      exact Rat.intCast_nonneg.2 (by omega)
    cases hn : insF (lgA h l k) (lgB c h l k) s with
    | none =>
      rw [runS_none hn]
      refine ⟨fun x hx => ⟨(iv x hx).1, Rat.le_trans (iv x hx).2 hvv⟩, pw, fun t => ?_, nil⟩
      rw [cov_succ, ← cov]
      constructor
      · rintro (h1 | ⟨h1, h2⟩)
        · exact h1
        · exact absurd h2 (ins_none hok hn h1)
      · exact .inl
    | some n =>
      obtain ⟨⟨ea, eb⟩, ⟨o1, o2, o3⟩, hin⟩ := ins_some hok hn
      have hnew : ∀ t, (InLeg (lgA h l k) (lgB c h l k) t ∧ InSp s (legF (lgA h l k) (lgB c h l k) t)) ↔ rv n.a ≤ t ∧ t ≤ rv n.b := fun t => by
        constructor
        · rintro ⟨h1, h2⟩; exact (hin t h1).1 h2
        · rintro ⟨h1, h2⟩
          have hil : InLeg (lgA h l k) (lgB c h l k) t := ⟨Rat.le_trans o1 h1, Rat.le_trans h2 o3⟩
          exact ⟨hil, (hin t hil).2 ⟨h1, h2⟩⟩
      have hnok : IvOk n := ⟨ea, eb, Rat.le_trans hlo0 o1, o2⟩
      cases hp : (runS c h l s k).2 with
      | none =>
        rw [runS_first hp hn]
        have hd := nil hp
        rw [hp, hd] at cov
        rw [hd]
        refine ⟨fun x hx => ?_, by simp, fun t => ?_, fun e => by cases e⟩
        · simp only [List.nil_append, Option.toList_some, List.mem_singleton] at hx
          subst hx
          exact ⟨hnok, by rw [hv1]; exact o3⟩
        · rw [cov_succ, cov, hnew]
          simp
      | some p =>
        rw [hp] at iv pw cov
        have hpk := iv p (by simp)
        by_cases he : p.b = n.a
        · rw [runS_join hp hn he]
          have hpn : IvOk ⟨p.a, n.b⟩ := ⟨hpk.1.a, eb, hpk.1.z, by
            have := hpk.1.o
            rw [he] at this
            exact Rat.le_trans this o2⟩
          refine ⟨fun x hx => ?_, ?_, fun t => ?_, fun e => by cases e⟩
          · simp only [Option.toList_some, List.mem_append, List.mem_singleton] at hx
            rcases hx with hx | hx
            · have := iv x (by simp [hx])
              exact ⟨this.1, Rat.le_trans this.2 hvv⟩
            · subst hx
              exact ⟨hpn, by rw [hv1]; exact o3⟩
          · rw [List.pairwise_append] at pw ⊢
            refine ⟨pw.1, by simp, fun a ha b hb => ?_⟩
            simp only [Option.toList_some, List.mem_singleton] at hb
            subst hb
            exact pw.2.2 a ha p (by simp)
          · rw [cov_succ, cov, hnew]
            simp only [Option.toList_some, List.mem_append, List.mem_singleton]
            have ho := hpk.1.o
            constructor
            · rintro (⟨x, hx | rfl, h1, h2⟩ | ⟨h1, h2⟩)
              · exact ⟨x, .inl hx, h1, h2⟩
              · exact ⟨_, .inr rfl, h1, by rw [he] at h2; exact Rat.le_trans h2 o2⟩
              · exact ⟨_, .inr rfl, by rw [he] at ho; exact Rat.le_trans ho h1, h2⟩
            · rintro ⟨x, hx | rfl, h1, h2⟩
              · exact .inl ⟨x, .inl hx, h1, h2⟩
              · rcases Rat.le_total (a := t) (b := rv p.b) with hc | hc
                · exact .inl ⟨p, .inr rfl, h1, hc⟩
                · exact .inr ⟨by rw [he] at hc; exact hc, h2⟩
        · rw [(runS_yield (show k < nL l by omega) hp hn he).2]
          have hlt : rv p.b < rv n.a := by
            have h1 := hpk.2
            rw [hv] at h1
            have hle := Rat.le_trans h1 o1
            have hne : rv p.b ≠ rv n.a := fun e => he (low_eq hpk.1.b.d.1 ea.d.1 hpk.1.b.g ea.g ((rv_eq hpk.1.b.d.1 ea.d.1).1 e))
            grind
          refine ⟨fun x hx => ?_, ?_, fun t => ?_, fun e => by cases e⟩
          · simp only [Option.toList_some, List.mem_append, List.mem_singleton] at hx
            rcases hx with (hx | hx) | hx
            · have := iv x (by simp [hx])
              exact ⟨this.1, Rat.le_trans this.2 hvv⟩
            · have := iv x (by simp [hx])
              exact ⟨this.1, Rat.le_trans this.2 hvv⟩
            · subst hx
              exact ⟨hnok, by rw [hv1]; exact o3⟩
          · have pw' : List.Pairwise (fun x y => rv x.b < rv y.a) ((runS c h l s k).1 ++ [p]) := pw
            rw [List.pairwise_append]
            refine ⟨pw', by simp, fun a ha b hb => ?_⟩
            simp only [Option.toList_some, List.mem_singleton] at hb
            subst hb
            simp only [List.mem_append, List.mem_singleton] at ha
            rcases ha with ha | rfl
            · have h1 := (List.pairwise_append.1 pw').2.2 a ha p (by simp)
              have := hpk.1.o
              grind
            · exact hlt
          · rw [cov_succ, cov, hnew]
            simp only [Option.toList_some, List.mem_append, List.mem_singleton]
            constructor
            · rintro (⟨x, hx, h1, h2⟩ | ⟨h1, h2⟩)
              · exact ⟨x, .inl hx, h1, h2⟩
              · exact ⟨n, .inr rfl, h1, h2⟩
            · rintro ⟨x, hx | rfl, h1, h2⟩
              · exact .inl ⟨x, hx, h1, h2⟩
              · exact .inr ⟨h1, h2⟩
/-- what holds of the stretches of a path. -/
structure StrI (c h : Int) (l : List Sp) (s : Sp) (L : List St) : Prop where
  iv : ∀ x, x ∈ L → IvOk x ∧ rv x.b ≤ (c : Rat)
  pw : List.Pairwise (fun x y => rv x.b < rv y.a) L
  cov : ∀ t, (Cov c h l s (nL l) t ↔ ∃ x, x ∈ L ∧ rv x.a ≤ t ∧ t ≤ rv x.b)
theorem str_ok {c h : Int} {l : List Sp} {s : Sp} (H : chkM c h l = 0) : StrI c h l s (strE c h l s) := by
  obtain ⟨iv, pw, cov, -⟩ := run_ok (s := s) H (nL l) (Nat.le_refl _)
  have hv : vtx c h l (nL l) = (c : Rat) := by
    have hn : nL l ≠ 0 := by unfold nL; omega
    unfold vtx
    rw [if_neg hn, lgB_last]
  rw [hv] at iv
  exact ⟨iv, pw, cov⟩
theorem pos_unique {c h : Int} {l : List Sp} (H : chkM c h l = 0) {t p q : Rat} (hp : PosR c h l t p) (hq : PosR c h l t q) : p = q := by
  have := pos_lip (most_path H) hp hq Rat.le_refl
  grind
/-- the position at a time is in a span just if the time, or the one a cycle later, is in a stretch. -/
theorem all_in {c h : Int} {l : List Sp} {s : Sp} {L : List St} (H : chkM c h l = 0) (hL : StrI c h l s L) {t p : Rat} (ht : 0 ≤ t ∧ t < (c : Rat)) (hp : PosR c h l t p) :
    InSp s p ↔ ∃ x, x ∈ L ∧ ∃ k : Int, (-1 ≤ k ∧ k ≤ 1) ∧ rv x.a ≤ t + (k : Rat) * (c : Rat) ∧ t + (k : Rat) * (c : Rat) ≤ rv x.b := by
  have hc := (chkM_zero H).1
  have hcov : ∀ u q, PosR c h l u q → (InSp s q ↔ Cov c h l s (nL l) u) := fun u q hq => by
    constructor
    · intro hs
      obtain ⟨i, hi, hil, rfl⟩ := id hq
      exact ⟨i, hi, hil, hs⟩
    · rintro ⟨i, hi, hil, hs⟩
      rw [pos_unique H hq ⟨i, hi, hil, rfl⟩]
      exact hs
  constructor
  · intro hs
    obtain ⟨x, hx, h1, h2⟩ := (hL.cov t).1 ((hcov t p hp).1 hs)
    refine ⟨x, hx, 0, by omega, ?_, ?_⟩
    · rw [show ((0 : Int) : Rat) = 0 from rfl]; grind
    · rw [show ((0 : Int) : Rat) = 0 from rfl]; grind
  · rintro ⟨x, hx, k, hk, h1, h2⟩
    obtain ⟨ix, iy⟩ := hL.iv x hx
    have hk3 : k = -1 ∨ k = 0 ∨ k = 1 := by omega
    rcases hk3 with rfl | rfl | rfl
    · have := ix.z
      rw [show ((-1 : Int) : Rat) = -1 from rfl] at h1
      grind
    · rw [show ((0 : Int) : Rat) = 0 from rfl] at h1 h2
      exact (hcov t p hp).2 ((hL.cov t).2 ⟨x, hx, by grind, by grind⟩)
    · rw [show ((1 : Int) : Rat) = 1 from rfl] at h1 h2
      have e0 : t = 0 := by grind
      have e1 : rv x.b = (c : Rat) := by grind
      subst e0
      have hcc := (hL.cov (c : Rat)).2 ⟨x, hx, by grind, by grind⟩
      -- the end of the cycle is its beginning
      have hn : 0 < nL l := by unfold nL; omega
      have ok := fun i (hi : i < nL l) => legOk_of H hi
      obtain ⟨l1, l2⟩ := lg_last (c := c) (h := h) (l := l)
      have f1 : PosR c h l (c : Rat) ((lgA h l 0).hi : Rat) := by
        have k1 := leg_len (ok (nL l - 1) (by omega))
        have k2 := legF_b (ok (nL l - 1) (by omega))
        rw [l1, l2] at k2
        rw [l1] at k1
        exact ⟨nL l - 1, by omega, ⟨by grind, by rw [l1]; exact Rat.le_refl⟩, k2.symm⟩
      have f0 : PosR c h l 0 ((lgA h l 0).hi : Rat) := by
        have k1 := leg_len (ok 0 hn)
        have z := lg_first H
        have : ((lgA h l 0).lo : Rat) = 0 := by rw [z]; rfl
        refine ⟨0, hn, ⟨by grind, by grind⟩, ?_⟩
        have := legF_a (x := lgA h l 0) (y := lgB c h l 0)
        rw [z] at this
        exact this.symm
      have := (hcov _ _ f1).2 hcc
      rw [pos_unique H hp f0]
      exact this
end Go.Proofs.Ytnldenjdbgfgmaa
