/- What FormingNear wants of the program's gap; ordered of the law; no statement is proved here. -/
import Derived.Test.YtnldenjdbgfgmaaFmNm
import Derived.Test.YtnldenjdbgfgmaaFmTu
import Derived.Test.YtnldenjdbgfgmaaFmForm
namespace Go.Proofs.Ytnldenjdbgfgmaa
open Go.RowKit Go.PlainAid
set_option linter.unusedVariables false
set_option linter.unusedSimpArgs false

theorem gapOk_iff {c sh : Int} {la lb : List St} : GapOk c sh la lb ↔ (1 ≤ c ∧ c ≤ 3600) ∧ (0 ≤ sh ∧ sh ≤ c - 1) ∧ (∀ s, s ∈ la → StOk c s) ∧ (∀ s, s ∈ lb → StOk c s) := by
  unfold GapOk areS
  simp only [decide_eq_true_eq]
theorem gapA_bad {c sh : Int} {la lb : List St} (h : ¬ GapOk c sh la lb) {e : Ending} (hg : GapA c sh la lb e) : e = .returned (.tuple #[.agg #[.int .i64 0, .int .i64 0], .bool false, .int .i64 1]) := by
  rcases hg with ⟨h', -⟩ | ⟨-, rfl⟩
  · exact absurd h' h
  · rfl
theorem gapA_none {c sh : Int} {la lb : List St} (hk : GapOk c sh la lb) (h : la = [] ∨ lb = []) {e : Ending} (hg : GapA c sh la lb e) : e = .returned (.tuple #[.agg #[.int .i64 0, .int .i64 1], .bool true, .int .i64 0]) := by
  have hn : leastG (distL c sh la lb) = none := leastG_none.2 (List.length_eq_zero_iff.1 (by rw [distL_len]; rcases h with rfl | rfl <;> simp))
  rcases hg with ⟨-, rfl⟩ | ⟨h', -⟩
  · rw [hn]
    have hz : rat 0 1 = ⟨0, 1⟩ := by decide +kernel
    show Ending.returned (.tuple #[rtV (rat 0 1), .bool true, .int .i64 0]) = _
    rw [hz]; rfl
  · exact absurd hk h'
structure GapX (c sh : Int) (la lb : List St) (X : Rt) : Prop where
  e : ∀ e, GapA c sh la lb e → e = .returned (.tuple #[.agg #[.int .i64 X.n, .int .i64 X.d], .bool false, .int .i64 0])
  n : Num4 X.n
  d : Den4 X.d
  v : LeastV c sh la lb (rv X)
  g : gI X.n X.d = 1
theorem gapA_some {c sh : Int} {la lb : List St} (hk : GapOk c sh la lb) (ha : la.length ≠ 0) (hb : lb.length ≠ 0) : ∃ X, GapX c sh la lb X := by
  obtain ⟨hc, hs, hla, hlb⟩ := gapOk_iff.1 hk
  have hoa : ∀ s, s ∈ la → StS s := fun s h => (hla s h).sized hc
  have hob : ∀ s, s ∈ lb → StS s := fun s h => (hlb s h).sized hc
  have hD := distL_bd hoa hob hc (show 0 ≤ sh ∧ sh ≤ c by omega)
  cases hm : leastG (distL c sh la lb) with
  | none =>
    have := leastG_none.1 hm
    have := congrArg List.length this
    rw [distL_len] at this
    simp only [List.length_nil, Nat.mul_eq_zero] at this
    omega
  | some m =>
    have hml : m ∈ distL c sh la lb := (leastG_mem _ _ _ hm).resolve_left (by simp)
    obtain ⟨n1, d1⟩ := hD m hml
    have hv := least_is hc (show 0 ≤ sh ∧ sh ≤ c by omega) hla hlb hm
    have hr : rat m.n m.d = mk m.n m.d := rat_pos (by omega)
    have b1 := mk_nabs m.n (d := m.d) (by omega) 48000000000000000 (by omega)
    have b2 := mk_dpos m.n (d := m.d) (by omega)
    have b3 := mk_dle m.n (d := m.d) (by omega)
    refine ⟨mk m.n m.d, fun e hg => ?_, by unfold Num4; omega, by unfold Den4; omega, by rw [rv_mk _ (by omega)]; exact hv, mk_low _ (by omega)⟩
    rcases hg with ⟨-, rfl⟩ | ⟨h', -⟩
    · rw [hm]
      show Ending.returned (.tuple #[rtV (rat m.n m.d), .bool false, .int .i64 0]) = _
      rw [hr]; rfl
    · exact absurd hk h'
theorem turn_sh {c sh : Int} (hc : 1 ≤ c ∧ c ≤ 3600) (hs : 0 ≤ sh ∧ sh ≤ c - 1) : (c - sh).tmod c = if sh = 0 then 0 else c - sh := by
  rw [Int.tmod_eq_emod_of_nonneg (by omega)]
  split
  · rename_i h; subst h; simp
  · exact Int.emod_eq_of_lt (by omega) (by omega)
theorem gapX_turn {c sh sh' : Int} {la lb : List St} {X Y : Rt} (hk : GapOk c sh la lb) (hsh : sh' = if sh = 0 then 0 else c - sh) (h : GapX c sh la lb X) (k : GapX c sh' lb la Y) : X = Y := by
  obtain ⟨hc, hs, hla, hlb⟩ := gapOk_iff.1 hk
  have := least_turn hc hs hsh hla hlb h.v k.v
  have h1 := h.d.1; have h2 := k.d.1
  exact low_eq (by omega) (by omega) h.g k.g ((rv_eq (by omega) (by omega)).1 this)
theorem gapOk_turn {c sh sh' : Int} {la lb : List St} (hk : GapOk c sh la lb) (hsh : sh' = if sh = 0 then 0 else c - sh) : GapOk c sh' lb la := by
  obtain ⟨hc, hs, hla, hlb⟩ := gapOk_iff.1 hk
  exact gapOk_iff.2 ⟨hc, by subst hsh; split <;> omega, hlb, hla⟩
theorem gapX_half {c sh : Int} {la lb : List St} {X : Rt} (hk : GapOk c sh la lb) (h : GapX c sh la lb X) : ¬ (mk c 2).n * X.d < X.n * (mk c 2).d := by
  obtain ⟨hc, hs, hla, hlb⟩ := gapOk_iff.1 hk
  have := least_half hc hs hla hlb h.v
  have h1 := h.d.1
  have h2 := mk_dpos c (d := 2) (by omega)
  have h3 := rv_mk c (d := 2) (by omega)
  rw [Rat.divInt_eq_div] at h3
  intro hlt
  have := (rv_lt (r := mk c 2) (s := X) h2 (by omega)).2 hlt
  rw [h3] at this
  have e2 : ((2 : Int) : Rat) = 2 := by rfl
  rw [e2] at this
  grind
theorem gapX_apart {c sh t : Int} {la lb : List St} {X : Rt} (hk : GapOk c sh la lb) (h : GapX c sh la lb X) {x y : St} (hx : x ∈ la) (hy : y ∈ lb) (ht : 0 ≤ t ∧ t ≤ 2) {N D : Int}
    (hN : N = (y.a.n + (sh + (t - 1) * c) * y.a.d) * x.b.d - x.b.n * y.a.d) (hD : D = y.a.d * x.b.d) (h0 : 0 ≤ (mk N D).n) : ¬ (mk N D).n * X.d < X.n * (mk N D).d := by
  obtain ⟨hc, hs, hla, hlb⟩ := gapOk_iff.1 hk
  have k1 := isD ((hla x hx).sized hc) ((hlb y hy).sized hc) (st_ord (hla x hx)) (st_ord (hlb y hy)) (sh + (t - 1) * c)
  have hle := h.v.2 _ ⟨x, hx, y, hy, t - 1, by omega, by omega, k1⟩
  have h1 := h.d.1
  have h2 := (hla x hx).2.1.1.1; have h3 := (hlb y hy).1.1.1
  have p1 := Int.mul_pos (show 0 < y.a.d by omega) (show 0 < x.b.d by omega)
  rw [← hD] at p1
  have h4 := mk_dpos N p1
  have r1 := rv_ahead (p := x.b) (q := y.a) h2 h3 (sh + (t - 1) * c)
  rw [← hN, ← hD] at r1
  have r2 : rv (mk N D) = rv ⟨N, D⟩ := rv_mk N p1
  have r3 : 0 ≤ rv (mk N D) := by
    rw [show (0 : Rat) = rv ⟨0, 1⟩ by decide +kernel]
    exact (rv_le (by decide) h4).2 (by simp only; omega)
  intro hlt
  have := (rv_lt (r := mk N D) (s := X) h4 (by omega)).2 hlt
  rw [r2, r1] at this r3
  have o1 := st_ord (hla x hx); have o2 := st_ord (hlb y hy)
  obtain ⟨g1, g2, g3, g4⟩ := k1
  grind
theorem gapX_take {c sh : Int} {la lb : List St} {X Z : Rt} {n : Nat} (h : GapX c sh la lb X) (k : GapX c sh (la.take n) lb Z) : ¬ Z.n * X.d < X.n * Z.d := by
  have h1 := h.d.1; have h2 := k.d.1
  obtain ⟨x, hx, y, hy, u, a, b, hd⟩ := k.v.1
  have := h.v.2 _ ⟨x, List.mem_of_mem_take hx, y, hy, u, a, b, hd⟩
  intro hlt
  have := (rv_lt (r := Z) (s := X) (by omega) (by omega)).2 hlt
  grind
theorem gapOk_take {c sh : Int} {la lb : List St} (hk : GapOk c sh la lb) (n : Nat) : GapOk c sh (la.take n) lb := by
  obtain ⟨hc, hs, hla, hlb⟩ := gapOk_iff.1 hk
  exact gapOk_iff.2 ⟨hc, hs, fun s h => hla s (List.mem_of_mem_take h), hlb⟩
theorem sts_take {w : World} {a : Option Addr} {cap : Nat} {l : List St} (h : RSts w (.slice a l.length cap) l) (n : Nat) (hn : n ≤ l.length) : RSts w (.slice a n cap) (l.take n) := by
  obtain ⟨a', c', e, h1, ⟨h2, h3⟩, h4⟩ := h
  simp only [Value.slice.injEq, true_and] at e
  obtain ⟨rfl, rfl⟩ := e
  have hl : (l.take n).length = n := by simp; omega
  refine ⟨a, cap, by rw [hl], by rw [hl]; omega, ⟨h2, by rw [hl]; omega⟩, fun i hi => ?_⟩
  obtain ⟨b, o, e, hr⟩ := h4 i (by rw [hl] at hi; omega)
  refine ⟨b, o, e, ?_⟩
  rw [List.getElem_take]; exact hr

def SomeB (e : Ending) : Prop := ∃ b, e = .returned (.bool b)
set_option maxHeartbeats 4000000 in
set_option maxRecDepth 100000 in
theorem ordered_any (c : Int) (a : Option Addr) (cap : Nat) (l : List St) (w : World) (hr : RSts w (.slice a l.length cap) l) :
    Calls Try.prog 20 #[.int .i64 c, .slice a l.length cap] w fun e w' => SomeB e ∧ w' = w := by
  obtain ⟨a', c', e, h1, ⟨h2, h3⟩, h4⟩ := hr
  simp only [Value.slice.injEq, true_and] at e
  obtain ⟨rfl, rfl⟩ := e
  have HL := Lib.hid h4
  clear h4
  go_enter Try.func20, Try.ntmps20
  go_wp2
  go_loopw [5] (fun i wr => ∃ k : Nat, k ≤ l.length ∧ i = .int .i64 k ∧ wr = w) (fun i _ => l.length - (intOf i).toNat)
  case atStart => exact ⟨0, Nat.zero_le _, rfl, rfl⟩
  case round =>
    obtain ⟨k, hk, rfl, rfl⟩ := hrel
    by_cases hlt : k < l.length
    · obtain ⟨b1, o1, rfl, ⟨q0, q1, q2, q3⟩, -, -⟩ := HL.out k hlt
      have i1 : (0 : Int) ≤ (k : Int) := Int.natCast_nonneg _
      have i2 : (k : Int) < (l.length : Int) := by omega
      generalize l[k] = x at *
      by_cases c1 : x.a.d < 1
      · go_wp2
        go_ret
        exact ⟨⟨_, rfl⟩, rfl⟩
      by_cases c2 : x.b.d < 1
      · go_wp2
        go_ret
        exact ⟨⟨_, rfl⟩, rfl⟩
      by_cases c3 : 1000000 < x.a.d
      · go_wp2
        go_ret
        exact ⟨⟨_, rfl⟩, rfl⟩
      by_cases c4 : 1000000 < x.b.d
      · go_wp2
        go_ret
        exact ⟨⟨_, rfl⟩, rfl⟩
      go_wp2
      go_roundw
      case rel => exact ⟨k + 1, by omega, by go_num, trivial⟩
      case measure => simp [intOf]; omega
    · have hke : k = l.length := by omega
      subst hke
      by_cases c1 : 1 ≤ c
      · go_wp2
        go_ret
        exact ⟨⟨_, rfl⟩, rfl⟩
      · go_wp2
        go_ret
        exact ⟨⟨_, rfl⟩, rfl⟩
end Go.Proofs.Ytnldenjdbgfgmaa
