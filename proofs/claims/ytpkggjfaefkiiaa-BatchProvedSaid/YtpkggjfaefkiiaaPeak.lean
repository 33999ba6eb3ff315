/- peak, by its contract; what raising two weights makes of a proof: the mathematics; no statement is proved here. -/
import Derived.Test.YtpkggjfaefkiiaaProv3
import Derived.Test.YtpkggjfaefkiiaaFind
namespace Go.Proofs.Ytpkggjfaefkiiaa
open Go.RowKit Go.PlainAid
set_option linter.unusedVariables false

def pk (g : Int → Int) : Nat → Int → Int → Int
  | 0, lo, _ => lo
  | n + 1, lo, hi => if lo < hi then (if g ((lo + hi) / 2) ≤ g ((lo + hi) / 2 + 1) then pk g n ((lo + hi) / 2 + 1) hi else pk g n lo ((lo + hi) / 2)) else lo
def pkAt (g : Int → Int) : Int := pk g 1001 0 1000
theorem pk_bd (g : Int → Int) : ∀ (n : Nat) (lo hi : Int), lo ≤ hi → lo ≤ pk g n lo hi ∧ pk g n lo hi ≤ hi := by
  intro n
  induction n with
  | zero => intro lo hi h; exact ⟨Int.le_refl _, h⟩
  | succ n ih =>
    intro lo hi h
    unfold pk
    split
    · split
      · have := ih ((lo + hi) / 2 + 1) hi (by omega); omega
      · have := ih lo ((lo + hi) / 2) (by omega); omega
    · omega
theorem pkAt_bd (g : Int → Int) : 0 ≤ pkAt g ∧ pkAt g ≤ 1000 := pk_bd g 1001 0 1000 (by omega)

def PkIs (w : World) (g : Int → Int) (e : Ending) (w' : World) : Prop := e = .returned (.tuple #[.int .i64 (pkAt g), .int .i64 (g (pkAt g))]) ∧ Below w.heap.size w w'

set_option maxRecDepth 100000 in
theorem peak_any (f : Nat) (hF : IsFn f) (cap : Array Value) (g : Int → Int) (w : World)
    (hf : ∀ x w1, 0 ≤ x → x ≤ 1000 → Below w.heap.size w w1 → Calls Try.prog f (#[.int .i64 x] ++ cap) w1 fun e w2 => e = .returned (.int .i64 (g x)) ∧ Below w1.heap.size w1 w2) :
    Calls Try.prog 139 #[.func (.func f) #[] cap] w (PkIs w g) := by
  go_enter Try.func139, Try.ntmps139
  go_wp2
  go_loopw [4, 5] (fun lv hv wr => ∃ (n : Nat) (lo hi : Int), lv = .int .i64 lo ∧ hv = .int .i64 hi ∧ 0 ≤ lo ∧ lo ≤ hi ∧ hi ≤ 1000 ∧ hi - lo < n ∧ Hid (pk g n lo hi = pkAt g) ∧ Below w.heap.size w wr) (fun lv hv _ => (intOf hv - intOf lv).toNat)
  case atStart => exact ⟨1001, 0, 1000, rfl, rfl, by omega, by omega, by omega, by omega, rfl, Below.refl _ _⟩
  case round =>
    obtain ⟨n, lo, hi, rfl, rfl, h0, h1, h2, h3, hpk, hb⟩ := hrel
    unfold IsFn at hF
    by_cases hlt : lo < hi
    · obtain ⟨n, rfl⟩ : ∃ k, n = k + 1 := ⟨n - 1, by omega⟩
      have hst : pk g (n + 1) lo hi = if g ((lo + hi) / 2) ≤ g ((lo + hi) / 2 + 1) then pk g n ((lo + hi) / 2 + 1) hi else pk g n lo ((lo + hi) / 2) := by
        rw [pk, if_pos hlt]
      have HST := Lib.hid hst
      clear hst
      have m1 : lo ≤ (lo + hi) / 2 := by omega
      have m2 : (lo + hi) / 2 + 1 ≤ hi := by omega
      have m0 : 0 ≤ lo + hi := by omega
      have f1 := fun V e => hf ((lo + hi) / 2 + 1) V (by omega) (by omega) e
      have f2 := fun V e => hf ((lo + hi) / 2) V (by omega) (by omega) e
      clear hf
      go_wp2_with fail
      refine (f1 _ hb).mono ?_
      rintro e w1 ⟨rfl, hb1⟩
      have hB1 := hb.trans (hb1.mono hb.size)
      go_wp2_with fail
      refine (f2 _ hB1).mono ?_
      rintro e w2 ⟨rfl, hb2⟩
      have hB2 := hB1.trans (hb2.mono hB1.size)
      clear f1 f2 hb hb1 hb2 hB1
      by_cases hc : g ((lo + hi) / 2) ≤ g ((lo + hi) / 2 + 1)
      · have HP : Hid (pk g n ((lo + hi) / 2 + 1) hi = pkAt g) := by
          have := hpk.out
          rw [HST.out, if_pos hc] at this
          exact this
        clear hpk HST
        generalize hmid : (lo + hi) / 2 = mid at *
        have HMID := Lib.hid hmid
        clear hmid
        go_wp2
        go_roundw
        case rel => exact ⟨n, _, _, rfl, rfl, by omega, by omega, by omega, by omega, HP, hB2⟩
        case measure => simp [intOf]; omega
      · have HP : Hid (pk g n lo ((lo + hi) / 2) = pkAt g) := by
          have := hpk.out
          rw [HST.out, if_neg hc] at this
          exact this
        have hc' : g ((lo + hi) / 2 + 1) < g ((lo + hi) / 2) := by omega
        clear hpk HST hc
        generalize hmid : (lo + hi) / 2 = mid at *
        have HMID := Lib.hid hmid
        clear hmid
        go_wp2
        go_roundw
        case rel => exact ⟨n, _, _, rfl, rfl, by omega, by omega, by omega, by omega, HP, hB2⟩
        case measure => simp [intOf]; omega
    · obtain rfl : hi = lo := by omega
      obtain ⟨n, rfl⟩ : ∃ k, n = k + 1 := ⟨n - 1, by omega⟩
      have hat : hi = pkAt g := by
        have := hpk.out
        rw [pk, if_neg hlt] at this
        exact this
      have HAT := Lib.hid hat
      have f1 := fun V e => hf hi V (by omega) (by omega) e
      clear hat hpk hf
      go_wp2_with fail
      refine (f1 _ hb).mono ?_
      rintro e w1 ⟨rfl, hb1⟩
      go_wp2
      go_ret2
      exact ⟨by rw [← HAT.out]; rfl, hb.trans (hb1.mono hb.size)⟩

/-- a line that a proof makes, whatever way it was reckoned. -/
structure IsSum (P : List Int) (L : List Ln) (s : Int) (ws : List Int) (l : Ln) : Prop where
  len : l.fs.length = P.length
  at_ : ∀ t, t < P.length → l.fs.getD t 0 = FE P L s ws L.length t
  bound : l.bound = BE L ws L.length

theorem sum_is {P : List Int} {L : List Ln} {s : Int} {ws : List Int} (h : PfOk P L s ws) : IsSum P L s ws (sumT P L s ws L.length) := by
  obtain ⟨h1, h2, h3⟩ := sum_exact h L.length (Nat.le_refl _)
  exact ⟨h1, h2, h3⟩

theorem getD_set (ws : List Int) (i j : Nat) (x : Int) (h : i < ws.length) : (ws.set i x).getD j 0 = if i = j then x else ws.getD j 0 := by
  simp only [List.getD_eq_getElem?_getD, List.getElem?_set]
  by_cases e : i = j
  · subst e; simp [h]
  · simp [e]
theorem FE_set (P : List Int) (L : List Ln) (s : Int) (ws : List Int) (i t : Nat) (x : Int) (h : i < ws.length) : ∀ k, FE P L s (ws.set i x) k t = FE P L s ws k t + if i < k then (x - ws.getD i 0) * (lnAt L i).fs.getD t 0 else 0 := by
  intro k
  induction k with
  | zero => simp [FE]
  | succ k ih =>
    rw [FE_succ, FE_succ, ih, getD_set ws i k x h]
    by_cases e : i = k
    · subst e
      rw [if_neg (Nat.lt_irrefl _), if_pos (Nat.lt_succ_self _), if_pos rfl, Int.sub_mul]
      omega
    · rw [if_neg e]
      by_cases hlt : i < k
      · rw [if_pos hlt, if_pos (by omega)]; omega
      · rw [if_neg hlt, if_neg (by omega)]; omega
theorem BE_set (L : List Ln) (ws : List Int) (i : Nat) (x : Int) (h : i < ws.length) : ∀ k, BE L (ws.set i x) k = BE L ws k + if i < k then (x - ws.getD i 0) * (lnAt L i).bound else 0 := by
  intro k
  induction k with
  | zero => simp [BE]
  | succ k ih =>
    rw [BE_succ, BE_succ, ih, getD_set ws i k x h]
    by_cases e : i = k
    · subst e
      rw [if_neg (Nat.lt_irrefl _), if_pos (Nat.lt_succ_self _), if_pos rfl, Int.sub_mul]
      omega
    · rw [if_neg e]
      by_cases hlt : i < k
      · rw [if_pos hlt, if_pos (by omega)]; omega
      · rw [if_neg hlt, if_neg (by omega)]; omega
theorem PfOk.set {P : List Int} {L : List Ln} {s : Int} {ws : List Int} (h : PfOk P L s ws) (i : Nat) (x : Int) (hx : 0 ≤ x ∧ x ≤ 1000) : PfOk P L s (ws.set i x) :=
  ⟨h.hs, h.hP, fun y hy => by
    rcases List.mem_or_eq_of_mem_set hy with hy | rfl
    · exact h.hw y hy
    · exact hx, by rw [List.length_set, h.len], h.n, h.fs⟩

theorem plus_set {P : List Int} {L : List Ln} {s : Int} {ws : List Int} {l : Ln} (h : PfOk P L s ws) (hl : IsSum P L s ws l) (i : Nat) (hi : i < L.length) (x : Int) (hx : 0 ≤ x ∧ x ≤ 1000) : IsSum P L s (ws.set i x) (plusE l (x - ws.getD i 0) (lnAt L i)) := by
  have h2 := h.set i x hx
  have hiw : i < ws.length := by rw [h.len]; exact hi
  have hw := h.hw _ (getD_mem (d := 0) hiw)
  have hf := h.fs _ (List.getElem_mem hi)
  have hn := h.n
  have hb1 := BE_bd h2 _ (Nat.le_refl _)
  have hb2 := BE_set L ws i x hiw L.length
  rw [if_pos hi] at hb2
  have hm : -(20000000000) ≤ (x - ws.getD i 0) * (lnAt L i).bound ∧ (x - ws.getD i 0) * (lnAt L i).bound ≤ 20000000000 := by
    have h3 := mul_in (A := 1000) (B := 10000000) hx (b := (L[i]).bound) (by omega)
    have h4 := mul_in (A := 1000) (B := 10000000) hw (b := (L[i]).bound) (by omega)
    rw [ln_at hi, Int.sub_mul]
    omega
  refine ⟨?_, fun t ht => ?_, ?_⟩
  · show (zipE l.fs (lnAt L i).fs _).length = _
    rw [zip_len, hl.len]
  · show (zipE l.fs (lnAt L i).fs _).getD t 0 = _
    rw [zip_at _ _ _ _ (by rw [hl.len]; exact ht), hl.at_ t ht, FE_set P L s ws i t x hiw, if_pos hi]
    have f2 := FE_bd h2 ht _ (Nat.le_refl _)
    rw [FE_set P L s ws i t x hiw, if_pos hi] at f2
    have h5 := hf.2.1 _ (getD_mem (d := 0) (show t < (L[i]).fs.length by rw [hf.1]; exact ht))
    have h3 := mul_in (A := 1000) (B := 1240000000) hx h5
    have h4 := mul_in (A := 1000) (B := 1240000000) hw h5
    rw [ln_at hi] at f2 ⊢
    rw [Int.sub_mul] at f2 ⊢
    rw [wrap_id (x * (L[i]).fs.getD t 0 - ws.getD i 0 * (L[i]).fs.getD t 0) (by unfold I64; omega), wrap_id _ (by unfold I64; omega)]
  · show wrap64 (l.bound + wrap64 _) = _
    rw [hl.bound, wrap_id ((x - ws.getD i 0) * (lnAt L i).bound) (by unfold I64; omega), hb2, wrap_id _ (by unfold I64; omega)]

/-- two weights changed. -/
def set2 (ws : List Int) (i j : Nat) (x y : Int) : List Int := (ws.set i x).set j y
theorem set2_back (ws : List Int) (i j : Nat) (x y : Int) (hij : i ≠ j) : (((ws.set i 0).set j 0).set i x).set j y = set2 ws i j x y := by
  unfold set2
  apply List.ext_getElem?
  intro k
  simp only [List.getElem?_set, List.length_set]
  by_cases e1 : j = k
  · subst e1; simp
  · by_cases e2 : i = k
    · subst e2; simp [e1]
    · simp [e1, e2]

end Go.Proofs.Ytpkggjfaefkiiaa
