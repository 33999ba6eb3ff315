/- A lehr in plain numbers: whether it may be, how fast it cools, for how long it is hot, which strain it leaves; no statement is proved here. -/
import Derived.Test.YtaldpalhckdcdaaGreatDoorSMath
namespace Go.Proofs.YtaldpalhckdcdaaGreatDoor
open Go.RowKit Go.PlainAid
set_option linter.unusedVariables false
set_option linter.unusedSimpArgs false
/-- a lehr: its knees (lo: the minute, hi: the temperature) and its factor. -/
structure Lr where
  knees : List Sp
  factor : Int

def RLr (w : World) (v : Value) (l : Lr) : Prop := ∃ v0, v = .agg #[v0, .int .i64 l.factor] ∧ RSps w v0 l.knees ∧ I64 l.factor
theorem RLr.mono {w w' : World} (e : Ext w w') {v : Value} {l : Lr} (h : RLr w v l) : RLr w' v l := by
  obtain ⟨v0, h1, h2, h3⟩ := h
  exact ⟨v0, h1, h2.mono e, h3⟩

def kn (ks : List Sp) (i : Nat) : Sp := ks.getD i ⟨0, 0⟩
theorem kn_eq {ks : List Sp} {i : Nat} (h : i < ks.length) : kn ks i = ks[i] := by
  simp [kn, List.getD, List.getElem?_eq_getElem h]

def kOk (ks : List Sp) (i : Nat) : Bool := (decide (i = 0) || decide ((kn ks (i - 1)).lo < (kn ks i).lo)) && decide ((kn ks i).lo ≤ 2000) && btw (kn ks i).hi 0 10000
theorem kOk_iff {ks : List Sp} {i : Nat} : kOk ks i = true ↔ (i = 0 ∨ (kn ks (i - 1)).lo < (kn ks i).lo) ∧ (kn ks i).lo ≤ 2000 ∧ 0 ≤ (kn ks i).hi ∧ (kn ks i).hi ≤ 10000 := by
  simp [kOk, btw, and_assoc]
def allK (ks : List Sp) : Bool := (List.range ks.length).all (kOk ks)
theorem allK_true {ks : List Sp} : allK ks = true ↔ ∀ i, i < ks.length → kOk ks i = true := by
  simp [allK, List.all_eq_true, List.mem_range]
theorem allK_false {ks : List Sp} {i : Nat} (h : i < ks.length) (hk : kOk ks i = false) : allK ks = false := by
  cases ha : allK ks with
  | false => rfl
  | true => rw [allK_true.1 ha i h] at hk; cases hk
def checkL (l : Lr) : Int :=
  if 24 < l.knees.length then 3 else if l.knees.length < 2 then 1 else if (kn l.knees 0).lo ≠ 0 then 1 else if allK l.knees = false then 1 else if btw l.factor 0 10000 = false then 1 else 0

structure OkLr (l : Lr) : Prop where
  most : l.knees.length ≤ 24
  least : 2 ≤ l.knees.length
  zero : (kn l.knees 0).lo = 0
  knees : ∀ i, i < l.knees.length → kOk l.knees i = true
  factor : 0 ≤ l.factor ∧ l.factor ≤ 10000

theorem okLr_of {l : Lr} (h : checkL l = 0) : OkLr l := by
  unfold checkL at h
  split at h
  · cases h
  split at h
  · cases h
  split at h
  · cases h
  split at h
  · cases h
  split at h
  · cases h
  rename_i h1 h2 h3 h4 h5
  exact ⟨by omega, by omega, by simpa using h3, allK_true.1 (by simpa using h4), btw_true.1 (by simpa using h5)⟩
theorem checkL_of {l : Lr} (h : OkLr l) : checkL l = 0 := by
  unfold checkL
  have h1 := h.most
  have h2 := h.least
  rw [if_neg (by omega), if_neg (by omega), if_neg (by simp [h.zero]), if_neg (by rw [allK_true.2 h.knees]; simp), if_neg (by rw [btw_true.2 h.factor]; simp)]
theorem checkL_bd (l : Lr) : 0 ≤ checkL l ∧ checkL l ≤ 3 := by
  unfold checkL
  repeat' split
  all_goals omega

def minP (ks : List Sp) (i : Nat) : Int := (kn ks (i + 1)).lo - (kn ks i).lo
def fallP (ks : List Sp) (i : Nat) : Int := (kn ks i).hi - (kn ks (i + 1)).hi

theorem OkLr.lo0 {l : Lr} (h : OkLr l) : ∀ i, i < l.knees.length → 0 ≤ (kn l.knees i).lo
  | 0, _ => by rw [h.zero]; omega
  | i + 1, hi => by
    have h1 := h.lo0 i (by omega)
    obtain ⟨h2 | h2, -⟩ := kOk_iff.1 (h.knees (i + 1) hi)
    · omega
    · simp only [Nat.add_sub_cancel] at h2; omega

structure PieceOk (ks : List Sp) (i : Nat) : Prop where
  m1 : 1 ≤ minP ks i
  m2 : minP ks i ≤ 2000
  a1 : 0 ≤ (kn ks i).hi
  a2 : (kn ks i).hi ≤ 10000
  b1 : 0 ≤ (kn ks (i + 1)).hi
  b2 : (kn ks (i + 1)).hi ≤ 10000
  c1 : 0 ≤ (kn ks i).lo
  c2 : (kn ks i).lo ≤ 2000
  d1 : 0 ≤ (kn ks (i + 1)).lo
  d2 : (kn ks (i + 1)).lo ≤ 2000
theorem OkLr.piece {l : Lr} (h : OkLr l) {i : Nat} (hi : i + 1 < l.knees.length) : PieceOk l.knees i := by
  have h1 := h.lo0 i (by omega)
  have h2 := h.lo0 (i + 1) hi
  obtain ⟨-, k2, k3, k4⟩ := kOk_iff.1 (h.knees i (by omega))
  obtain ⟨j1 | j1, j2, j3, j4⟩ := kOk_iff.1 (h.knees (i + 1) hi)
  · omega
  simp only [Nat.add_sub_cancel] at j1
  exact ⟨by unfold minP; omega, by unfold minP; omega, k3, k4, j3, j4, h1, k2, h2, j2⟩

def meetP (ks : List Sp) (t : Sp) (i : Nat) : Bool := decide (t.lo ≤ (kn ks i).hi) && decide ((kn ks (i + 1)).hi ≤ t.hi)
def stp (ks : List Sp) (t : Sp) (i : Nat) (q : Int × Int) : Int × Int := if meetP ks t i = true ∧ q.1 * minP ks i < fallP ks i * q.2 then (fallP ks i, minP ks i) else q
def mostK (ks : List Sp) (t : Sp) : Nat → Int × Int
  | 0 => (0, 1)
  | k + 1 => stp ks t k (mostK ks t k)

structure QOk (q : Int × Int) : Prop where
  n1 : 0 ≤ q.1
  n2 : q.1 ≤ 10000
  d1 : 1 ≤ q.2
  d2 : q.2 ≤ 2000
theorem fall_pos {q : Int × Int} {f m : Int} (hq : QOk q) (hm : 1 ≤ m) (h : q.1 * m < f * q.2) : 0 < f := by
  have h1 : 0 ≤ q.1 * m := Int.mul_nonneg hq.n1 (by omega)
  have h2 : 0 < f * q.2 := by omega
  exact Int.pos_of_mul_pos_left h2 (by have := hq.d1; omega)
theorem stp_ok {ks : List Sp} {t : Sp} {i : Nat} {q : Int × Int} (hq : QOk q) (hp : PieceOk ks i) : QOk (stp ks t i q) := by
  unfold stp
  split
  · rename_i h
    have h1 := fall_pos hq hp.m1 h.2
    have h2 := hp.a2
    have h3 := hp.b1
    exact ⟨by simp only; omega, by simp only [fallP]; omega, hp.m1, hp.m2⟩
  · exact hq
theorem mostK_ok {l : Lr} (h : OkLr l) (t : Sp) : ∀ k, k + 1 ≤ l.knees.length → QOk (mostK l.knees t k)
  | 0, _ => ⟨by simp [mostK], by simp [mostK], by simp [mostK], by simp [mostK]⟩
  | k + 1, hk => stp_ok (mostK_ok h t k (by omega)) (h.piece hk)

/-- lowest terms. -/
def gq (q : Int × Int) : Int := ((Nat.gcd q.1.toNat q.2.toNat : Nat) : Int)
def lowQ (q : Int × Int) : Int × Int := (q.1 / gq q, q.2 / gq q)
structure LowQ (q : Int × Int) : Prop where
  g1 : 1 ≤ gq q
  num : gq q * (lowQ q).1 = q.1
  den : gq q * (lowQ q).2 = q.2
  n1 : 0 ≤ (lowQ q).1
  n2 : (lowQ q).1 ≤ q.1
  d1 : 1 ≤ (lowQ q).2
  d2 : (lowQ q).2 ≤ q.2
theorem lowQ_ok {q : Int × Int} (h1 : 0 ≤ q.1) (h2 : 1 ≤ q.2) : LowQ q := by
  have hg : 1 ≤ gq q := by
    have : 0 < Nat.gcd q.1.toNat q.2.toNat := Nat.gcd_pos_of_pos_right _ (by omega)
    unfold gq; omega
  have e1 : gq q ∣ q.1 := by
    have := Int.natCast_dvd_natCast.2 (Nat.gcd_dvd_left q.1.toNat q.2.toNat)
    rwa [Int.toNat_of_nonneg h1] at this
  have e2 : gq q ∣ q.2 := by
    have := Int.natCast_dvd_natCast.2 (Nat.gcd_dvd_right q.1.toNat q.2.toNat)
    rwa [Int.toNat_of_nonneg (show 0 ≤ q.2 by omega)] at this
  have n := Int.mul_ediv_cancel' e1
  have d := Int.mul_ediv_cancel' e2
  have hd : 1 ≤ q.2 / gq q := by
    rcases Int.lt_or_le (q.2 / gq q) 1 with h | h
    · have : gq q * (q.2 / gq q) ≤ gq q * 0 := Int.mul_le_mul_of_nonneg_left (by omega) (by omega)
      omega
    · exact h
  exact ⟨hg, n, d, Int.ediv_nonneg h1 (by omega), Int.ediv_le_self _ h1, hd, Int.ediv_le_self _ (by omega)⟩
theorem lowQ_q {q : Int × Int} (h : QOk q) : LowQ q := lowQ_ok h.n1 h.d1
/-- comparing with the lowest terms is the same. -/
theorem low_lt {q : Int × Int} (h : LowQ q) (m f : Int) : (lowQ q).1 * m < f * (lowQ q).2 ↔ q.1 * m < f * q.2 := by
  have e1 : q.1 * m = gq q * ((lowQ q).1 * m) := by rw [← Int.mul_assoc, h.num]
  have e2 : f * q.2 = gq q * (f * (lowQ q).2) := by rw [← Int.mul_assoc, Int.mul_comm (gq q) f, Int.mul_assoc, h.den]
  rw [e1, e2]
  have hg := h.g1
  exact ⟨fun x => Int.mul_lt_mul_of_pos_left x (by omega), fun x => Int.lt_of_mul_lt_mul_left x (by omega)⟩
theorem stp_skip {ks : List Sp} {t : Sp} {i : Nat} {q : Int × Int} (hq : QOk q) (hp : PieceOk ks i) (h : (kn ks i).hi ≤ (kn ks (i + 1)).hi ∨ t.hi < (kn ks (i + 1)).hi ∨ (kn ks i).hi < t.lo) : stp ks t i q = q := by
  unfold stp
  rw [if_neg]
  rintro ⟨h1, h2⟩
  have h3 := fall_pos hq hp.m1 h2
  simp only [meetP, Bool.and_eq_true, decide_eq_true_eq] at h1
  unfold fallP at h3
  omega

/-- a step of the way to the greatest common divisor. -/
theorem euc_step {a b : Int} (ha : 0 ≤ a ∧ a ≤ 9223372036854775807) (hb : 1 ≤ b ∧ b ≤ 9223372036854775807) : wrap64 (a.tmod b) = a % b ∧ 0 ≤ a % b ∧ a % b < b ∧ Nat.gcd b.toNat (a % b).toNat = Nat.gcd a.toNat b.toNat := by
  have e1 := Int.emod_nonneg a (show b ≠ 0 by omega)
  have e2 := Int.emod_lt_of_pos a (show 0 < b by omega)
  refine ⟨?_, e1, e2, ?_⟩
  · rw [Int.tmod_eq_emod_of_nonneg ha.1]
    exact wrap_id _ (by unfold I64; omega)
  · obtain ⟨x, rfl⟩ := Int.eq_ofNat_of_zero_le ha.1
    obtain ⟨y, rfl⟩ := Int.eq_ofNat_of_zero_le (show 0 ≤ b by omega)
    rw [show ((x : Int) % (y : Int)).toNat = x % y by rw [← Int.natCast_emod]; exact Int.toNat_natCast _, Int.toNat_natCast, Int.toNat_natCast, Nat.gcd_comm y, ← Nat.gcd_rec, Nat.gcd_comm]
theorem euc_end {a : Int} {g : Nat} (ha : 0 ≤ a) (h : Nat.gcd a.toNat (0 : Int).toNat = g) : a = (g : Int) := by
  rw [show (0 : Int).toNat = 0 from rfl, Nat.gcd_zero_right] at h
  omega

def heldP (ks : List Sp) (temp : Int) (i : Nat) : Int :=
  if temp ≤ min (kn ks i).hi (kn ks (i + 1)).hi then minP ks i else if max (kn ks i).hi (kn ks (i + 1)).hi < temp then 0
  else minP ks i * (max (kn ks i).hi (kn ks (i + 1)).hi - temp) / (max (kn ks i).hi (kn ks (i + 1)).hi - min (kn ks i).hi (kn ks (i + 1)).hi)
def heldK (ks : List Sp) (temp : Int) : Nat → Int
  | 0 => 0
  | k + 1 => heldK ks temp k + heldP ks temp k
theorem div_between {m x y : Int} (hm : 0 ≤ m) (hx : 0 ≤ x) (hy : 0 < y) (hxy : x ≤ y) : 0 ≤ m * x / y ∧ m * x / y ≤ m := by
  refine ⟨Int.ediv_nonneg (Int.mul_nonneg hm hx) (by omega), ?_⟩
  have h1 : m * x ≤ m * y := Int.mul_le_mul_of_nonneg_left hxy hm
  have h2 := Int.ediv_le_ediv hy h1
  rwa [Int.mul_ediv_cancel _ (by omega)] at h2
theorem heldP_bd {ks : List Sp} {temp : Int} {i : Nat} (hp : PieceOk ks i) : 0 ≤ heldP ks temp i ∧ heldP ks temp i ≤ minP ks i := by
  have hm := hp.m1
  unfold heldP
  split
  · omega
  split
  · omega
  rename_i h1 h2
  exact div_between (by omega) (by omega) (by omega) (by omega)
theorem heldK_bd {l : Lr} (h : OkLr l) (temp : Int) : ∀ k : Nat, k + 1 ≤ l.knees.length → 0 ≤ heldK l.knees temp k ∧ heldK l.knees temp k ≤ 2000 * (k : Int)
  | 0, _ => by simp [heldK]
  | k + 1, hk => by
    have h1 := heldK_bd h temp k (by omega)
    have h2 := heldP_bd (temp := temp) (h.piece hk)
    have h3 := (h.piece hk).m2
    simp only [heldK]
    push_cast
    omega

/-- the strain that a rate leaves. -/
def strQ (f : Int) (q : Int × Int) (th : Int) : Int := (f * q.1 * th * th + 1000000 * q.2 - 1) / (1000000 * q.2)
theorem up_scale {g A B : Int} (hg : 1 ≤ g) (hB : 1 ≤ B) : (g * A + g * B - 1) / (g * B) = (A + B - 1) / B := by
  have hgB : 0 < g * B := Int.mul_pos (by omega) (by omega)
  have h1 := Int.mul_ediv_self_le (x := A + B - 1) (k := B) (by omega)
  have h2 := Int.lt_mul_ediv_self_add (x := A + B - 1) (k := B) (by omega)
  generalize (A + B - 1) / B = u at *
  have h3 : g * (B * u) ≤ g * (A + B - 1) := Int.mul_le_mul_of_nonneg_left h1 (by omega)
  have h4 : g * (A + B) ≤ g * (B * u + B) := Int.mul_le_mul_of_nonneg_left (by omega) (by omega)
  rw [Int.mul_sub, Int.mul_add, Int.mul_one] at h3
  rw [Int.mul_add, Int.mul_add] at h4
  have e1 : u * (g * B) = g * (B * u) := by rw [Int.mul_comm u, Int.mul_assoc]
  apply Int.le_antisymm
  · refine Int.le_of_lt_add_one ((Int.ediv_lt_iff_lt_mul hgB).2 ?_)
    rw [Int.add_mul, e1, Int.one_mul]
    omega
  · refine (Int.le_ediv_iff_mul_le hgB).2 ?_
    rw [e1]
    omega
theorem strQ_low {q : Int × Int} (h : LowQ q) (f th : Int) : strQ f (lowQ q) th = strQ f q th := by
  unfold strQ
  have e1 : f * q.1 * th * th = gq q * (f * (lowQ q).1 * th * th) := by
    rw [← h.num]
    simp only [Int.mul_assoc, Int.mul_left_comm, Int.mul_comm]
  have e2 : 1000000 * q.2 = gq q * (1000000 * (lowQ q).2) := by
    rw [← h.den]
    simp only [Int.mul_assoc, Int.mul_left_comm, Int.mul_comm]
  have hd := h.d1
  rw [e1, e2, up_scale h.g1 (show 1 ≤ 1000000 * (lowQ q).2 by omega)]
theorem strQ_bd {f th : Int} {q : Int × Int} (hq : QOk q) (hf : 0 ≤ f ∧ f ≤ 10000) (ht : 1 ≤ th ∧ th ≤ 2000) :
    (0 ≤ f * q.1 ∧ f * q.1 ≤ 100000000) ∧ (0 ≤ f * q.1 * th ∧ f * q.1 * th ≤ 200000000000) ∧ (0 ≤ f * q.1 * th * th ∧ f * q.1 * th * th ≤ 400000000000000) ∧ 0 ≤ strQ f q th := by
  have a1 := mulB (a := f) (A := 10000) (b := q.1) (B := 10000) hf ⟨hq.n1, hq.n2⟩
  have a2 := mulB (a := f * q.1) (A := 100000000) (b := th) (B := 2000) (by omega) (by omega)
  have a3 := mulB (a := f * q.1 * th) (A := 200000000000) (b := th) (B := 2000) (by omega) (by omega)
  have hd := hq.d1
  exact ⟨by omega, by omega, by omega, Int.ediv_nonneg (by omega) (by omega)⟩
/-- a lesser rate leaves no more strain. -/
theorem strQ_mono {f th : Int} {q p : Int × Int} (hq : QOk q) (hp : QOk p) (hf : 0 ≤ f) (h : q.1 * p.2 ≤ p.1 * q.2) : strQ f q th ≤ strQ f p th := by
  have hd := hq.d1
  have he := hp.d1
  have h2 := Int.lt_mul_ediv_self_add (x := f * p.1 * th * th + 1000000 * p.2 - 1) (k := 1000000 * p.2) (by omega)
  unfold strQ
  generalize (f * p.1 * th * th + 1000000 * p.2 - 1) / (1000000 * p.2) = u at *
  have h3 : f * p.1 * th * th ≤ 1000000 * p.2 * u := by omega
  have e : 0 ≤ f * (th * th) := by
    rcases Int.le_total 0 th with h | h
    · exact Int.mul_nonneg hf (Int.mul_nonneg h h)
    · exact Int.mul_nonneg hf (Int.mul_nonneg_of_nonpos_of_nonpos h h)
  have h4 : f * (th * th) * (q.1 * p.2) ≤ f * (th * th) * (p.1 * q.2) := Int.mul_le_mul_of_nonneg_left h e
  have h5 : f * p.1 * th * th * q.2 ≤ 1000000 * p.2 * u * q.2 := Int.mul_le_mul_of_nonneg_right h3 (by omega)
  have e1 : f * (th * th) * (q.1 * p.2) = (f * q.1 * th * th) * p.2 := by simp only [Int.mul_assoc, Int.mul_left_comm, Int.mul_comm]
  have e2 : f * (th * th) * (p.1 * q.2) = f * p.1 * th * th * q.2 := by simp only [Int.mul_assoc, Int.mul_left_comm, Int.mul_comm]
  have e3 : 1000000 * p.2 * u * q.2 = (1000000 * q.2 * u) * p.2 := by simp only [Int.mul_assoc, Int.mul_left_comm, Int.mul_comm]
  have h6 : f * q.1 * th * th ≤ 1000000 * q.2 * u := Int.le_of_mul_le_mul_right (by rw [← e1, ← e3]; exact Int.le_trans h4 (by rw [e2]; exact h5)) (show 0 < p.2 by omega)
  refine Int.le_of_lt_add_one ((Int.ediv_lt_iff_lt_mul (by omega)).2 ?_)
  rw [Int.add_mul, Int.one_mul, Int.mul_comm u]
  omega

/-- what is told of a lehr. -/
def steepL (l : Lr) (t : Sp) : Int × Int := mostK l.knees t (l.knees.length - 1)
def heldL (l : Lr) (temp : Int) : Int := heldK l.knees temp (l.knees.length - 1)
def strainL (l : Lr) (t : Sp) (th : Int) : Int := strQ l.factor (steepL l t) th
theorem steepL_ok {l : Lr} (h : OkLr l) (t : Sp) : QOk (steepL l t) := mostK_ok h t _ (by have := h.least; omega)
def tempsE (l : Lr) (t : Sp) : Int := if checkL l = 0 then if wi t 0 10000 = true then 0 else 1 else checkL l
def steepS (l : Lr) (t : Sp) : (Int × Int) × Int := if tempsE l t = 0 then (lowQ (steepL l t), 0) else ((0, 0), tempsE l t)
def heldE (l : Lr) (temp : Int) : Int := if checkL l = 0 then if btw temp 0 10000 = true then 0 else 1 else checkL l
def heldS (l : Lr) (temp : Int) : Int × Int := if heldE l temp = 0 then (heldL l temp, 0) else (0, heldE l temp)
def strainE (l : Lr) (t : Sp) (th : Int) : Int := if tempsE l t = 0 then if btw th 1 2000 = true then 0 else 1 else tempsE l t
def strainS (l : Lr) (t : Sp) (th : Int) : Int × Int := if strainE l t th = 0 then (strainL l t th, 0) else (0, strainE l t th)

end Go.Proofs.YtaldpalhckdcdaaGreatDoor
