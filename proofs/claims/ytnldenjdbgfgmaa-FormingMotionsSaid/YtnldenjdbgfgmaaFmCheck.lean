/- Whether a path may be; no statement is proved here. -/
import Derived.Test.YtnldenjdbgfgmaaFmSmall
namespace Go.Proofs.Ytnldenjdbgfgmaa
open Go.RowKit Go.PlainAid
set_option linter.unusedVariables false
set_option linter.unusedSimpArgs false

def kt (l : List Sp) (i : Nat) : Sp := l.getD i ⟨0, 0⟩
theorem kt_eq {l : List Sp} {i : Nat} (h : i < l.length) : l[i]'h = kt l i := by unfold kt; rw [List.getD_eq_getElem?_getD, List.getElem?_eq_getElem h]; rfl
/-- a knot that may be. -/
def KnotOk (c : Int) (l : List Sp) (i : Nat) : Prop := (0 ≤ (kt l i).hi ∧ (kt l i).hi ≤ 1000000) ∧ (i = 0 → (kt l i).lo = 0) ∧ (0 < i → (kt l (i - 1)).lo < (kt l i).lo) ∧ (kt l i).lo < c
instance (c : Int) (l : List Sp) (i : Nat) : Decidable (KnotOk c l i) := by unfold KnotOk; infer_instance
/-- the error of a motion. -/
def chkM (c h : Int) (l : List Sp) : Int := if ¬ ((1 ≤ c ∧ c ≤ 3600) ∧ (0 ≤ h ∧ h ≤ 1000000)) then 1 else if 16 < l.length then 3 else if ∀ i, i < l.length → KnotOk c l i then 0 else 1
theorem chkM_c {c h : Int} {l : List Sp} (hc : ¬ (1 ≤ c ∧ c ≤ 3600)) : chkM c h l = 1 := by unfold chkM; exact if_pos (fun x => hc x.1)
theorem chkM_h {c h : Int} {l : List Sp} (hc : ¬ (0 ≤ h ∧ h ≤ 1000000)) : chkM c h l = 1 := by unfold chkM; exact if_pos (fun x => hc x.2)
theorem chkM_n {c h : Int} {l : List Sp} (hc : 1 ≤ c ∧ c ≤ 3600) (hh : 0 ≤ h ∧ h ≤ 1000000) (hn : 16 < l.length) : chkM c h l = 3 := by unfold chkM; rw [if_neg (fun x => x ⟨hc, hh⟩), if_pos hn]
theorem chkM_i {c h : Int} {l : List Sp} (hc : 1 ≤ c ∧ c ≤ 3600) (hh : 0 ≤ h ∧ h ≤ 1000000) (hn : ¬ 16 < l.length) : chkM c h l = if ∀ i, i < l.length → KnotOk c l i then 0 else 1 := by unfold chkM; rw [if_neg (fun x => x ⟨hc, hh⟩), if_neg hn]
/-- what a motion without an error is. -/
theorem chkM_zero {c h : Int} {l : List Sp} (H : chkM c h l = 0) : (1 ≤ c ∧ c ≤ 3600) ∧ (0 ≤ h ∧ h ≤ 1000000) ∧ l.length ≤ 16 ∧ ∀ i, i < l.length → KnotOk c l i := by
  by_cases hc : 1 ≤ c ∧ c ≤ 3600
  case neg => rw [chkM_c hc] at H; omega
  by_cases hh : 0 ≤ h ∧ h ≤ 1000000
  case neg => rw [chkM_h hh] at H; omega
  by_cases hn : 16 < l.length
  case pos => rw [chkM_n hc hh hn] at H; omega
  rw [chkM_i hc hh hn] at H
  by_cases hi : ∀ i, i < l.length → KnotOk c l i
  · exact ⟨hc, hh, by omega, hi⟩
  · rw [if_neg hi] at H; omega
def leastM (l : List Sp) (k : Nat) : Int := if k = 0 then 0 else (kt l (k - 1)).lo + 1
def ptV (c h : Int) (v : Value) : Value := .agg #[.int .i64 c, .int .i64 h, v]

set_option maxHeartbeats 2000000 in
set_option maxRecDepth 100000 in
theorem check_any (c h : Int) (a : Option Addr) (cap : Nat) (l : List Sp) (w : World) (hr : RSps w (.slice a l.length cap) l) :
    Calls Try.prog 24 #[ptV c h (.slice a l.length cap)] w fun e w' => e = .returned (.int .i64 (chkM c h l)) ∧ Below w.heap.size w w' := by
  have hA := below_box w (.cells #[.int .i64 c, .int .i64 h, .slice a l.length cap] 55)
  have hq := Blk.new w #[.int .i64 c, .int .i64 h, .slice a l.length cap] 55
  have q0 := hq.cell 0 _ rfl
  have q1 := hq.cell 1 _ rfl
  have q2 := hq.cell 2 _ rfl
  obtain ⟨R, hR⟩ : ∃ R, chkM c h l = R := ⟨_, rfl⟩
  rw [hR]
  have hlq := hq.lt
  have HQ := Lib.hid hq
  have HA := Lib.hid hA
  clear hq hA
  unfold ptV
  go_enter Try.func24, Try.ntmps24
  go_wp2_with fail
  refine (isCycle_any c _).mono ?_
  rintro e w' ⟨rfl, hw'⟩
  subst hw'
  by_cases hc : 1 ≤ c ∧ c ≤ 3600
  case neg =>
    have g1 : btw c 1 3600 = false := by simp [btw]; omega
    rw [g1]
    have hR1 : 1 = R := by rw [← hR, chkM_c hc]
    go_wp2
    go_ret
    exact ⟨ret_int hR1, HA.out⟩
  have g1 : btw c 1 3600 = true := by simp [btw]; omega
  rw [g1]
  go_wp2_with fail
  refine (isPlace_any h _).mono ?_
  rintro e w' ⟨rfl, hw'⟩
  subst hw'
  by_cases hh : 0 ≤ h ∧ h ≤ 1000000
  case neg =>
    have g2 : btw h 0 1000000 = false := by simp [btw]; omega
    rw [g2]
    have hR1 : 1 = R := by rw [← hR, chkM_h hh]
    go_wp2
    go_ret
    exact ⟨ret_int hR1, HA.out⟩
  have g2 : btw h 0 1000000 = true := by simp [btw]; omega
  rw [g2]
  by_cases hn : 16 < l.length
  case pos =>
    have hn' : (16 : Int) < (l.length : Int) := by omega
    have hR1 : 3 = R := by rw [← hR, chkM_n hc hh hn]
    go_wp2
    go_ret
    exact ⟨ret_int hR1, HA.out⟩
  have hn' : ¬ (16 : Int) < (l.length : Int) := by omega
  have hR1 : (if ∀ i, i < l.length → KnotOk c l i then 0 else 1) = R := by rw [← hR, chkM_i hc hh hn]
  have HR := Lib.hid hR1
  have zc := wrap_id (c - 1) (by unfold I64; omega)
  clear hR hR1 g1 g2
  obtain ⟨aa, cap', he, -, -, hl⟩ := hr
  simp only [Value.slice.injEq, true_and] at he
  obtain ⟨rfl, rfl⟩ := he
  have hsz : (w.alloc (.cells #[.int .i64 c, .int .i64 h, .slice a l.length cap] 55)).heap.size = w.heap.size + 1 := by simp
  have HL : Hid (∀ i (hi : i < l.length), ∃ b off, a = some ⟨b, off, none⟩ ∧ RSp (w.alloc (.cells #[.int .i64 c, .int .i64 h, .slice a l.length cap] 55)) ⟨b, off + i * 2, none⟩ (kt l i)) := Lib.hid (fun i hi => by
    obtain ⟨b, off, h1, h2⟩ := hl i hi
    rw [kt_eq hi] at h2
    exact ⟨b, off, h1, h2.mono (ext_of_below HA.out)⟩)
  clear hl
  go_wp2
  have h2w := HA.out
  generalize w.alloc (.cells #[.int .i64 c, .int .i64 h, .slice a l.length cap] 55) = w2 at *
  go_loopw [3, 23] (fun m i wr => ∃ (k : Nat), k ≤ l.length ∧ i = .int .i64 k ∧ m = .int .i64 (leastM l k) ∧ (∀ j, j < k → KnotOk c l j) ∧ Below w2.heap.size w2 wr) (fun _ i _ => l.length - (intOf i).toNat)
  case atStart => exact ⟨0, Nat.zero_le _, rfl, rfl, fun j hj => absurd hj (by omega), Below.refl _ _⟩
  case round =>
    obtain ⟨k, hk, rfl, rfl, hall, hB⟩ := hrel
    by_cases hlt : k < l.length
    · obtain ⟨b1, o1, rfl, y0, y1, i0, i1⟩ := HL.out k hlt
      have e2 := ext_of_below hB
      have x0 := e2 _ _ y0
      have x1 := e2 _ _ y1
      have hqk := HQ.out.below hB HQ.out.lt
      have p0 := hqk.cell 0 _ rfl
      have p1 := hqk.cell 1 _ rfl
      have p2 := hqk.cell 2 _ rfl
      have l1 := cell_lt y0
      simp only at l1
      have j1 : (0 : Int) ≤ (k : Int) := Int.natCast_nonneg _
      have j2 : (k : Int) < (l.length : Int) := by omega
      have HKO := Lib.hid (fun hx : ¬ KnotOk c l k => show (1 : Int) = R by rw [← HR.out, if_neg (fun x => hx (x k hlt))])
      have HKd : Hid (KnotOk c l k ↔ ((0 ≤ (kt l k).hi ∧ (kt l k).hi ≤ 1000000) ∧ (k = 0 → (kt l k).lo = 0) ∧ (0 < k → (kt l (k - 1)).lo < (kt l k).lo) ∧ (kt l k).lo < c)) := Lib.hid Iff.rfl
      have HLS : Hid (leastM l k = if k = 0 then 0 else (kt l (k - 1)).lo + 1) := Lib.hid rfl
      have HLS2 : Hid (leastM l (k + 1) = (kt l k).lo + 1) := Lib.hid rfl
      have hX := Blk.new wr #[.int .i64 (kt l k).lo, .int .i64 (kt l k).hi] 47
      have hBx : Below w2.heap.size w2 (wr.alloc (.cells #[.int .i64 (kt l k).lo, .int .i64 (kt l k).hi] 47)) := hB.alloc hB.size _
      have hqx := hqk.alloc (.cells #[.int .i64 (kt l k).lo, .int .i64 (kt l k).hi] 47)
      generalize hx : kt l k = x at *
      generalize hm : leastM l k = m at *
      have v0 := hX.cell 0 _ rfl
      have v1 := hX.cell 1 _ rfl
      have u0 := hqx.cell 0 _ rfl
      clear e2 y0 y1
      go_wp2_with fail
      refine (isPlace_any x.hi _).mono ?_
      rintro e w' ⟨rfl, hw'⟩
      subst hw'
      by_cases hp : 0 ≤ x.hi ∧ x.hi ≤ 1000000
      case neg =>
        have g2 : btw x.hi 0 1000000 = false := by simp [btw]; omega
        rw [g2]
        have hR1 : 1 = R := HKO.out (fun h => hp (HKd.out.1 h).1)
        have HE := Lib.hid (h2w.trans (hBx.mono h2w.size))
        go_wp2
        go_ret
        exact ⟨ret_int hR1, HE.out⟩
      have g2 : btw x.hi 0 1000000 = true := by simp [btw]; omega
      rw [g2]
      go_wp2_with fail
      refine (between_any x.lo m (c - 1) _).mono ?_
      rintro e w' ⟨rfl, hw'⟩
      subst hw'
      by_cases hp2 : m ≤ x.lo ∧ x.lo ≤ c - 1
      case neg =>
        have g3 : btw x.lo m (c - 1) = false := by simp [btw]; omega
        rw [g3]
        have hR1 : 1 = R := HKO.out (fun h => by
          obtain ⟨h1, h2, h3, h4⟩ := HKd.out.1 h
          have hls := HLS.out
          apply hp2
          by_cases hk0 : k = 0
          · have := h2 hk0; rw [if_pos hk0] at hls; omega
          · have := h3 (by omega); rw [if_neg hk0] at hls; omega)
        have HE := Lib.hid (h2w.trans (hBx.mono h2w.size))
        go_wp2
        go_ret
        exact ⟨ret_int hR1, HE.out⟩
      have g3 : btw x.lo m (c - 1) = true := by simp [btw]; omega
      rw [g3]
      have zx := wrap_id (x.lo + 1) (by have hi := i0; unfold I64 at hi ⊢; omega)
      by_cases hk0 : k = 0
      · subst hk0
        by_cases hx0 : x.lo = 0
        · have HK0 : Hid (KnotOk c l 0) := Lib.hid (HKd.out.2 ⟨hp, fun _ => hx0, fun h => absurd h (by omega), by omega⟩)
          have HB := Lib.hid hBx
          clear hall hBx hX hqx hqk hB g2 g3 hp2
          go_wp2
          go_roundw
          case rel => exact ⟨1, by omega, by go_num, congrArg (Value.int .i64) (by rw [HLS2.out]; omega), fun j hj => by obtain rfl : j = 0 := (by omega); exact HK0.out, by have := HB.out; rw [hx0] at this; exact this⟩
          case measure => simp [intOf]; omega
        · have hR1 : 1 = R := HKO.out (fun h => hx0 ((HKd.out.1 h).2.1 rfl))
          have HE := Lib.hid (h2w.trans (hBx.mono h2w.size))
          clear hall hBx hX hqx hqk hB
          go_wp2
          go_ret
          exact ⟨ret_int hR1, HE.out⟩
      · have hk1 : ¬ (k : Int) = 0 := by omega
        have HK0 : Hid (KnotOk c l k) := Lib.hid (HKd.out.2 ⟨hp, fun h => absurd h hk0, fun _ => by have hls := HLS.out; rw [if_neg hk0] at hls; omega, by omega⟩)
        have HB := Lib.hid hBx
        have HALL := Lib.hid hall
        clear hall hBx hX hqx hqk hB g2 g3 hp2
        go_wp2
        go_roundw
        case rel => exact ⟨k + 1, by omega, by go_num, congrArg (Value.int .i64) (by rw [HLS2.out]; exact zx), fun j hj => by
          by_cases hjk : j = k
          · subst hjk; exact HK0.out
          · exact HALL.out j (by omega), HB.out⟩
        case measure => simp [intOf]; omega
    · have hke : k = l.length := by omega
      have hR1 : 0 = R := by rw [← HR.out, if_pos (fun i hi => hall i (by omega))]
      have HE := Lib.hid (h2w.trans (hB.mono h2w.size))
      clear hall hB
      subst hke
      go_wp2
      go_ret
      exact ⟨ret_int hR1, HE.out⟩
end Go.Proofs.Ytnldenjdbgfgmaa
