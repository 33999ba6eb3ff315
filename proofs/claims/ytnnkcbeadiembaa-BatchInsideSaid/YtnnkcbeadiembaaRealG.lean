/- The grams that a delivery really brings: the walk; no statement is proved here. -/
import Derived.Test.YtnnkcbeadiembaaReal
import Derived.Test.YtnnkcbeadiembaaOpenR
import Derived.StillTailTactics
namespace Go.Proofs.Ytnnkcbeadiembaa
open Go.RowKit Go.PlainAid
set_option linter.unusedVariables false

def partP (P : List (List Int)) (k q : Nat) : Int := ((P.getD k []).getD q 0) % 101
theorem partP_bd (P : List (List Int)) (k q : Nat) : 0 ≤ partP P k q ∧ partP P k q ≤ 100 := by
  unfold partP; omega

def RetReal (w : World) (b : Bat) (r : List Int) (P : List (List Int)) (e : Ending) (w' : World) : Prop :=
  Below w.heap.size w w' ∧ (e = .returned (.tuple #[.slice none 0 0, .bool false]) ∨ ∃ v, e = .returned (.tuple #[v, .bool true]) ∧ RInts (vis (w.heap.size ≤ ·) w') v (realB b r (partP P)))

theorem rs_at {b : Bat} {r : List Int} {P : List (List Int)} {c j : Nat} (hm : c < b.mats.length) (hj : j < (b.mats[c]'hm).content.length) (hr : c < r.length) (hp : c < P.length) (hq : j < (P[c]'hp).length) :
    rSum b r (partP P) (c + 1) j = rSum b r (partP P) c j + r[c] * (100 * ((b.mats[c]'hm).content[j]'hj).lo + (P[c]'hp)[j] % 101 * (((b.mats[c]'hm).content[j]'hj).hi - ((b.mats[c]'hm).content[j]'hj).lo)) := by
  rw [rSum_succ]
  unfold realC partP
  rw [cont_at hm]
  simp [List.getD, List.getElem?_eq_getElem hr, List.getElem?_eq_getElem hp, List.getElem?_eq_getElem hq, List.getElem?_eq_getElem hj]

theorem rSum_big {b : Bat} (h : OkB b) {r : List Int} (hr : ∀ x ∈ r, 0 ≤ x ∧ x ≤ 10000) (hl : r.length = b.mats.length) (P : List (List Int)) {q c : Nat} (hq : q < b.oxides.length) (hc : c ≤ b.mats.length) : 0 ≤ rSum b r (partP P) c q ∧ rSum b r (partP P) c q ≤ 12000000000 := by
  have h1 := rSum_ok h hr hl (partP_bd P) q hq c hc
  have h2 := sums_ok h hr hl q hq c hc
  have h3 := h.mt
  omega

theorem prod5 {p d : Int} (hp : 0 ≤ p ∧ p ≤ 100) (hd : 0 ≤ d ∧ d ≤ 1000) : 0 ≤ p * d ∧ p * d ≤ 100000 := by
  have h1 : p * d ≤ 100 * d := Int.mul_le_mul_of_nonneg_right hp.2 hd.1
  have h2 := Int.mul_nonneg hp.1 hd.1
  omega
theorem prod6 {p d : Int} (hp : 0 ≤ p ∧ p ≤ 10000) (hd : 0 ≤ d ∧ d ≤ 200000) : 0 ≤ p * d ∧ p * d ≤ 2000000000 := by
  have h1 : p * d ≤ 10000 * d := Int.mul_le_mul_of_nonneg_right hp.2 hd.1
  have h2 := Int.mul_nonneg hp.1 hd.1
  omega

set_option maxHeartbeats 1000000 in
set_option maxRecDepth 100000 in
theorem lgrams_any (vb rv vy : Value) (b : Bat) (r : List Int) (P : List (List Int)) (w : World) (h : RBat w vb b) (hr : RInts w rv r) (hy : RReal w vy P) (hk : OkB b) (hrr : ∀ x ∈ r, 0 ≤ x ∧ x ≤ 10000) (hlr : r.length = b.mats.length) :
    Calls Try.prog 22 #[vb, rv, vy] w (RetReal w b r P) := by
  obtain ⟨v0, v1, v2, v3, rfl, h0, h1, h2, h3, i1, i2, i3⟩ := id h
  obtain ⟨a0, k0, rfl, -, ⟨-, l0⟩, -⟩ := h0
  obtain ⟨a1, k1, rfl, -, ⟨-, l1⟩, hl⟩ := h1
  obtain ⟨a2, k2, rfl, -, ⟨-, l2⟩, -⟩ := h2
  obtain ⟨a3, k3, rfl, -, ⟨-, l3⟩, -⟩ := h3
  obtain ⟨ar, kr, rfl, -, ⟨-, lr⟩, hrl⟩ := id hr
  obtain ⟨vp, rfl, ap, kp, rfl, -, ⟨-, lp⟩, hpl⟩ := hy
  obtain ⟨i0, hi, hz0, hz1, hz2⟩ := info_parts info_int
  have hn := hk.ox
  have hms := hk.mt
  have hmc := fun m hm => (hk.mats m hm).len
  have hA0 := below_two w (.cells #[.slice a0 b.oxides.length k0, .slice a1 b.mats.length k1, .slice a2 b.shares.length k2, .slice a3 b.props.length k3, .int .i64 b.redox.lo, .int .i64 b.redox.hi, .int .i64 b.wanted] 29) (.cells #[.slice ap P.length kp] 48)
  have hB0 := (Blk.new w #[.slice a0 b.oxides.length k0, .slice a1 b.mats.length k1, .slice a2 b.shares.length k2, .slice a3 b.props.length k3, .int .i64 b.redox.lo, .int .i64 b.redox.hi, .int .i64 b.wanted] 29).alloc (.cells #[.slice ap P.length kp] 48)
  have hC0 : Blk ((w.alloc (.cells #[.slice a0 b.oxides.length k0, .slice a1 b.mats.length k1, .slice a2 b.shares.length k2, .slice a3 b.props.length k3, .int .i64 b.redox.lo, .int .i64 b.redox.hi, .int .i64 b.wanted] 29)).alloc (.cells #[.slice ap P.length kp] 48)) (w.heap.size + 1) #[.slice ap P.length kp] 48 := by
    have := Blk.new (w.alloc (.cells #[.slice a0 b.oxides.length k0, .slice a1 b.mats.length k1, .slice a2 b.shares.length k2, .slice a3 b.props.length k3, .int .i64 b.redox.lo, .int .i64 b.redox.hi, .int .i64 b.wanted] 29)) #[.slice ap P.length kp] 48
    simpa using this
  have HLR := Lib.hid hlr
  have hr1 : r.length ≤ b.mats.length := by omega
  have hr2 : b.mats.length ≤ r.length := by omega
  clear h hlr
  go_enter Try.func22, Try.ntmps22
  go_wp2_with (at_make; refine wpList_make_full _ rfl _ _ _ rfl (w.heap.size + 2) 3 i0 (.int .i64 0) 1 Try.underlying30 hi hz0 hz1 .i64 .i64 _ _ b.oxides.length rfl rfl rfl rfl ?_ ?_ ?_ ?_)
  · rw [hz2]; omega
  · unfold maxLen; omega
  · simp
  intro W1 hown hgrow
  have hA1 := hA0.grown hgrow (by simp; omega) (by intro k hk; cases hk)
  have hC1 : Below (w.heap.size + 1 + 1) _ W1 := Below.grown (Below.refl _ _) hgrow (by simp) (by intro k hk; cases hk)
  have hB1 := hB0.below hC1 (by omega)
  have hD1 := hC0.below hC1 (by omega)
  have hlt1 : w.heap.size + 1 + 1 < W1.heap.size := own_lt hown _ rfl
  rw [toList_madeCells_one, show List.replicate b.oxides.length (Value.int .i64 0) = (List.replicate b.oxides.length (0 : Int)).map (Value.int .i64) from by simp, ← rTo_zero b r (partP P)] at hown
  have m1 : W1.cell? ⟨w.heap.size, 1, none⟩ = some (.slice a1 b.mats.length k1) := hB1.cell 1 _ rfl
  have m2 : W1.cell? ⟨w.heap.size + 1, 0, none⟩ = some (.slice ap P.length kp) := hD1.cell 0 _ rfl
  clear hA0 hgrow hC1 hB0 hC0
  by_cases hpr : P.length = r.length
  case neg =>
    have hd : (((P.length : Int)) != (r.length : Int)) = true := by simp; omega
    clear hpr hown hmc hrl hpl hl
    go_wp2
    exact bodyPost_ret (v := .tuple #[.slice none 0 0, .bool false]) (by simp only [results, Try.results22]; simp [go_sem]) rfl ⟨hA1, .inl rfl⟩
  have hd : (((P.length : Int)) != (r.length : Int)) = false := by simp; omega
  have hp1 : P.length ≤ r.length := by omega
  have hp2 : r.length ≤ P.length := by omega
  clear hpr
  go_wp2
  go_loopw [9] (fun i wr => ∃ (c : Nat), c ≤ b.mats.length ∧ i = .int .i64 c ∧ wr.ownsRow (w.heap.size + 2) 3 1 (.slice (some ⟨w.heap.size + 1 + 1, 0, none⟩) b.oxides.length b.oxides.length) b.oxides.length ((rTo b r (partP P) c 0).map (Value.int .i64)) ∧ Below (w.heap.size + 2) W1 wr) (fun i _ => b.mats.length - (intOf i).toNat)
  case atStart => exact ⟨0, Nat.zero_le _, rfl, hown, Below.refl _ _⟩
  case round =>
    clear hown
    obtain ⟨c, hc, rfl, hown, hb⟩ := hrel
    have hfinB := hA1.trans (hb.mono (by omega))
    by_cases hlt : c < b.mats.length
    · obtain ⟨b1, o1, rfl, vc, ⟨g0, g1, g2, g3, g4, g5, g6⟩, hcon, hs⟩ := hl c hlt
      obtain ⟨ac, kc, rfl, -, ⟨-, lc⟩, hcl⟩ := id hcon
      have hmlen := hmc _ (List.getElem_mem hlt)
      obtain ⟨b2, o2, rfl, q1, -⟩ := hrl c (by omega)
      have hcr : c < r.length := by omega
      obtain ⟨b3, o3, rfl, vr, q2, ay, ky, rfl, -, ⟨-, ly⟩, hyl⟩ := hpl c (by omega)
      have hcp : c < P.length := by omega
      have hstep := fun (j : Nat) (hj : j < (b.mats[c]'hlt).content.length) (hq : j < (P[c]'hcp).length) => rs_at (b := b) hlt hj hcr hcp hq
      have hrc := hrr _ (List.getElem_mem hcr)
      have hmo := hk.mats _ (List.getElem_mem hlt)
      have hbl := cell_lt g6
      have hbl2 := cell_lt q1
      have hbl3 := cell_lt q2
      simp only at g6 hbl
      simp only [Nat.mul_one] at q1 q2
      have hlr2 : w.heap.size + 1 + 1 < wr.heap.size := own_lt hown _ rfl
      have HS := Lib.hid hstep
      have HL := Lib.hid hmlen
      obtain ⟨hrc1, hrc2⟩ := hrc
      have hsp := hmo.spans
      clear hl hrl hpl hs hcon hstep hmlen g0 g1 g2 g3 g4 g5 hmo
      generalize b.mats[c] = m at *
      generalize r[c]'hcr = rc at *
      generalize P[c]'hcp = row at *
      have q2w := q2
      replace q2 := ext_of_below hfinB _ _ q2
      have z2 : wr.cell? ⟨w.heap.size + 1, 0, none⟩ = some (.slice (some ⟨b3, o3, none⟩) P.length kp) := (hD1.below hb (by omega)).cell 0 _ rfl
      by_cases hrow : row.length = b.oxides.length
      case neg =>
        have hd2 : (((row.length : Int)) != (b.oxides.length : Int)) = true := by simp; omega
        clear hrow hown hmc hyl hcl HS
        go_wp2
        exact bodyPost_ret (v := .tuple #[.slice none 0 0, .bool false]) (by simp only [results, Try.results22]; simp [go_sem]) rfl ⟨hfinB, .inl rfl⟩
      have hd2 : (((row.length : Int)) != (b.oxides.length : Int)) = false := by simp; omega
      have hrow1 : row.length ≤ b.oxides.length := by omega
      have hrow2 : b.oxides.length ≤ row.length := by omega
      clear hrow
      go_wp2
      have hszr := hfinB.size
      have hb0 := hb.mono (Nat.le_refl (w.heap.size + 2))
      obtain ⟨wo, hwo⟩ : ∃ wo : World, wo = wr := ⟨_, rfl⟩
      subst hwo
      go_loopw [10] (fun i wr => ∃ (j : Nat), j ≤ b.oxides.length ∧ i = .int .i64 j ∧ wr.ownsRow (w.heap.size + 2) 3 1 (.slice (some ⟨w.heap.size + 1 + 1, 0, none⟩) b.oxides.length b.oxides.length) b.oxides.length ((rTo b r (partP P) c j).map (Value.int .i64)) ∧ Below (w.heap.size + 2) wo wr) (fun i _ => b.oxides.length - (intOf i).toNat)
      case atStart => exact ⟨0, Nat.zero_le _, rfl, hown, Below.refl _ _⟩
      case round =>
        clear hown
        obtain ⟨j, hj, rfl, hown, hbw⟩ := hrel
        have hfin2 := hfinB.trans (hbw.mono (by omega))
        have hbF := hb.trans hbw
        by_cases hlj : j < b.oxides.length
        · have hjm : j < m.content.length := by rw [HL.out]; exact hlj
          have hjr : j < row.length := by omega
          obtain ⟨b4, o4, rfl, s1, s2, -, -⟩ := hcl j hjm
          obtain ⟨b5, o5, rfl, s3, s4, s5⟩ := hyl j hjr
          simp only [Nat.mul_one] at s3
          have hst := HS.out j hjm hjr
          have hspj := hsp _ (List.getElem_mem hjm)
          obtain ⟨t1, t2, t3⟩ := hspj
          have hbg := rSum_big hk hrr HLR.out P hlj hc
          obtain ⟨hbg1, hbg2⟩ := hbg
          have hset := rTo_set b r (partP P) c j hlj
          have hjl : j < (rTo b r (partP P) c j).length := by rw [rTo_len]; exact hlj
          have hold := rTo_get b r (partP P) c j j hjl
          rw [if_neg (Nat.lt_irrefl j)] at hold
          have hbl4 := cell_lt s1
          have hbl5 := cell_lt s3
          simp only at hbl4 hbl5
          have e1 := ext_of_below hfin2
          have B1 := hB1.below hbF (by omega)
          have D1 := hD1.below hbF (by omega)
          have y1 : wr.cell? ⟨w.heap.size, 1, none⟩ = some (.slice (some ⟨b1, o1, none⟩) b.mats.length k1) := B1.cell 1 _ rfl
          have y2 : wr.cell? ⟨w.heap.size + 1, 0, none⟩ = some (.slice (some ⟨b3, o3, none⟩) P.length kp) := D1.cell 0 _ rfl
          replace g6 := e1 _ _ g6
          replace q1 := e1 _ _ q1
          replace q2 := e1 _ _ q2w
          clear q2w z2
          replace s1 := e1 _ _ s1
          replace s2 := e1 _ _ s2
          replace s3 := e1 _ _ s3
          simp only at s1 s2
          have HT := Lib.hid hset
          have HU := Lib.hid hst
          have HO := Lib.hid hold
          have hbF2 := hbw
          clear hcl hyl hst hset hold HS B1 D1 e1 hfinB hA1 hB1 hD1 m1 m2 hmc hsp hb0 hfin2 hbw
          generalize m.content[j]'hjm = s at *
          generalize row[j]'hjr = x at *
          go_wp2_with fail
          have W2 := below_box wr (.cells #[.int .i64 s.lo, .int .i64 s.hi] 27)
          have B2 := Blk.new wr #[.int .i64 s.lo, .int .i64 s.hi] 27
          have hown2 := own_below hown W2 (own_lt hown)
          have hnr : w.heap.size + 1 + 1 < wr.heap.size := own_lt hown _ rfl
          have e2 := ext_of_below W2
          replace g6 := e2 _ _ g6
          replace q1 := e2 _ _ q1
          replace q2 := e2 _ _ q2
          replace s3 := e2 _ _ s3
          replace y1 := e2 _ _ y1
          replace y2 := e2 _ _ y2
          have p0 := B2.cell 0 (.int .i64 s.lo) rfl
          have p1 := B2.cell 1 (.int .i64 s.hi) rfl
          clear s1 s2 e2 hown
          generalize hgn : wr.heap.size = nr at *
          generalize wr.alloc (.cells #[.int .i64 s.lo, .int .i64 s.hi] 27) = W4 at *
          have u0 := hown2.cellAt j (by omega)
          rw [List.getElem?_map, List.getElem?_eq_getElem hjl, HO.out, Option.map_some] at u0
          have u1 := hown2.frozenAt j
          have hv : wrap64 (rSum b r (partP P) c j + wrap64 (rc * wrap64 (100 * s.lo + wrap64 (x % 101 * (s.hi - s.lo))))) = rSum b r (partP P) (c + 1) j := by
            rw [HU.out]
            have m1 := prod5 (p := x % 101) (d := s.hi - s.lo) (by omega) (by omega)
            have m2 := prod6 (p := rc) (d := 100 * s.lo + x % 101 * (s.hi - s.lo)) (by omega) (by omega)
            rw [wrap_id (x % 101 * (s.hi - s.lo)) (by unfold I64; omega), wrap_id (100 * s.lo + x % 101 * (s.hi - s.lo)) (by unfold I64; omega), wrap_id (rc * _) (by unfold I64; omega), wrap_id _ (by unfold I64; omega)]
          have hown3 := (hown2.stored j (.int .i64 (rSum b r (partP P) (c + 1) j))).1
          rw [← List.map_set, HT.out] at hown3
          have hb4 := (hbF2.trans (W2.mono (by have := hbF2.size; omega))).setCell (p := ⟨w.heap.size + 1 + 1, j, none⟩) (by simp) (.int .i64 (rSum b r (partP P) (c + 1) j))
          have HV := Lib.hid hv
          have HO3 := Lib.hid hown3
          have HB4 := Lib.hid hb4
          clear hv hown2 hown3 hb4 hbF hbF2 W2 B2 hb hgn
          go_still_tail 30, (by kernel_rfl)
          go_wp2
          go_roundw
          case rel =>
            rw [HV.out]
            exact ⟨j + 1, by omega, by go_num, own_drew HO3.out, HB4.out.drew⟩
          case measure => simp [intOf]; omega
        · have hnext := rTo_next b r (partP P) c j (by omega)
          rw [hnext] at hown
          clear hnext hcl hyl HS hbF hfin2
          have hbX := hb.trans hbw
          clear hb hbw
          go_wp2
          go_roundw
          case rel => exact ⟨c + 1, by omega, by go_num, hown, hbX⟩
          case measure => simp [intOf]; omega
    · have hfin : rTo b r (partP P) c 0 = realB b r (partP P) := by unfold realB; rw [show c = b.mats.length from by omega]
      rw [hfin] at hown
      have hRI := own_RInts (l := realB b r (partP P)) (by unfold realB; rw [rTo_len]; exact own_vis (S := (w.heap.size ≤ ·)) hown (by intro g hg; simp [Value.ownBlock] at hg; omega)) (by unfold realB; rw [rTo_len]; omega)
        (by
          intro x hx
          unfold realB rTo at hx
          obtain ⟨q, hq, rfl⟩ := List.mem_map.1 hx
          have hq := List.mem_range.1 hq
          have := rSum_big hk hrr HLR.out P hq (c := if q < 0 then b.mats.length + 1 else b.mats.length) (by rw [if_neg (by omega)]; omega)
          unfold I64; omega)
      have HR := Lib.hid hRI
      clear hRI hown hfin hl hrl hmc hb hpl
      go_wp2
      exact bodyPost_ret (v := .tuple #[.slice (some ⟨w.heap.size + 1 + 1, 0, none⟩) b.oxides.length b.oxides.length, .bool true]) (by simp only [results, Try.results22]; simp [go_sem]) rfl ⟨hfinB, .inr ⟨_, rfl, HR.out⟩⟩

end Go.Proofs.Ytnnkcbeadiembaa
