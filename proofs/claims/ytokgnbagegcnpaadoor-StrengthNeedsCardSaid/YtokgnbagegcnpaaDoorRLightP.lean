/- The specification's lightest, Lightest; no statement is proved here. -/
import Derived.Test.YtokgnbagegcnpaaDoorRNeed
import Derived.Test.YtokgnbagegcnpaaDoorLightP
import Derived.Test.YtokgnbagegcnpaaDoorPassP
namespace Go.Proofs.YtokgnbagegcnpaaDoor
open Go.RowKit Go.PlainAid
set_option linter.unusedVariables false
set_option linter.unusedSimpArgs false

/-- the least weight that gives a ring a thickness. -/
def leastW (r : Rg) (n : Int) : Int := (n * 355 * r.radius.hi * r.height.hi + 200 * r.share.lo * 113 - 1) / (200 * r.share.lo * 113)
theorem leastW_iff {r : Rg} (hr : OkR r) (hs : 1 ≤ r.share.lo) {n t : Int} : n ≤ (thickR r ⟨t, t⟩).lo ↔ leastW r n ≤ t := by
  have h1 := hr.radius
  have h2 := hr.height
  have a1 := mulP (a := r.radius.hi) (A := 1000) (b := r.height.hi) (B := 5000) (by omega) (by omega)
  have e1 : (thickR r ⟨t, t⟩).lo = 200 * t * r.share.lo * 113 / (r.radius.hi * r.height.hi * 355) := rfl
  have e2 : n * 355 * r.radius.hi * r.height.hi = n * (r.radius.hi * r.height.hi * 355) := by
    rw [Int.mul_assoc, Int.mul_assoc, Int.mul_comm 355]
  have e3 : 200 * t * r.share.lo * 113 = t * (200 * r.share.lo * 113) := by
    rw [Int.mul_comm 200 t, Int.mul_assoc t, Int.mul_assoc t]
  unfold leastW
  rw [e1, e2, e3, Int.le_ediv_iff_mul_le (by omega)]
  generalize r.radius.hi * r.height.hi * 355 = D at *
  obtain ⟨q, hq⟩ : ∃ q, 200 * r.share.lo * 113 = q := ⟨_, rfl⟩
  have hq1 : 1 ≤ q := by omega
  rw [hq]
  generalize n * D = x
  clear hq e1 e2 e3
  constructor
  · intro h
    have : (x + q - 1) / q < t + 1 := by
      rw [Int.ediv_lt_iff_lt_mul (by omega), Int.add_mul, Int.one_mul]
      omega
    omega
  · intro h
    have h3 : (x + q - 1) / q < t + 1 := by omega
    rw [Int.ediv_lt_iff_lt_mul (by omega), Int.add_mul, Int.one_mul] at h3
    omega
theorem leastW_pos {r : Rg} (hr : OkR r) (hs : 1 ≤ r.share.lo) {n : Int} (hn : 1 ≤ n) : 1 ≤ leastW r n := by
  by_cases h : leastW r n ≤ 0
  · have h1 := (leastW_iff hr hs (n := n) (t := 0)).2 h
    have e1 : (thickR r ⟨0, 0⟩).lo = 200 * 0 * r.share.lo * 113 / (r.radius.hi * r.height.hi * 355) := rfl
    rw [e1] at h1
    simp at h1
    omega
  · omega
theorem thick_zero {r : Rg} (hs : r.share.lo = 0) (t : Int) : (thickR r ⟨t, t⟩).lo = 0 := by
  have e1 : (thickR r ⟨t, t⟩).lo = 200 * t * r.share.lo * 113 / (r.radius.hi * r.height.hi * 355) := rfl
  rw [e1, hs]; simp

/-- behind k rings: from out on the first k are thick enough. -/
def LightI (b : Bot) (ns : List Int) (k : Nat) (out : Int) : Prop := 0 ≤ out ∧ (1 ≤ k → 1 ≤ out) ∧ ∀ t : Int, 0 ≤ t → ((∀ i, i < k → ns.getD i 0 ≤ (thickAt b t i).lo) ↔ out ≤ t)
theorem lightI_start (b : Bot) (ns : List Int) : LightI b ns 0 0 := ⟨by omega, fun h => by omega, fun t ht => ⟨fun _ => ht, fun _ i h => absurd h (by omega)⟩⟩
theorem lightI_step {b : Bot} {ns : List Int} {k : Nat} {out : Int} (h : LightI b ns k out) (hk : k < b.rings.length) (hr : OkR b.rings[k]) (hs : 1 ≤ b.rings[k].share.lo) (hn : 1 ≤ ns.getD k 0) :
    LightI b ns (k + 1) (max out (leastW b.rings[k] (ns.getD k 0))) := by
  obtain ⟨h0, h1, h2⟩ := h
  have hp := leastW_pos hr hs hn
  refine ⟨by omega, fun _ => by omega, fun t ht => ⟨fun ha => ?_, fun ha i hi => ?_⟩⟩
  · have a1 := (h2 t ht).1 (fun i hi => ha i (by omega))
    have a2 := ha k (by omega)
    rw [thickAt_eq hk, leastW_iff hr hs] at a2
    omega
  · by_cases e : i = k
    · rw [e, thickAt_eq hk, leastW_iff hr hs]; omega
    · exact (h2 t ht).2 (by omega) i (by omega)
/-- the lightest weight, once all rings have been seen. -/
theorem lightI_end {b : Bot} {l : Ld} {out : Int} (hok : OkS b) (h : LightI b (needS b l) b.rings.length out) (h0 : 1 ≤ b.rings.length) (hn : ∀ i, i < b.rings.length → (needS b l).getD i 0 ≠ 0) :
    (if 100000 < out then 0 else out) = lightF b l := by
  obtain ⟨a0, a1, a2⟩ := h
  have a1 := a1 h0
  have key : ∀ x, 1 ≤ x → (enoughWb b (needS b l) x = true ↔ out ≤ x) := fun x hx => by
    rw [enoughWb_iff, ← a2 x (by omega)]
    unfold EnoughW
    exact ⟨fun h i hi => (h i hi).2, fun h i hi => ⟨hn i hi, h i hi⟩⟩
  have hfo : IsFO (enoughWb b (needS b l)) 100000 (if 100000 < out then 0 else out) := by
    split
    · exact ⟨by omega, by omega, fun x p q => ⟨fun hp => (by have := (key x p).1 hp; omega), fun hp => by omega⟩⟩
    · exact ⟨by omega, by omega, fun x p q => ⟨fun hp => ⟨a1, (key x p).1 hp⟩, fun hp => (key x p).2 hp.2⟩⟩
  exact hfo.unique (lightF_is hok)
/-- no weight will do. -/
theorem light_none {b : Bot} {l : Ld} (hok : OkS b) {i : Nat} (hi : i < b.rings.length) (h : (needS b l).getD i 0 = 0 ∨ (1 ≤ (needS b l).getD i 0 ∧ b.rings[i].share.lo = 0)) : lightF b l = 0 := by
  have hno : ∀ x, enoughWb b (needS b l) x ≠ true := fun x hx => by
    rw [enoughWb_iff] at hx
    obtain ⟨p, q⟩ := hx i hi
    rcases h with h | ⟨h1, h2⟩
    · exact p h
    · rw [thickAt_eq hi, thick_zero h2] at q; omega
  have hfo : IsFO (enoughWb b (needS b l)) 100000 0 := ⟨by omega, by omega, fun x p q => ⟨fun hp => absurd hp (hno x), fun hp => by omega⟩⟩
  exact (hfo.unique (lightF_is hok)).symm

set_option maxHeartbeats 2000000 in
set_option maxRecDepth 100000 in
theorem rlightest_any (vb : Value) (b : Bot) (l : Ld) (w : World) (h : RBot w vb b) (hok : OkS b) (hl : OkL l) :
    Calls Tryd.prog 98 #[vb, .agg #[.int .i64 l.press, .int .i64 l.force, .int .i64 l.speed, .int .i64 l.other]] w fun e w' => e = .returned (.int .i64 (lightF b l)) ∧ Below w.heap.size w w' := by
  have h0 := h
  obtain ⟨v0, rfl, hr, hI⟩ := h
  obtain ⟨a, cap, rfl, -, ⟨-, hm⟩, hrl⟩ := hr
  have hA : Below w.heap.size w ((w.alloc (.cells #[.slice a b.rings.length cap, .int .i64 b.flaw, .int .i64 b.tough] 24)).alloc (.cells #[.int .i64 l.press, .int .i64 l.force, .int .i64 l.speed, .int .i64 l.other] 27)) := (below_boxS w _).alloc (by simp) _
  have hB := (Blk.new w #[.slice a b.rings.length cap, .int .i64 b.flaw, .int .i64 b.tough] 24).alloc (.cells #[.int .i64 l.press, .int .i64 l.force, .int .i64 l.speed, .int .i64 l.other] 27)
  have HR := Lib.hid (fun V (hV : Below w.heap.size w V) => h0.mono (ext_of_below hV))
  have HRL := Lib.hid hrl
  have HOK := Lib.hid hok
  have HL := Lib.hid hl
  have hmo := hok.most
  clear h0 hrl hok hl
  go_enter Tryd.func98, Tryd.ntmps98
  go_wp2_with fail
  generalize (w.alloc (.cells #[.slice a b.rings.length cap, .int .i64 b.flaw, .int .i64 b.tough] 24)).alloc _ = W2 at *
  refine (rneeded_any _ b l _ (HR.out _ hA) HOK.out HL.out).mono ?_
  rintro e w5 ⟨v, rfl, hv, hb5⟩
  have hA5 := hA.trans (hb5.mono hA.size)
  have hB5 := hB.below hb5 hB.lt
  obtain ⟨an, kn, rfl, -, ⟨-, hnm⟩, hnl⟩ := hv
  have HNL : Hid (∀ i (h : i < (needS b l).length), ∃ b' o', an = some ⟨b', o', none⟩ ∧ ∀ V, Below w5.heap.size w5 V → V.cell? ⟨b', o' + i, none⟩ = some (.int .i64 (needS b l)[i])) := Lib.hid (fun i hi => by
    obtain ⟨b', o', h1, h2, -⟩ := hnl i hi
    obtain ⟨-, h3⟩ := vis_cell.1 h2
    refine ⟨b', o', h1, fun V hV => ?_⟩
    have := ext_of_below hV _ _ h3
    simpa using this)
  have HLEN := Lib.hid (needS_len b l)
  have HBD := Lib.hid (needS_bd HOK.out HL.out)
  clear hnl hb5 hA hB
  go_wp2_with fail
  go_loopw [6] (fun i wr => ∃ k : Nat, k ≤ (needS b l).length ∧ i = .int .i64 k ∧ Hid (∀ i, i < k → (needS b l).getD i 0 ≠ 0) ∧ Below w5.heap.size w5 wr) (fun i _ => (needS b l).length - (intOf i).toNat)
  case atStart => exact ⟨0, Nat.zero_le _, rfl, Lib.hid (fun i h => absurd h (by omega)), Below.refl _ _⟩
  case round =>
    obtain ⟨k, hk, rfl, hall, hb⟩ := hrel
    have hAr := hA5.trans (hb.mono hA5.size)
    by_cases hlt : k < (needS b l).length
    · obtain ⟨nb, no, rfl, hnc⟩ := HNL.out k hlt
      have hg1 : (needS b l).getD k 0 = (needS b l)[k] := by rw [List.getD_eq_getElem?_getD, List.getElem?_eq_getElem hlt]; rfl
      have n1 := hnc _ hb
      have i1 : (0 : Int) ≤ (k : Int) := Int.natCast_nonneg _
      have i2 : (k : Int) < ((needS b l).length : Int) := by omega
      have HZ : Hid ((needS b l)[k] = 0 → lightF b l = 0) := Lib.hid (fun h => light_none HOK.out (i := k) (by rw [← HLEN.out]; exact hlt) (.inl (by rw [hg1]; exact h)))
      have HN : Hid ((needS b l)[k] ≠ 0 → ∀ i, i < k + 1 → (needS b l).getD i 0 ≠ 0) := Lib.hid (fun h i hi => by
        by_cases e : i = k
        · rw [e, hg1]; exact h
        · exact hall.out i (by omega))
      clear hg1 hnc hall
      generalize (needS b l)[k] = q at *
      by_cases h0 : q = 0
      · have hd : (q == 0) = true := by rw [beq_iff_eq]; exact h0
        have HF := Lib.hid (HZ.out h0)
        have HA := Lib.hid hAr
        clear h0 hb hAr hA5 hB5
        go_wp2
        go_ret
        exact ⟨ret_int HF.out.symm, HA.out⟩
      · have hd : (q == 0) = false := by rw [beq_eq_false_iff_ne]; exact h0
        have HN2 := Lib.hid (HN.out h0)
        clear h0 hAr
        go_wp2
        go_roundw
        case rel => exact ⟨k + 1, by omega, by go_num, HN2, hb⟩
        case measure => simp [intOf]; omega
    · obtain rfl : k = (needS b l).length := by omega
      have HALL := Lib.hid (fun i (h : i < b.rings.length) => hall.out i (by rw [HLEN.out]; exact h))
      have hBr := hB5.below hb hB5.lt
      clear hall hA5 hB5
      go_wp2_with fail
      generalize hW6 : wr = W6 at *
      clear hW6
      go_loopw [7, 8] (fun o i wr => ∃ (k : Nat) (out : Int), k ≤ (needS b l).length ∧ o = .int .i64 out ∧ i = .int .i64 k ∧ Hid (LightI b (needS b l) k out) ∧ Below W6.heap.size W6 wr) (fun _ i _ => (needS b l).length - (intOf i).toNat)
      case atStart => exact ⟨0, 0, Nat.zero_le _, rfl, rfl, Lib.hid (lightI_start _ _), Below.refl _ _⟩
      case round =>
        obtain ⟨k, out, hk, rfl, rfl, hli, hb2⟩ := hrel
        have hAr2 := hAr.trans (hb2.mono hAr.size)
        have hB2 := hBr.below hb2 hBr.lt
        have hbn := hb.trans (hb2.mono hb.size)
        by_cases hlt : k < (needS b l).length
        · have hkr : k < b.rings.length := by rw [← HLEN.out]; exact hlt
          obtain ⟨nb, no, rfl, hnc⟩ := HNL.out k hlt
          obtain ⟨rb, ro, rfl, hc, -⟩ := HRL.out k hkr
          have hx : ∀ j, j < 10 → wr.cell? ⟨rb, ro + k * 10 + j, none⟩ = (rgCells b.rings[k])[j]? := fun j hj => by
            have hj' : j < (rgCells b.rings[k]).length := hj
            rw [List.getElem?_eq_getElem hj']
            exact ext_of_below hAr2 _ _ (hc j _ (List.getElem?_eq_getElem hj'))
          have hg1 : (needS b l).getD k 0 = (needS b l)[k] := by rw [List.getD_eq_getElem?_getD, List.getElem?_eq_getElem hlt]; rfl
          have n1 := hnc _ hbn
          have hq := HBD.out _ (List.getElem_mem hlt)
          have hqn : 1 ≤ (needS b l)[k] := by have := HALL.out k hkr; rw [hg1] at this; omega
          have HOR := Lib.hid (HOK.out.rings k hkr)
          have HST : Hid (1 ≤ b.rings[k].share.lo → LightI b (needS b l) (k + 1) (max out (leastW b.rings[k] (needS b l)[k]))) := Lib.hid (fun h => by
            have := lightI_step hli.out hkr HOR.out h (by rw [hg1]; exact hqn)
            rw [hg1] at this; exact this)
          have HZ : Hid (b.rings[k].share.lo = 0 → lightF b l = 0) := Lib.hid (fun h => light_none HOK.out hkr (.inr ⟨by rw [hg1]; exact hqn, h⟩))
          have i1 : (0 : Int) ≤ (k : Int) := Int.natCast_nonneg _
          have i2 : (k : Int) < ((needS b l).length : Int) := by omega
          have i3 : (k : Int) < (b.rings.length : Int) := by omega
          clear hg1 hnc hc hli
          generalize (needS b l)[k] = q at *
          generalize b.rings[k] = R at *
          have x0 := hx 0 (by omega)
          have x1 := hx 1 (by omega)
          have x2 := hx 2 (by omega)
          have x3 := hx 3 (by omega)
          have x4 := hx 4 (by omega)
          have x5 := hx 5 (by omega)
          have x6 := hx 6 (by omega)
          have x7 := hx 7 (by omega)
          have x8 := hx 8 (by omega)
          have x9 := hx 9 (by omega)
          simp only [rgCells, Nat.add_zero, List.getElem?_cons_zero, List.getElem?_cons_succ] at x0 x1 x2 x3 x4 x5 x6 x7 x8 x9
          have c0 := hB2.cell 0 _ rfl
          have hP := Blk.new wr #[.int .i64 R.radius.lo, .int .i64 R.radius.hi, .int .i64 R.height.lo, .int .i64 R.height.hi, .int .i64 R.share.lo, .int .i64 R.share.hi, .int .i64 R.factor.lo, .int .i64 R.factor.hi, .int .i64 R.hit.lo, .int .i64 R.hit.hi] 95
          have hbP : Below W6.heap.size W6 (wr.alloc (.cells #[.int .i64 R.radius.lo, .int .i64 R.radius.hi, .int .i64 R.height.lo, .int .i64 R.height.hi, .int .i64 R.share.lo, .int .i64 R.share.hi, .int .i64 R.factor.lo, .int .i64 R.factor.hi, .int .i64 R.hit.lo, .int .i64 R.hit.hi] 95)) := hb2.alloc hb2.size _
          have hAP := hAr2.alloc hAr2.size (.cells #[.int .i64 R.radius.lo, .int .i64 R.radius.hi, .int .i64 R.height.lo, .int .i64 R.height.hi, .int .i64 R.share.lo, .int .i64 R.share.hi, .int .i64 R.factor.lo, .int .i64 R.factor.hi, .int .i64 R.hit.lo, .int .i64 R.hit.hi] 95)
          have y1 := hP.cell 1 _ rfl
          have y3 := hP.cell 3 _ rfl
          have y4 := hP.cell 4 _ rfl
          have nP := ext_of_below (Below.refl wr.heap.size wr |>.alloc (Nat.le_refl _) (.cells #[.int .i64 R.radius.lo, .int .i64 R.radius.hi, .int .i64 R.height.lo, .int .i64 R.height.hi, .int .i64 R.share.lo, .int .i64 R.share.hi, .int .i64 R.factor.lo, .int .i64 R.factor.hi, .int .i64 R.hit.lo, .int .i64 R.hit.hi] 95)) _ _ n1
          simp only [List.getElem_toArray, List.getElem_cons_zero, List.getElem_cons_succ] at y1 y3 y4
          clear hx hkr hB2 hP n1
          by_cases hs : R.share.lo = 0
          · have hd : (R.share.lo == 0) = true := by rw [beq_iff_eq]; exact hs
            have HF := Lib.hid (HZ.out hs)
            have HA := Lib.hid hAP
            clear hs y1 y3 nP hbP hAP hb2 hAr2 hbn
            go_wp2
            go_ret
            exact ⟨ret_int HF.out.symm, HA.out⟩
          have hd : (R.share.lo == 0) = false := by rw [beq_eq_false_iff_ne]; exact hs
          have hsh := HOR.out.share
          have hra := HOR.out.radius
          have hhe := HOR.out.height
          have HN := Lib.hid (HST.out (by omega))
          have m1 := mulB (a := q * 355) (A := 710000) (b := R.radius.hi) (B := 1000) (by omega) (by omega)
          have m2 := mulB (a := q * 355 * R.radius.hi) (A := 710000000) (b := R.height.hi) (B := 5000) (by omega) (by omega)
          have t1 : IntKind.i64.wrap (q * 355) = q * 355 := (IntWalk.i64_left _).trans (wrap_id _ (by unfold I64; omega))
          have t2 : IntKind.i64.wrap (q * 355 * R.radius.hi) = q * 355 * R.radius.hi := (IntWalk.i64_left _).trans (wrap_id _ (by unfold I64; omega))
          have t3 : IntKind.i64.wrap (q * 355 * R.radius.hi * R.height.hi) = q * 355 * R.radius.hi * R.height.hi := (IntWalk.i64_left _).trans (wrap_id _ (by unfold I64; omega))
          have t4 : IntKind.i64.wrap (200 * R.share.lo) = 200 * R.share.lo := (IntWalk.i64_left _).trans (wrap_id _ (by unfold I64; omega))
          have t5 : IntKind.i64.wrap (200 * R.share.lo * 113) = 200 * R.share.lo * 113 := (IntWalk.i64_left _).trans (wrap_id _ (by unfold I64; omega))
          have hup : ∀ V, Calls Tryd.prog 65 #[.int .i64 (q * 355 * R.radius.hi * R.height.hi), .int .i64 (200 * R.share.lo * 113)] V fun e w' => e = .returned (.int .i64 (leastW R q)) ∧ w' = V := fun V => rup_any _ _ V (by omega) (by omega)
          have hmx := max_if5 out (leastW R q)
          generalize leastW R q = U at *
          obtain ⟨M, hM⟩ : ∃ M, max out U = M := ⟨_, rfl⟩
          rw [hM] at hmx HN
          clear m1 m2 hs hM hsh hra hhe hAP hb2 hAr2 hbn
          go_wp2_with fail
          generalize wr.alloc (.cells #[.int .i64 R.radius.lo, .int .i64 R.radius.hi, .int .i64 R.height.lo, .int .i64 R.height.hi, .int .i64 R.share.lo, .int .i64 R.share.hi, .int .i64 R.factor.lo, .int .i64 R.factor.hi, .int .i64 R.hit.lo, .int .i64 R.hit.hi] 95) = W7 at *
          generalize wr.heap.size = pR at *
          clear x0 x1 x2 x3 x4 x5 x6 x7 x8 x9 c0
          have HD := Lib.hid hbP.drew
          refine wp_region_till (fun w' : World => w'.cell? ⟨nb, no + k, none⟩ = some (.int .i64 q) ∧ w'.cell? ⟨pR, 1, none⟩ = some (.int .i64 R.radius.hi) ∧ w'.cell? ⟨pR, 3, none⟩ = some (.int .i64 R.height.hi) ∧ w'.cell? ⟨pR, 4, none⟩ = some (.int .i64 R.share.lo)) 99 (by kernel_rfl) ⟨nP, y1, y3, y4⟩ (fun hHeld => ?_)
          refine Till.take 0 (some 39) (v := ?_) rfl rfl (by kernel_rfl) (by kernel_rfl) (by kernel_rfl) (by kernel_rfl) (fun _ _ _ h => h) (Or.inl ⟨by rfl, ?_⟩) (by assumption) ?_
          rotate_left
          · (intro w hSw; (try dsimp only at hSw); go_simp; try with_reducible rfl)
          try simp only [Act.put, List.setIfInBounds_toArray, List.set_cons_zero, List.set_cons_succ]
          refine Till.take 1 (some 40) (v := ?_) rfl rfl (by kernel_rfl) (by kernel_rfl) (by kernel_rfl) (by kernel_rfl) (fun _ _ _ h => h) (Or.inl ⟨by rfl, ?_⟩) (by assumption) ?_
          rotate_left
          · (intro w hSw; (try dsimp only at hSw); go_simp; try with_reducible rfl)
          try simp only [Act.put, List.setIfInBounds_toArray, List.set_cons_zero, List.set_cons_succ]
          refine Till.take 2 (some 41) (v := ?_) rfl rfl (by kernel_rfl) (by kernel_rfl) (by kernel_rfl) (by kernel_rfl) (fun _ _ _ h => h) (Or.inl ⟨by rfl, ?_⟩) (by assumption) ?_
          rotate_left
          · (intro w hSw; (try dsimp only at hSw); go_simp; try with_reducible rfl)
          try simp only [Act.put, List.setIfInBounds_toArray, List.set_cons_zero, List.set_cons_succ]
          refine Till.take 3 (some 42) (v := ?_) rfl rfl (by kernel_rfl) (by kernel_rfl) (by kernel_rfl) (by kernel_rfl) (fun _ _ _ h => h) (Or.inl ⟨by rfl, ?_⟩) (by assumption) ?_
          rotate_left
          · (intro w hSw; (try dsimp only at hSw); go_simp; try with_reducible rfl)
          try simp only [Act.put, List.setIfInBounds_toArray, List.set_cons_zero, List.set_cons_succ]
          refine Till.take 4 (some 43) (v := ?_) rfl rfl (by kernel_rfl) (by kernel_rfl) (by kernel_rfl) (by kernel_rfl) (fun _ _ _ h => h) (Or.inl ⟨by rfl, ?_⟩) (by assumption) ?_
          rotate_left
          · (intro w hSw; (try dsimp only at hSw); go_simp; try with_reducible rfl)
          try simp only [Act.put, List.setIfInBounds_toArray, List.set_cons_zero, List.set_cons_succ]
          refine Till.take 5 (some 44) (v := ?_) rfl rfl (by kernel_rfl) (by kernel_rfl) (by kernel_rfl) (by kernel_rfl) (fun _ _ _ h => h) (Or.inl ⟨by rfl, ?_⟩) (by assumption) ?_
          rotate_left
          · (intro w hSw; (try dsimp only at hSw); go_simp; try with_reducible rfl)
          try simp only [Act.put, List.setIfInBounds_toArray, List.set_cons_zero, List.set_cons_succ]
          refine Till.take 6 (some 45) (v := ?_) rfl rfl (by kernel_rfl) (by kernel_rfl) (by kernel_rfl) (by kernel_rfl) (fun _ _ _ h => h) (Or.inl ⟨by rfl, ?_⟩) (by assumption) ?_
          rotate_left
          · (intro w hSw; (try dsimp only at hSw); go_simp; try with_reducible rfl)
          try simp only [Act.put, List.setIfInBounds_toArray, List.set_cons_zero, List.set_cons_succ]
          refine Till.take 7 (some 46) (v := ?_) rfl rfl (by kernel_rfl) (by kernel_rfl) (by kernel_rfl) (by kernel_rfl) (fun _ _ _ h => h) (Or.inl ⟨by rfl, ?_⟩) (by assumption) ?_
          rotate_left
          · (intro w hSw; (try dsimp only at hSw); go_simp; try with_reducible rfl)
          try simp only [Act.put, List.setIfInBounds_toArray, List.set_cons_zero, List.set_cons_succ]
          refine Till.take 8 (some 47) (v := ?_) rfl rfl (by kernel_rfl) (by kernel_rfl) (by kernel_rfl) (by kernel_rfl) (fun _ _ _ h => h) (Or.inl ⟨by rfl, ?_⟩) (by assumption) ?_
          rotate_left
          · (intro w hSw; (try dsimp only at hSw); go_simp; try with_reducible rfl)
          try simp only [Act.put, List.setIfInBounds_toArray, List.set_cons_zero, List.set_cons_succ]
          refine Till.take 9 (some 48) (v := ?_) rfl rfl (by kernel_rfl) (by kernel_rfl) (by kernel_rfl) (by kernel_rfl) (fun _ _ _ h => h) (Or.inl ⟨by rfl, ?_⟩) (by assumption) ?_
          rotate_left
          · (intro w hSw; (try dsimp only at hSw); go_simp; try with_reducible rfl)
          try simp only [Act.put, List.setIfInBounds_toArray, List.set_cons_zero, List.set_cons_succ]
          refine Till.take 10 (some 49) (v := ?_) rfl rfl (by kernel_rfl) (by kernel_rfl) (by kernel_rfl) (by kernel_rfl) (fun _ _ _ h => h) (Or.inl ⟨by rfl, ?_⟩) (by assumption) ?_
          rotate_left
          · (intro w hSw; (try dsimp only at hSw); go_simp; try with_reducible rfl)
          try simp only [Act.put, List.setIfInBounds_toArray, List.set_cons_zero, List.set_cons_succ]
          refine Till.take 11 (some 50) (v := ?_) rfl rfl (by kernel_rfl) (by kernel_rfl) (by kernel_rfl) (by kernel_rfl) (fun _ _ _ h => h) (Or.inl ⟨by rfl, ?_⟩) (by assumption) ?_
          rotate_left
          · (intro w hSw; (try dsimp only at hSw); go_simp; try with_reducible rfl)
          try simp only [Act.put, List.setIfInBounds_toArray, List.set_cons_zero, List.set_cons_succ]
          refine Till.take 12 (some 51) (v := ?_) rfl rfl (by kernel_rfl) (by kernel_rfl) (by kernel_rfl) (by kernel_rfl) (fun _ _ _ h => h) (Or.inl ⟨by rfl, ?_⟩) (by assumption) ?_
          rotate_left
          · (intro w hSw; (try dsimp only at hSw); go_simp; try with_reducible rfl)
          try simp only [Act.put, List.setIfInBounds_toArray, List.set_cons_zero, List.set_cons_succ]
          refine Till.take 13 (some 52) (v := ?_) rfl rfl (by kernel_rfl) (by kernel_rfl) (by kernel_rfl) (by kernel_rfl) (fun _ _ _ h => h) (Or.inl ⟨by rfl, ?_⟩) (by assumption) ?_
          rotate_left
          · (intro w hSw; (try dsimp only at hSw); go_simp; try with_reducible rfl)
          try simp only [Act.put, List.setIfInBounds_toArray, List.set_cons_zero, List.set_cons_succ]
          refine Till.take 14 (some 53) (v := ?_) rfl rfl (by kernel_rfl) (by kernel_rfl) (by kernel_rfl) (by kernel_rfl) (fun _ _ _ h => h) (Or.inl ⟨by rfl, ?_⟩) (by assumption) ?_
          rotate_left
          · (intro w hSw; (try dsimp only at hSw); go_simp; try with_reducible rfl)
          try simp only [Act.put, List.setIfInBounds_toArray, List.set_cons_zero, List.set_cons_succ]
          refine Till.take 15 (some 54) (v := ?_) rfl rfl (by kernel_rfl) (by kernel_rfl) (by kernel_rfl) (by kernel_rfl) (fun _ _ _ h => h) (Or.inl ⟨by rfl, ?_⟩) (by assumption) ?_
          rotate_left
          · (intro w hSw; (try dsimp only at hSw); go_simp; try with_reducible rfl)
          try simp only [Act.put, List.setIfInBounds_toArray, List.set_cons_zero, List.set_cons_succ]
          refine Till.take 16 (some 55) (v := ?_) rfl rfl (by kernel_rfl) (by kernel_rfl) (by kernel_rfl) (by kernel_rfl) (fun _ _ _ h => h) (Or.inl ⟨by rfl, ?_⟩) (by assumption) ?_
          rotate_left
          · (intro w hSw; (try dsimp only at hSw); go_simp; try with_reducible rfl)
          try simp only [Act.put, List.setIfInBounds_toArray, List.set_cons_zero, List.set_cons_succ]
          refine Till.take 17 (some 56) (v := ?_) rfl rfl (by kernel_rfl) (by kernel_rfl) (by kernel_rfl) (by kernel_rfl) (fun _ _ _ h => h) (Or.inl ⟨by rfl, ?_⟩) (by assumption) ?_
          rotate_left
          · (intro w hSw; (try dsimp only at hSw); go_simp; try with_reducible rfl)
          try simp only [Act.put, List.setIfInBounds_toArray, List.set_cons_zero, List.set_cons_succ]
          refine Till.take 18 (some 57) (v := ?_) rfl rfl (by kernel_rfl) (by kernel_rfl) (by kernel_rfl) (by kernel_rfl) (fun _ _ _ h => h) (Or.inl ⟨by rfl, ?_⟩) (by assumption) ?_
          rotate_left
          · (intro w hSw; (try dsimp only at hSw); go_simp; try with_reducible rfl)
          try simp only [Act.put, List.setIfInBounds_toArray, List.set_cons_zero, List.set_cons_succ]
          refine Till.one 19 rfl (by kernel_rfl) (fun K hK => ?_)
          go_simp
          go_at_call 65
          refine (hup _).mono ?_
          rintro e w3 ⟨rfl, hw3⟩
          subst hw3
          refine hK.out _ _ (fun _ => hHeld) (fun _ => ?_)
          clear hK K hup
          try simp only [Act.put, List.setIfInBounds_toArray, List.set_cons_zero, List.set_cons_succ]
          refine Till.take 20 (some 59) (v := ?_) rfl rfl (by kernel_rfl) (by kernel_rfl) (by kernel_rfl) (by kernel_rfl) (fun _ _ _ h => h) (Or.inl ⟨by rfl, ?_⟩) (by assumption) ?_
          rotate_left
          · (intro w hSw; (try dsimp only at hSw); go_simp; try with_reducible rfl)
          try simp only [Act.put, List.setIfInBounds_toArray, List.set_cons_zero, List.set_cons_succ]
          refine Till.take 21 (some 7) (v := ?_) rfl rfl (by kernel_rfl) (by kernel_rfl) (by kernel_rfl) (by kernel_rfl) (fun _ _ _ h => h) (Or.inl ⟨by rfl, ?_⟩) (by assumption) ?_
          rotate_left
          · (intro w hSw; (try dsimp only at hSw); go_simp; try with_reducible rfl)
          try simp only [Act.put, List.setIfInBounds_toArray, List.set_cons_zero, List.set_cons_succ]
          refine Till.done (by kernel_rfl) ?_ _
          clear hHeld y1 y3 y4 nP t1 t2 t3 t4 t5 hmx hbP
          go_wp2
          go_roundw
          case rel => exact ⟨k + 1, M, by omega, rfl, by go_num, HN, HD.out⟩
          case measure => simp [intOf]; omega
        · obtain rfl : k = (needS b l).length := by omega
          have hI2 := hli.out
          rw [HLEN.out] at hI2
          have HF := Lib.hid (lightI_end HOK.out hI2 (Nat.pos_of_ne_zero HOK.out.some) HALL.out)
          have HA := Lib.hid hAr2
          clear hI2 hli hb2 hAr2 hbn hB2 hBr hb hAr
          by_cases hbig : 100000 < out
          · have HF2 : Hid (lightF b l = 0) := Lib.hid (by rw [← HF.out, if_pos hbig])
            go_wp2
            go_ret
            exact ⟨ret_int HF2.out.symm, HA.out⟩
          · have HF2 : Hid (lightF b l = out) := Lib.hid (by rw [← HF.out, if_neg hbig])
            go_wp2
            go_ret
            exact ⟨ret_int HF2.out.symm, HA.out⟩

set_option maxHeartbeats 1000000 in
set_option maxRecDepth 100000 in
theorem rlightestP_any (vb : Value) (b : Bot) (l : Ld) (w : World) (h : RBot w vb b) :
    Calls Tryd.prog 36 #[vb, .agg #[.int .i64 l.press, .int .i64 l.force, .int .i64 l.speed, .int .i64 l.other]] w fun e w' => e = .returned (.tuple #[.int .i64 (lightS b l), .int .i64 (bothS b l)]) ∧ Below w.heap.size w w' := by
  have h0 := h
  obtain ⟨v0, rfl, hr, hI⟩ := h
  obtain ⟨a, cap, rfl, -, -, -⟩ := hr
  have hA : Below w.heap.size w ((w.alloc (.cells #[.slice a b.rings.length cap, .int .i64 b.flaw, .int .i64 b.tough] 24)).alloc (.cells #[.int .i64 l.press, .int .i64 l.force, .int .i64 l.speed, .int .i64 l.other] 27)) := (below_boxS w _).alloc (by simp) _
  have hB := (Blk.new w #[.slice a b.rings.length cap, .int .i64 b.flaw, .int .i64 b.tough] 24).alloc (.cells #[.int .i64 l.press, .int .i64 l.force, .int .i64 l.speed, .int .i64 l.other] 27)
  have hL := Blk.new (w.alloc (.cells #[.slice a b.rings.length cap, .int .i64 b.flaw, .int .i64 b.tough] 24)) #[.int .i64 l.press, .int .i64 l.force, .int .i64 l.speed, .int .i64 l.other] 27
  rw [World.size_alloc] at hL
  have HR := Lib.hid (fun V (hV : Below w.heap.size w V) => h0.mono (ext_of_below hV))
  clear h0
  go_enter Tryd.func36, Tryd.ntmps36
  go_wp2_with fail
  generalize (w.alloc (.cells #[.slice a b.rings.length cap, .int .i64 b.flaw, .int .i64 b.tough] 24)).alloc _ = W2 at *
  refine (rloaded_any _ b l _ (HR.out _ hA)).mono ?_
  rintro e w3 ⟨rfl, hb3⟩
  have hA3 := hA.trans (hb3.mono hA.size)
  have hB3 := hB.below hb3 hB.lt
  have hL3 := hL.below hb3 hL.lt
  clear hA hB hL hb3
  by_cases hc : bothS b l = 0
  case neg =>
    have hne : (bothS b l != 0) = true := by simpa using hc
    have HF := Lib.hid (show lightS b l = 0 by rw [lightS, if_neg hc])
    clear hB3 hL3 hc
    go_wp2
    go_ret2
    exact ⟨by rw [HF.out]; rfl, hA3⟩
  have HC := Lib.hid hc
  have HF := Lib.hid (show lightS b l = lightF b l by rw [lightS, if_pos hc])
  rw [hc]
  clear hc
  have c0 := hB3.cell 0 _ rfl
  have c1 := hB3.cell 1 _ rfl
  have c2 := hB3.cell 2 _ rfl
  have l0 := hL3.cell 0 _ rfl
  have l1 := hL3.cell 1 _ rfl
  have l2 := hL3.cell 2 _ rfl
  have l3 := hL3.cell 3 _ rfl
  go_wp2_with fail
  refine (rlightest_any _ b l _ (HR.out _ hA3) (both_ok HC.out).1 (both_ok HC.out).2).mono ?_
  rintro e w4 ⟨rfl, hb4⟩
  have HA := Lib.hid (hA3.trans (hb4.mono hA3.size))
  clear hA3 hB3 hL3 hb4 c0 c1 c2 l0 l1 l2 l3
  go_wp2
  go_ret2
  exact ⟨by rw [HC.out, HF.out]; rfl, HA.out⟩

end Go.Proofs.YtokgnbagegcnpaaDoor
