/- The law StrengthKnown; no statement is proved here. -/
import Derived.Test.YtaldpalhckdcdaaGreatDoorKnC
import Derived.Test.YtaldpalhckdcdaaGreatDoorBurst2
import Derived.Test.YtaldpalhckdcdaaGreatDoorLeSh
import Derived.Test.YtaldpalhckdcdaaGreatDoorLeC
import Derived.Test.YtaldpalhckdcdaaGreatDoorMoreM
namespace Go.Proofs.YtaldpalhckdcdaaGreatDoor
open Go.RowKit Go.PlainAid
set_option linter.unusedVariables false
set_option linter.unusedSimpArgs false
attribute [local go_sem] beq_self_eq_true bne_self_eq_false
theorem neq_spanK (x1 x2 : Int) (w : World) : Sem.run Tryz.prog (Go.binOp .neq 27 (.agg #[.int .i64 x1, .int .i64 x2]) (.agg #[.int .i64 x1, .int .i64 x2])) w = .ok (.bool false) w := by
  rw [run_neq_struct]
  simp [go_sem]
theorem neq_ratioK (x1 x2 : Int) (w : World) : Sem.run Tryz.prog (Go.binOp .neq 47 (.agg #[.int .i64 x1, .int .i64 x2]) (.agg #[.int .i64 x1, .int .i64 x2])) w = .ok (.bool false) w := by
  rw [run_neq_struct]
  simp [go_sem]
def TrueK (w : World) (e : Ending) (w' : World) : Prop := e = .returned (.bool true) ∧ Below w.heap.size w w'
/-- a slice of one span, in whatever world of a family. -/
theorem one_span {B : Nat} {w' : World} {v : Value} {s : Sp} (h : RSps (vis (B ≤ ·) w') v [s]) : ∃ b o c, v = .slice (some ⟨b, o, none⟩) 1 c ∧ w'.cell? ⟨b, o, none⟩ = some (.int .i64 s.lo) ∧ w'.cell? ⟨b, o + 1, none⟩ = some (.int .i64 s.hi) := by
  obtain ⟨a, c, rfl, -, -, hl⟩ := h
  obtain ⟨b, o, rfl, q1, q2, -⟩ := hl 0 (by simp)
  exact ⟨b, o, c, rfl, (vis_cell.1 (by simpa using q1)).2, (vis_cell.1 (by simpa using q2)).2⟩
theorem sps_of {w : World} {p : Nat} {s : Sp} {T : TypeId} (h : Blk w p #[.int .i64 s.lo, .int .i64 s.hi] T) (h1 : I64 s.lo) (h2 : I64 s.hi) : RSps w (.slice (some ⟨p, 0, none⟩) 1 1) [s] :=
  ⟨_, 1, rfl, Nat.le_refl _, ⟨by omega, by simp⟩, fun i hi => ⟨p, 0, rfl, by
    have hi0 : i = 0 := by have : i < 1 := hi; omega
    subst hi0
    have a := h.cell 0 _ rfl
    have b := h.cell 1 _ rfl
    exact ⟨by simpa using a, by simpa using b, h1, h2⟩⟩⟩

theorem ints_one {w : World} {p : Nat} {n : Int} {T : TypeId} (h : Blk w p #[.int .i64 n] T) (h1 : I64 n) : RInts w (.slice (some ⟨p, 0, none⟩) 1 1) [n] :=
  ⟨_, 1, rfl, Nat.le_refl _, ⟨by omega, by simp⟩, fun i hi => ⟨p, 0, rfl, by
    have hi0 : i = 0 := by have : i < 1 := hi; omega
    subst hi0
    exact ⟨by simpa using h.cell 0 _ rfl, h1⟩⟩⟩

theorem ints_two {w : World} {p : Nat} {n m : Int} {T : TypeId} (h : Blk w p #[.int .i64 n, .int .i64 m] T) (h1 : I64 n) (h2 : I64 m) : RInts w (.slice (some ⟨p, 0, none⟩) 2 2) [n, m] :=
  ⟨_, 2, rfl, Nat.le_refl _, ⟨by omega, by simp⟩, fun i hi => ⟨p, 0, rfl, by
    have a := h.cell 0 _ rfl
    have b := h.cell 1 _ rfl
    have hi0 : i = 0 ∨ i = 1 := by have : i < 2 := hi; omega
    rcases hi0 with rfl | rfl
    · exact ⟨by simpa using a, h1⟩
    · exact ⟨by simpa using b, h2⟩⟩⟩

theorem prps_of {w : World} {p : Nat} {m : Prp} {v : Value} {T : TypeId} (h : Blk w p #[.string m.name, v, .int .i64 m.target.lo, .int .i64 m.target.hi] T) (hv : RInts w v m.coefs) (hn : m.name.size ≤ 140737488351232) (h1 : I64 m.target.lo) (h2 : I64 m.target.hi) : RPrps w (.slice (some ⟨p, 0, none⟩) 1 1) [m] :=
  ⟨_, 1, rfl, Nat.le_refl _, ⟨by omega, by simp⟩, fun i hi => ⟨p, 0, rfl, by
    have hi0 : i = 0 := by have : i < 1 := hi; omega
    subst hi0
    have a := h.cell 0 _ rfl
    have b := h.cell 1 _ rfl
    have c := h.cell 2 _ rfl
    have d := h.cell 3 _ rfl
    exact ⟨v, ⟨by simpa using a, by simpa using b, by simpa using c, by simpa using d⟩, hv, hn, h1, h2⟩⟩⟩

def badR : Rg := ⟨⟨300, 300⟩, ⟨1000, 1000⟩, ⟨0, 999⟩, ⟨1000, 1000⟩, ⟨500, 500⟩⟩
theorem bot_of {w : World} {g : Nat} {T : TypeId} (hG : Blk w g (rgCells badR).toArray T) : RBot w (.agg #[.slice (some ⟨g, 0, none⟩) 1 1, .int .i64 10, .int .i64 40000000000]) ⟨[⟨⟨300, 300⟩, ⟨1000, 1000⟩, ⟨0, 999⟩, ⟨1000, 1000⟩, ⟨500, 500⟩⟩], 10, 40000000000⟩ :=
  ⟨_, rfl, ⟨_, 1, rfl, Nat.le_refl _, ⟨by omega, by simp⟩, fun i hi => ⟨g, 0, rfl, fun j x hj => by
      have hi0 : i = 0 := by have : i < 1 := hi; omega
      subst hi0
      have hj' : (rgCells badR)[j]? = some x := hj
      have := hG.cell j x (by simpa using hj')
      simpa using this, by
      have hi0 : i = 0 := by have : i < 1 := hi; omega
      subst hi0
      show I64r badR
      exact ⟨⟨i64d _ (by decide), i64d _ (by decide)⟩, ⟨i64d _ (by decide), i64d _ (by decide)⟩, ⟨i64d _ (by decide), i64d _ (by decide)⟩, ⟨i64d _ (by decide), i64d _ (by decide)⟩, ⟨i64d _ (by decide), i64d _ (by decide)⟩⟩⟩⟩, i64d _ (by decide), i64d _ (by decide)⟩
theorem lr_of {W : World} {p : Nat} {T : TypeId} (hK : Blk W p #[.int .i64 0, .int .i64 5600, .int .i64 0, .int .i64 5600, .int .i64 130, .int .i64 4600, .int .i64 150, .int .i64 600] T) : RLr W (.agg #[.slice (some ⟨p, 0, none⟩) 4 4, .int .i64 100]) ⟨[⟨0, 5600⟩, ⟨0, 5600⟩, ⟨130, 4600⟩, ⟨150, 600⟩], 100⟩ := by
  have k0 := hK.cell 0 _ rfl
  have k1 := hK.cell 1 _ rfl
  have k2 := hK.cell 2 _ rfl
  have k3 := hK.cell 3 _ rfl
  have k4 := hK.cell 4 _ rfl
  have k5 := hK.cell 5 _ rfl
  have k6 := hK.cell 6 _ rfl
  have k7 := hK.cell 7 _ rfl
  simp only [List.getElem_toArray, List.getElem_cons_zero, List.getElem_cons_succ] at k0 k1 k2 k3 k4 k5 k6 k7
  exact ⟨_, rfl, ⟨_, 4, rfl, Nat.le_refl _, ⟨by omega, by simp⟩, fun i hi => ⟨p, 0, rfl, by
    have hi4 : i = 0 ∨ i = 1 ∨ i = 2 ∨ i = 3 := by have : i < 4 := hi; omega
    rcases hi4 with rfl | rfl | rfl | rfl
    · exact ⟨k0, k1, i64d 0 (by decide), i64d 5600 (by decide)⟩
    · exact ⟨k2, k3, i64d 0 (by decide), i64d 5600 (by decide)⟩
    · exact ⟨k4, k5, i64d 130 (by decide), i64d 4600 (by decide)⟩
    · exact ⟨k6, k7, i64d 150 (by decide), i64d 600 (by decide)⟩⟩⟩, i64d 100 (by decide)⟩

set_option maxHeartbeats 8000000 in
set_option maxRecDepth 100000 in
theorem sKnownLaw_any (w : World) (hC : Circ w) : Calls Tryz.prog 3 #[] w (TrueK w) := by
  have HC := Lib.hid (fun V (hV : Below w.heap.size w V) => hC.mono (ext_of_below hV))
  clear hC
  go_enter Tryz.func3, Tryz.ntmps3
  go_wp2_with fail
  refine (example5B_any _).mono ?_
  rintro e w1 ⟨g, rfl, hg, hRB, hG1, hA1⟩
  have HG1 := Lib.hid hG1.lt
  have HG0 := Lib.hid hg
  clear hg
  have hA2 := hA1.alloc hA1.size (.cells #[.slice (some ⟨g, 0, none⟩) 1 1, .int .i64 10, .int .i64 40000000000] 24)
  have hB2 := Blk.new w1 #[.slice (some ⟨g, 0, none⟩) 1 1, .int .i64 10, .int .i64 40000000000] 24
  have hG2 := hG1.alloc (.cells #[.slice (some ⟨g, 0, none⟩) 1 1, .int .i64 10, .int .i64 40000000000] 24)
  have hR2 := hRB.mono (ext_of_below (below_boxS w1 (.cells #[.slice (some ⟨g, 0, none⟩) 1 1, .int .i64 10, .int .i64 40000000000] 24)))
  have hA3 := hA2.alloc hA2.size (.cells #[.int .i64 200, .int .i64 200] 27)
  have hB3 := hB2.alloc (.cells #[.int .i64 200, .int .i64 200] 27)
  have hG3 := hG2.alloc (.cells #[.int .i64 200, .int .i64 200] 27)
  have hT3 := Blk.new (w1.alloc (.cells #[.slice (some ⟨g, 0, none⟩) 1 1, .int .i64 10, .int .i64 40000000000] 24)) #[.int .i64 200, .int .i64 200] 27
  have hR3 := hR2.mono (ext_of_below (below_boxS _ (.cells #[.int .i64 200, .int .i64 200] 27)))
  rw [World.size_alloc] at hT3
  clear hA1 hG1 hRB hA2 hB2 hG2 hR2
  have c0 := hB3.cell 0 _ rfl
  have c1 := hB3.cell 1 _ rfl
  have c2 := hB3.cell 2 _ rfl
  go_wp2_with fail
  generalize (w1.alloc (.cells #[.slice (some ⟨g, 0, none⟩) 1 1, .int .i64 10, .int .i64 40000000000] 24)).alloc (.cells #[.int .i64 200, .int .i64 200] 27) = W at *
  have hTS := sps_of (s := ⟨200, 200⟩) hT3 (i64d 200 (by decide)) (i64d 200 (by decide))
  have HR := Lib.hid (fun V (hV : Below W.heap.size W V) => hR3.mono (ext_of_below hV))
  have HTS := Lib.hid (fun V (hV : Below W.heap.size W V) => hTS.mono (ext_of_below hV))
  have hW3 := Below.refl W.heap.size W
  clear hR3 hTS hT3
  refine (stressP_any _ _ exB5 [⟨200, 200⟩] ⟨1000, 0, 0, 0⟩ _ (HR.out _ hW3) (HTS.out _ hW3) (HC.out _ hA3)).mono ?_
  rintro e w4 ⟨v1, rfl, hv1, hb⟩
  have hA4 := hA3.trans (hb.mono hA3.size)
  have hW4 := hW3.trans (hb.mono hW3.size)
  have hB4 := hB3.below hb hB3.lt
  have hG4 := hG3.below hb hG3.lt
  clear hb hA3 hW3 hB3 hG3
  clear c0 c1 c2
  rw [kn_str1] at hv1
  obtain ⟨b1, o1, k1, rfl, p0, p1⟩ := one_span hv1
  simp only at p0 p1
  rw [kn_wall1]
  clear hv1
  have c0 := hB4.cell 0 _ rfl
  have c1 := hB4.cell 1 _ rfl
  have c2 := hB4.cell 2 _ rfl
  go_wp2_with fail
  refine (stressP_any _ _ exB5 [⟨200, 200⟩] ⟨0, 1000, 100, 7⟩ _ (HR.out _ hW4) (HTS.out _ hW4) (HC.out _ hA4)).mono ?_
  rintro e w5 ⟨v2, rfl, hv2, hb⟩
  have p0 := ext_of_below hb _ _ p0
  have p1 := ext_of_below hb _ _ p1
  have hA5 := hA4.trans (hb.mono hA4.size)
  have hW5 := hW4.trans (hb.mono hW4.size)
  have hB5 := hB4.below hb hB4.lt
  have hG5 := hG4.below hb hG4.lt
  clear hb hA4 hW4 hB4 hG4
  clear c0 c1 c2
  rw [kn_str2] at hv2
  obtain ⟨b2, o2, k2, rfl, q0, q1⟩ := one_span hv2
  simp only at q0 q1
  rw [kn_wall2]
  clear hv2
  have c0 := hB5.cell 0 _ rfl
  have c1 := hB5.cell 1 _ rfl
  have c2 := hB5.cell 2 _ rfl
  have hA6 := hA5.alloc hA5.size (.cells #[.int .i64 200, .int .i64 250] 27)
  have hW6 := hW5.alloc hW5.size (.cells #[.int .i64 200, .int .i64 250] 27)
  have hB6 := hB5.alloc (.cells #[.int .i64 200, .int .i64 250] 27)
  have hG6 := hG5.alloc (.cells #[.int .i64 200, .int .i64 250] 27)
  have hT6 := Blk.new w5 #[.int .i64 200, .int .i64 250] 27
  clear hA5 hW5 hB5 hG5
  have p0 := ext_of_below (below_boxS w5 (.cells #[.int .i64 200, .int .i64 250] 27)) _ _ p0
  have p1 := ext_of_below (below_boxS w5 (.cells #[.int .i64 200, .int .i64 250] 27)) _ _ p1
  have q0 := ext_of_below (below_boxS w5 (.cells #[.int .i64 200, .int .i64 250] 27)) _ _ q0
  have q1 := ext_of_below (below_boxS w5 (.cells #[.int .i64 200, .int .i64 250] 27)) _ _ q1
  have hTS := sps_of (s := ⟨200, 250⟩) hT6 (i64d 200 (by decide)) (i64d 250 (by decide))
  go_wp2_with fail
  generalize w5.alloc (.cells #[.int .i64 200, .int .i64 250] 27) = w6 at *
  refine (burstP_any _ _ exB5 [⟨200, 250⟩] ⟨0, 0, 0, 0⟩ _ (HR.out _ hW6) hTS (HC.out _ hA6)).mono ?_
  rintro e w7 ⟨u, rfl, hu1, hu2, hb⟩
  obtain rfl := kn_burst (hu1 kn_wall3)
  rw [kn_wall3]
  have p0 := ext_of_below hb _ _ p0
  have p1 := ext_of_below hb _ _ p1
  have q0 := ext_of_below hb _ _ q0
  have q1 := ext_of_below hb _ _ q1
  have hA7 := hA6.trans (hb.mono hA6.size)
  have hW7 := hW6.trans (hb.mono hW6.size)
  have hB7 := hB6.below hb hB6.lt
  have hG7 := hG6.below hb hG6.lt
  clear hb hA6 hW6 hB6 hG6
  clear c0 c1 c2 hu1 hu2 hTS hT6
  have hA8 := hA7.alloc hA7.size (.cells #[.int .i64 4216, .int .i64 5271] 27)
  have hW8 := hW7.alloc hW7.size (.cells #[.int .i64 4216, .int .i64 5271] 27)
  have hB8 := hB7.alloc (.cells #[.int .i64 4216, .int .i64 5271] 27)
  have hG8 := hG7.alloc (.cells #[.int .i64 4216, .int .i64 5271] 27)
  have hU8 := Blk.new w7 #[.int .i64 4216, .int .i64 5271] 27
  clear hA7 hW7 hB7 hG7
  have p0 := ext_of_below (below_boxS w7 (.cells #[.int .i64 4216, .int .i64 5271] 27)) _ _ p0
  have p1 := ext_of_below (below_boxS w7 (.cells #[.int .i64 4216, .int .i64 5271] 27)) _ _ p1
  have q0 := ext_of_below (below_boxS w7 (.cells #[.int .i64 4216, .int .i64 5271] 27)) _ _ q0
  have q1 := ext_of_below (below_boxS w7 (.cells #[.int .i64 4216, .int .i64 5271] 27)) _ _ q1
  have u0 := hU8.cell 0 _ rfl
  have u1 := hU8.cell 1 _ rfl
  have c0 := hB8.cell 0 _ rfl
  have c1 := hB8.cell 1 _ rfl
  have c2 := hB8.cell 2 _ rfl
  have n1 := fun w => neq_spanK 15000 15000 w
  have n2 := fun w => neq_spanK 2909 2910 w
  have n3 := fun w => neq_spanK 4216 5271 w
  go_wp2_with fail
  generalize w7.alloc (.cells #[.int .i64 4216, .int .i64 5271] 27) = w8 at *
  clear n1 n2 n3 u0 u1 p0 p1 q0 q1 hU8
  refine (neededP_any _ exB5 ⟨1000, 0, 0, 0⟩ _ (HR.out _ hW8) (HC.out _ hA8)).mono ?_
  rintro e w9 ⟨v3, rfl, hv3, hb⟩
  have hA9 := hA8.trans (hb.mono hA8.size)
  have hW9 := hW8.trans (hb.mono hW8.size)
  have hB9 := hB8.below hb hB8.lt
  have hG9 := hG8.below hb hG8.lt
  clear hb hA8 hW8 hB8 hG8
  clear c0 c1 c2
  rw [kn_needs] at hv3
  have hI := hv3.mono (vis_ext _ _)
  rw [kn_both]
  clear hv3
  have c0 := hB9.cell 0 _ rfl
  have c1 := hB9.cell 1 _ rfl
  have c2 := hB9.cell 2 _ rfl
  go_wp2_with fail
  refine (lightestP_any _ exB5 ⟨1000, 0, 0, 0⟩ _ (HR.out _ hW9) (HC.out _ hA9)).mono ?_
  rintro e w10 ⟨rfl, hb⟩
  rw [kn_light, kn_both]
  have hI := hI.mono (ext_of_below hb)
  have hA10 := hA9.trans (hb.mono hA9.size)
  have hW10 := hW9.trans (hb.mono hW9.size)
  have hB10 := hB9.below hb hB9.lt
  have hG10 := hG9.below hb hG9.lt
  clear hb hA9 hW9 hB9 hG9
  clear c0 c1 c2
  have hA11 := hA10.alloc hA10.size (.cells #[.int .i64 48] 3)
  have hW11 := hW10.alloc hW10.size (.cells #[.int .i64 48] 3)
  have hB11 := hB10.alloc (.cells #[.int .i64 48] 3)
  have hG11 := hG10.alloc (.cells #[.int .i64 48] 3)
  have hN11 := Blk.new w10 #[.int .i64 48] 3
  clear hA10 hW10 hB10 hG10
  have hI := hI.mono (ext_of_below (below_boxS w10 (.cells #[.int .i64 48] 3)))
  have hJ := ints_one hN11 (i64d 48 (by decide))
  go_wp2_with fail
  generalize w10.alloc (.cells #[.int .i64 48] 3) = w11 at *
  refine (sameInts_eq _ _ [48] _ hI hJ).mono ?_
  rintro e w12 ⟨rfl, nn, rfl⟩
  have hb := below_drewN6 (n := nn) (Below.refl w11.heap.size w11)
  have hA12 := hA11.trans (hb.mono hA11.size)
  have hW12 := hW11.trans (hb.mono hW11.size)
  have hB12 := hB11.below hb hB11.lt
  have hG12 := hG11.below hb hG11.lt
  clear hb hA11 hW11 hB11 hG11
  generalize w11.drewN nn = w12 at *
  clear hI hJ hN11
  go_wp2_with fail
  have HLT := Lib.hid (And.intro HG1.out hB12.lt)
  have HA12 := Lib.hid hA12.size
  refine (cooling_any _).mono ?_
  rintro e w13 ⟨gk, rfl, hgk, hRL, hK13, hb⟩
  have HGK := Lib.hid (And.intro hgk hK13.lt)
  clear hgk
  have hA13 := hA12.trans (hb.mono hA12.size)
  have hW13 := hW12.trans (hb.mono hW12.size)
  have hB13 := hB12.below hb hB12.lt
  have hG13 := hG12.below hb hG12.lt
  clear hb hA12 hW12 hB12 hG12
  have hA14 := hA13.alloc hA13.size (.cells #[.slice (some ⟨gk, 0, none⟩) 4 4, .int .i64 100] 44)
  have hW14 := hW13.alloc hW13.size (.cells #[.slice (some ⟨gk, 0, none⟩) 4 4, .int .i64 100] 44)
  have hB14 := hB13.alloc (.cells #[.slice (some ⟨gk, 0, none⟩) 4 4, .int .i64 100] 44)
  have hG14 := hG13.alloc (.cells #[.slice (some ⟨gk, 0, none⟩) 4 4, .int .i64 100] 44)
  have hK14 := hK13.alloc (.cells #[.slice (some ⟨gk, 0, none⟩) 4 4, .int .i64 100] 44)
  have hL14 := Blk.new w13 #[.slice (some ⟨gk, 0, none⟩) 4 4, .int .i64 100] 44
  clear hA13 hW13 hB13 hG13 hK13
  have hRL := hRL.mono (ext_of_below (below_boxS w13 (.cells #[.slice (some ⟨gk, 0, none⟩) 4 4, .int .i64 100] 44)))
  have l0 := hL14.cell 0 _ rfl
  have l1 := hL14.cell 1 _ rfl
  go_wp2_with fail
  generalize w13.alloc (.cells #[.slice (some ⟨gk, 0, none⟩) 4 4, .int .i64 100] 44) = w14 at *
  refine (steepP_any _ coolL ⟨4900, 5500⟩ _ hRL).mono ?_
  rintro e w15 ⟨rfl, hb⟩
  rw [kn_steep]
  have hRL := hRL.mono (ext_of_below hb)
  have hA15 := hA14.trans (hb.mono hA14.size)
  have hW15 := hW14.trans (hb.mono hW14.size)
  have hB15 := hB14.below hb hB14.lt
  have hG15 := hG14.below hb hG14.lt
  have hK15 := hK14.below hb hK14.lt
  have hL15 := hL14.below hb hL14.lt
  clear hb hA14 hW14 hB14 hG14 hK14 hL14
  clear l0 l1
  have hA16 := hA15.alloc hA15.size (.cells #[.int .i64 10, .int .i64 1] 47)
  have hW16 := hW15.alloc hW15.size (.cells #[.int .i64 10, .int .i64 1] 47)
  have hB16 := hB15.alloc (.cells #[.int .i64 10, .int .i64 1] 47)
  have hG16 := hG15.alloc (.cells #[.int .i64 10, .int .i64 1] 47)
  have hK16 := hK15.alloc (.cells #[.int .i64 10, .int .i64 1] 47)
  have hL16 := hL15.alloc (.cells #[.int .i64 10, .int .i64 1] 47)
  have hQ16 := Blk.new w15 #[.int .i64 10, .int .i64 1] 47
  clear hA15 hW15 hB15 hG15 hK15 hL15
  have hRL := hRL.mono (ext_of_below (below_boxS w15 (.cells #[.int .i64 10, .int .i64 1] 47)))
  have l0 := hL16.cell 0 _ rfl
  have l1 := hL16.cell 1 _ rfl
  go_wp2_with fail
  generalize w15.alloc (.cells #[.int .i64 10, .int .i64 1] 47) = w16 at *
  refine (heldP_any _ coolL 5400 _ hRL).mono ?_
  rintro e w17 ⟨rfl, hb⟩
  rw [kn_held]
  have hRL := hRL.mono (ext_of_below hb)
  have hA17 := hA16.trans (hb.mono hA16.size)
  have hW17 := hW16.trans (hb.mono hW16.size)
  have hB17 := hB16.below hb hB16.lt
  have hG17 := hG16.below hb hG16.lt
  have hK17 := hK16.below hb hK16.lt
  have hL17 := hL16.below hb hL16.lt
  have hQ17 := hQ16.below hb hQ16.lt
  clear hb hA16 hW16 hB16 hG16 hK16 hL16 hQ16
  clear l0 l1
  have l0 := hL17.cell 0 _ rfl
  have l1 := hL17.cell 1 _ rfl
  go_wp2_with fail
  refine (strainP_any _ coolL ⟨4900, 5500⟩ 300 _ hRL).mono ?_
  rintro e w18 ⟨rfl, hb⟩
  rw [kn_strain]
  clear hRL
  have hA18 := hA17.trans (hb.mono hA17.size)
  have hW18 := hW17.trans (hb.mono hW17.size)
  have hB18 := hB17.below hb hB17.lt
  have hG18 := hG17.below hb hG17.lt
  have hK18 := hK17.below hb hK17.lt
  have hL18 := hL17.below hb hL17.lt
  have hQ18 := hQ17.below hb hQ17.lt
  clear hb hA17 hW17 hB17 hG17 hK17 hL17 hQ17
  clear l0 l1
  have r0 := hQ18.cell 0 _ rfl
  have r1 := hQ18.cell 1 _ rfl
  have n1 := fun w => neq_ratioK 10 1 w
  go_wp2_with fail
  refine (B1.example_any _).mono ?_
  rintro e w19 ⟨vb, rfl, hvb, hb⟩
  have hA19 := hA18.trans (hb.mono hA18.size)
  have hW19 := hW18.trans (hb.mono hW18.size)
  have hB19 := hB18.below hb hB18.lt
  have hG19 := hG18.below hb hG18.lt
  have hK19 := hK18.below hb hK18.lt
  have hL19 := hL18.below hb hL18.lt
  clear hb hA18 hW18 hB18 hG18 hK18 hL18
  clear r0 r1 n1 hQ18
  have hBat := hvb.mono (vis_ext _ _)
  obtain ⟨a0, j0, a1, j1, a2, j2, a3, j3, rfl⟩ := hBat.agg
  clear hvb
  have l0 := hL19.cell 0 _ rfl
  have l1 := hL19.cell 1 _ rfl
  have hA20 : Below w.heap.size w ((((w19.alloc (.cells #[.slice a0 B1.exB.oxides.length j0, .slice a1 B1.exB.mats.length j1, .slice a2 B1.exB.shares.length j2, .slice (some ⟨w19.heap.size + 1 + 1, 0, none⟩) 1 1, .int .i64 B1.exB.redox.lo, .int .i64 B1.exB.redox.hi, .int .i64 B1.exB.wanted] 56)).alloc (.cells #[.int .i64 500, .int .i64 2000] 3)).alloc (.cells #[.string ⟨#[101, 120, 112, 97, 110, 115, 105, 111, 110]⟩, .slice (some ⟨w19.heap.size + 1, 0, none⟩) 2 2, .int .i64 0, .int .i64 2000] 59)).alloc (.cells #[.int .i64 80, .int .i64 40] 3)) := (((hA19.alloc hA19.size _).alloc (by have := hA19.size; simp only [World.size_alloc]; omega) _).alloc (by have := hA19.size; simp only [World.size_alloc]; omega) _).alloc (by have := hA19.size; simp only [World.size_alloc]; omega) _
  have hW20 : Below W.heap.size W ((((w19.alloc (.cells #[.slice a0 B1.exB.oxides.length j0, .slice a1 B1.exB.mats.length j1, .slice a2 B1.exB.shares.length j2, .slice (some ⟨w19.heap.size + 1 + 1, 0, none⟩) 1 1, .int .i64 B1.exB.redox.lo, .int .i64 B1.exB.redox.hi, .int .i64 B1.exB.wanted] 56)).alloc (.cells #[.int .i64 500, .int .i64 2000] 3)).alloc (.cells #[.string ⟨#[101, 120, 112, 97, 110, 115, 105, 111, 110]⟩, .slice (some ⟨w19.heap.size + 1, 0, none⟩) 2 2, .int .i64 0, .int .i64 2000] 59)).alloc (.cells #[.int .i64 80, .int .i64 40] 3)) := (((hW19.alloc hW19.size _).alloc (by have := hW19.size; simp only [World.size_alloc]; omega) _).alloc (by have := hW19.size; simp only [World.size_alloc]; omega) _).alloc (by have := hW19.size; simp only [World.size_alloc]; omega) _
  have hB20 := ((((hB19.alloc (.cells #[.slice a0 B1.exB.oxides.length j0, .slice a1 B1.exB.mats.length j1, .slice a2 B1.exB.shares.length j2, .slice (some ⟨w19.heap.size + 1 + 1, 0, none⟩) 1 1, .int .i64 B1.exB.redox.lo, .int .i64 B1.exB.redox.hi, .int .i64 B1.exB.wanted] 56)).alloc (.cells #[.int .i64 500, .int .i64 2000] 3)).alloc (.cells #[.string ⟨#[101, 120, 112, 97, 110, 115, 105, 111, 110]⟩, .slice (some ⟨w19.heap.size + 1, 0, none⟩) 2 2, .int .i64 0, .int .i64 2000] 59)).alloc (.cells #[.int .i64 80, .int .i64 40] 3))
  have hG20 := ((((hG19.alloc (.cells #[.slice a0 B1.exB.oxides.length j0, .slice a1 B1.exB.mats.length j1, .slice a2 B1.exB.shares.length j2, .slice (some ⟨w19.heap.size + 1 + 1, 0, none⟩) 1 1, .int .i64 B1.exB.redox.lo, .int .i64 B1.exB.redox.hi, .int .i64 B1.exB.wanted] 56)).alloc (.cells #[.int .i64 500, .int .i64 2000] 3)).alloc (.cells #[.string ⟨#[101, 120, 112, 97, 110, 115, 105, 111, 110]⟩, .slice (some ⟨w19.heap.size + 1, 0, none⟩) 2 2, .int .i64 0, .int .i64 2000] 59)).alloc (.cells #[.int .i64 80, .int .i64 40] 3))
  have hK20 := ((((hK19.alloc (.cells #[.slice a0 B1.exB.oxides.length j0, .slice a1 B1.exB.mats.length j1, .slice a2 B1.exB.shares.length j2, .slice (some ⟨w19.heap.size + 1 + 1, 0, none⟩) 1 1, .int .i64 B1.exB.redox.lo, .int .i64 B1.exB.redox.hi, .int .i64 B1.exB.wanted] 56)).alloc (.cells #[.int .i64 500, .int .i64 2000] 3)).alloc (.cells #[.string ⟨#[101, 120, 112, 97, 110, 115, 105, 111, 110]⟩, .slice (some ⟨w19.heap.size + 1, 0, none⟩) 2 2, .int .i64 0, .int .i64 2000] 59)).alloc (.cells #[.int .i64 80, .int .i64 40] 3))
  have hL20 := ((((hL19.alloc (.cells #[.slice a0 B1.exB.oxides.length j0, .slice a1 B1.exB.mats.length j1, .slice a2 B1.exB.shares.length j2, .slice (some ⟨w19.heap.size + 1 + 1, 0, none⟩) 1 1, .int .i64 B1.exB.redox.lo, .int .i64 B1.exB.redox.hi, .int .i64 B1.exB.wanted] 56)).alloc (.cells #[.int .i64 500, .int .i64 2000] 3)).alloc (.cells #[.string ⟨#[101, 120, 112, 97, 110, 115, 105, 111, 110]⟩, .slice (some ⟨w19.heap.size + 1, 0, none⟩) 2 2, .int .i64 0, .int .i64 2000] 59)).alloc (.cells #[.int .i64 80, .int .i64 40] 3))
  have hM20 := ((((Blk.new w19 #[.slice a0 B1.exB.oxides.length j0, .slice a1 B1.exB.mats.length j1, .slice a2 B1.exB.shares.length j2, .slice (some ⟨w19.heap.size + 1 + 1, 0, none⟩) 1 1, .int .i64 B1.exB.redox.lo, .int .i64 B1.exB.redox.hi, .int .i64 B1.exB.wanted] 56).alloc (.cells #[.int .i64 500, .int .i64 2000] 3)).alloc (.cells #[.string ⟨#[101, 120, 112, 97, 110, 115, 105, 111, 110]⟩, .slice (some ⟨w19.heap.size + 1, 0, none⟩) 2 2, .int .i64 0, .int .i64 2000] 59)).alloc (.cells #[.int .i64 80, .int .i64 40] 3))
  have hI20 := (((Blk.new (w19.alloc (.cells #[.slice a0 B1.exB.oxides.length j0, .slice a1 B1.exB.mats.length j1, .slice a2 B1.exB.shares.length j2, .slice (some ⟨w19.heap.size + 1 + 1, 0, none⟩) 1 1, .int .i64 B1.exB.redox.lo, .int .i64 B1.exB.redox.hi, .int .i64 B1.exB.wanted] 56)) #[.int .i64 500, .int .i64 2000] 3).alloc (.cells #[.string ⟨#[101, 120, 112, 97, 110, 115, 105, 111, 110]⟩, .slice (some ⟨w19.heap.size + 1, 0, none⟩) 2 2, .int .i64 0, .int .i64 2000] 59)).alloc (.cells #[.int .i64 80, .int .i64 40] 3))
  have hP20 := ((Blk.new ((w19.alloc (.cells #[.slice a0 B1.exB.oxides.length j0, .slice a1 B1.exB.mats.length j1, .slice a2 B1.exB.shares.length j2, .slice (some ⟨w19.heap.size + 1 + 1, 0, none⟩) 1 1, .int .i64 B1.exB.redox.lo, .int .i64 B1.exB.redox.hi, .int .i64 B1.exB.wanted] 56)).alloc (.cells #[.int .i64 500, .int .i64 2000] 3)) #[.string ⟨#[101, 120, 112, 97, 110, 115, 105, 111, 110]⟩, .slice (some ⟨w19.heap.size + 1, 0, none⟩) 2 2, .int .i64 0, .int .i64 2000] 59).alloc (.cells #[.int .i64 80, .int .i64 40] 3))
  have hZ20 := (Blk.new (((w19.alloc (.cells #[.slice a0 B1.exB.oxides.length j0, .slice a1 B1.exB.mats.length j1, .slice a2 B1.exB.shares.length j2, .slice (some ⟨w19.heap.size + 1 + 1, 0, none⟩) 1 1, .int .i64 B1.exB.redox.lo, .int .i64 B1.exB.redox.hi, .int .i64 B1.exB.wanted] 56)).alloc (.cells #[.int .i64 500, .int .i64 2000] 3)).alloc (.cells #[.string ⟨#[101, 120, 112, 97, 110, 115, 105, 111, 110]⟩, .slice (some ⟨w19.heap.size + 1, 0, none⟩) 2 2, .int .i64 0, .int .i64 2000] 59)) #[.int .i64 80, .int .i64 40] 3)
  simp only [World.size_alloc] at hI20 hP20 hZ20
  clear hA19 hW19 hB19 hG19 hK19 hL19
  have hex := ext_of_below ((((below_boxS w19 (.cells #[.slice a0 B1.exB.oxides.length j0, .slice a1 B1.exB.mats.length j1, .slice a2 B1.exB.shares.length j2, .slice (some ⟨w19.heap.size + 1 + 1, 0, none⟩) 1 1, .int .i64 B1.exB.redox.lo, .int .i64 B1.exB.redox.hi, .int .i64 B1.exB.wanted] 56)).alloc (by simp) (.cells #[.int .i64 500, .int .i64 2000] 3)).alloc (by simp only [World.size_alloc]; omega) (.cells #[.string ⟨#[101, 120, 112, 97, 110, 115, 105, 111, 110]⟩, .slice (some ⟨w19.heap.size + 1, 0, none⟩) 2 2, .int .i64 0, .int .i64 2000] 59)).alloc (by simp only [World.size_alloc]; omega) (.cells #[.int .i64 80, .int .i64 40] 3))
  have hBat2 : RBat ((((w19.alloc (.cells #[.slice a0 B1.exB.oxides.length j0, .slice a1 B1.exB.mats.length j1, .slice a2 B1.exB.shares.length j2, .slice (some ⟨w19.heap.size + 1 + 1, 0, none⟩) 1 1, .int .i64 B1.exB.redox.lo, .int .i64 B1.exB.redox.hi, .int .i64 B1.exB.wanted] 56)).alloc (.cells #[.int .i64 500, .int .i64 2000] 3)).alloc (.cells #[.string ⟨#[101, 120, 112, 97, 110, 115, 105, 111, 110]⟩, .slice (some ⟨w19.heap.size + 1, 0, none⟩) 2 2, .int .i64 0, .int .i64 2000] 59)).alloc (.cells #[.int .i64 80, .int .i64 40] 3)) (.agg #[.slice a0 B1.exB.oxides.length j0, .slice a1 B1.exB.mats.length j1, .slice a2 B1.exB.shares.length j2, .slice (some ⟨w19.heap.size + 1 + 1, 0, none⟩) 1 1, .int .i64 B1.exB.redox.lo, .int .i64 B1.exB.redox.hi, .int .i64 B1.exB.wanted]) exK := by
    obtain ⟨v0', v1', v2', v3', he, r0, r1, r2, r3, i⟩ := hBat.mono hex
    simp only [Value.agg.injEq, Array.mk.injEq, List.cons.injEq, and_true, true_and] at he
    obtain ⟨rfl, rfl, rfl, -⟩ := he
    have hIn := ints_two hI20 (i64d 500 (by decide)) (i64d 2000 (by decide))
    exact ⟨_, _, _, _, rfl, r0, r1, r2, prps_of (m := ⟨⟨#[101, 120, 112, 97, 110, 115, 105, 111, 110]⟩, [500, 2000], ⟨0, 2000⟩⟩) hP20 hIn (by decide) (i64d 0 (by decide)) (i64d 2000 (by decide)), i⟩
  have hRec := ints_two hZ20 (i64d 80 (by decide)) (i64d 40 (by decide))
  have m0 := hM20.cell 0 _ rfl
  have m1 := hM20.cell 1 _ rfl
  have m2 := hM20.cell 2 _ rfl
  have m3 := hM20.cell 3 _ rfl
  have m4 := hM20.cell 4 _ rfl
  have m5 := hM20.cell 5 _ rfl
  have m6 := hM20.cell 6 _ rfl
  clear hex hBat hI20 hP20 hZ20
  go_wp2_with fail
  generalize ((((w19.alloc (.cells #[.slice a0 B1.exB.oxides.length j0, .slice a1 B1.exB.mats.length j1, .slice a2 B1.exB.shares.length j2, .slice (some ⟨w19.heap.size + 1 + 1, 0, none⟩) 1 1, .int .i64 B1.exB.redox.lo, .int .i64 B1.exB.redox.hi, .int .i64 B1.exB.wanted] 56)).alloc (.cells #[.int .i64 500, .int .i64 2000] 3)).alloc (.cells #[.string ⟨#[101, 120, 112, 97, 110, 115, 105, 111, 110]⟩, .slice (some ⟨w19.heap.size + 1, 0, none⟩) 2 2, .int .i64 0, .int .i64 2000] 59)).alloc (.cells #[.int .i64 80, .int .i64 40] 3)) = w20 at *
  generalize w19.heap.size = q19 at *
  refine (B1.valI_any _ _ exK [80, 40] 0 _ hBat2 hRec).mono ?_
  rintro e w21 ⟨rfl, hb⟩
  rw [kn_val]
  simp only
  have hBat2 := hBat2.mono (ext_of_below hb)
  have hA21 := hA20.trans (hb.mono hA20.size)
  have hW21 := hW20.trans (hb.mono hW20.size)
  have hB21 := hB20.below hb hB20.lt
  have hG21 := hG20.below hb hG20.lt
  have hK21 := hK20.below hb hK20.lt
  have hL21 := hL20.below hb hL20.lt
  have hM21 := hM20.below hb hM20.lt
  clear hb hA20 hW20 hB20 hG20 hK20 hL20 hM20
  clear m0 m1 m2 m3 m4 m5 m6 hRec l0 l1
  have hA23 := (hA21.alloc hA21.size (.cells #[.int .i64 832, .int .i64 843] 27)).alloc (hA21.alloc hA21.size (.cells #[.int .i64 832, .int .i64 843] 27)).size (.cells #[.int .i64 80, .int .i64 40] 3)
  have hW23 := (hW21.alloc hW21.size (.cells #[.int .i64 832, .int .i64 843] 27)).alloc (hW21.alloc hW21.size (.cells #[.int .i64 832, .int .i64 843] 27)).size (.cells #[.int .i64 80, .int .i64 40] 3)
  have hB23 := (hB21.alloc (.cells #[.int .i64 832, .int .i64 843] 27)).alloc (.cells #[.int .i64 80, .int .i64 40] 3)
  have hG23 := (hG21.alloc (.cells #[.int .i64 832, .int .i64 843] 27)).alloc (.cells #[.int .i64 80, .int .i64 40] 3)
  have hK23 := (hK21.alloc (.cells #[.int .i64 832, .int .i64 843] 27)).alloc (.cells #[.int .i64 80, .int .i64 40] 3)
  have hL23 := (hL21.alloc (.cells #[.int .i64 832, .int .i64 843] 27)).alloc (.cells #[.int .i64 80, .int .i64 40] 3)
  have hM22 := hM21.alloc (.cells #[.int .i64 832, .int .i64 843] 27)
  have hV23 := (Blk.new w21 #[.int .i64 832, .int .i64 843] 27).alloc (.cells #[.int .i64 80, .int .i64 40] 3)
  have hZ23 := Blk.new (w21.alloc (.cells #[.int .i64 832, .int .i64 843] 27)) #[.int .i64 80, .int .i64 40] 3
  rw [World.size_alloc] at hZ23
  have hBat2 := (hBat2.mono (ext_of_below (below_boxS w21 (.cells #[.int .i64 832, .int .i64 843] 27)))).mono (ext_of_below (below_boxS _ (.cells #[.int .i64 80, .int .i64 40] 3)))
  have hRec := ints_two hZ23 (i64d 80 (by decide)) (i64d 40 (by decide))
  have m0 := hM22.cell 0 _ rfl
  have m1 := hM22.cell 1 _ rfl
  have m2 := hM22.cell 2 _ rfl
  have m3 := hM22.cell 3 _ rfl
  have m4 := hM22.cell 4 _ rfl
  have m5 := hM22.cell 5 _ rfl
  have m6 := hM22.cell 6 _ rfl
  clear hA21 hW21 hB21 hG21 hK21 hL21 hM21 hZ23
  go_wp2_with fail
  generalize (w21.alloc (.cells #[.int .i64 832, .int .i64 843] 27)).alloc (.cells #[.int .i64 80, .int .i64 40] 3) = w23 at *
  refine (shockP_any _ _ exK [80, 40] 0 40 _ hBat2 hRec).mono ?_
  rintro e w24 ⟨rfl, hb⟩
  rw [kn_val, kn_shock]
  simp only
  clear m0 m1 m2 m3 m4 m5 m6 hRec hBat2 hM22
  have hA24 := hA23.trans (hb.mono hA23.size)
  have hW24 := hW23.trans (hb.mono hW23.size)
  have hB24 := hB23.below hb hB23.lt
  have hG24 := hG23.below hb hG23.lt
  have hK24 := hK23.below hb hK23.lt
  have hL24 := hL23.below hb hL23.lt
  have hV24 := hV23.below hb hV23.lt
  clear hb hA23 hW23 hB23 hG23 hK23 hL23 hV23
  have hA25 := hA24.alloc hA24.size (.cells #[.int .i64 14933, .int .i64 15131] 27)
  have hW25 := hW24.alloc hW24.size (.cells #[.int .i64 14933, .int .i64 15131] 27)
  have hB25 := hB24.alloc (.cells #[.int .i64 14933, .int .i64 15131] 27)
  have hG25 := hG24.alloc (.cells #[.int .i64 14933, .int .i64 15131] 27)
  have hK25 := hK24.alloc (.cells #[.int .i64 14933, .int .i64 15131] 27)
  have hL25 := hL24.alloc (.cells #[.int .i64 14933, .int .i64 15131] 27)
  have hV25 := hV24.alloc (.cells #[.int .i64 14933, .int .i64 15131] 27)
  have hY25 := Blk.new w24 #[.int .i64 14933, .int .i64 15131] 27
  clear hA24 hW24 hB24 hG24 hK24 hL24 hV24
  have u0 := hV25.cell 0 _ rfl
  have u1 := hV25.cell 1 _ rfl
  have y0 := hY25.cell 0 _ rfl
  have y1 := hY25.cell 1 _ rfl
  have z1 : wrap64 (35 * 832) = 29120 := by decide +kernel
  have z2 : wrap64 (29120 * 40) = 1164800 := by decide +kernel
  have z3 : wrap64 ((1164800 : Int).tdiv 78) = 14933 := by decide +kernel
  have z4 : wrap64 (35 * 843) = 29505 := by decide +kernel
  have z5 : wrap64 (29505 * 40) = 1180200 := by decide +kernel
  have z6 : wrap64 ((1180200 : Int).tdiv 78) = 15130 := by decide +kernel
  have c0 := hB25.cell 0 _ rfl
  have c1 := hB25.cell 1 _ rfl
  have c2 := hB25.cell 2 _ rfl
  have f4 := hG25.frozen 4
  have f5 := hG25.frozen 5
  have s4 := hG25.cell 4 _ rfl
  have s5 := hG25.cell 5 _ rfl
  obtain ⟨lt1, lt2⟩ := HLT.out
  obtain ⟨lt3, lt4⟩ := HGK.out
  have lt0 := HG0.out
  have HA := Lib.hid ((((hA25.setCell (p := ⟨g, 4, none⟩) (by simp only; omega) (.int .i64 0)).setCell (p := ⟨g, 5, none⟩) (by simp only; omega) (.int .i64 999)).setCell (p := ⟨gk, 2, none⟩) (by have := hA25.size; have := HA12.out; simp only; omega) (.int .i64 0)))
  have hL26 := (hL25.other ⟨g, 4, none⟩ (.int .i64 0) (by simp only; omega)).other ⟨g, 5, none⟩ (.int .i64 999) (by simp only; omega)
  have hK26 := (hK25.other ⟨g, 4, none⟩ (.int .i64 0) (by simp only; omega)).other ⟨g, 5, none⟩ (.int .i64 999) (by simp only; omega)
  have hB27 := ((hB25.other ⟨g, 4, none⟩ (.int .i64 0) (by simp only; omega)).other ⟨g, 5, none⟩ (.int .i64 999) (by simp only; omega)).other ⟨gk, 2, none⟩ (.int .i64 0) (by simp only; omega)
  have hL27 := hL26.other ⟨gk, 2, none⟩ (.int .i64 0) (by simp only; omega)
  have hG27 : Blk ((((w24.alloc (.cells #[.int .i64 14933, .int .i64 15131] 27)).setCell ⟨g, 4, none⟩ (.int .i64 0)).setCell ⟨g, 5, none⟩ (.int .i64 999)).setCell ⟨gk, 2, none⟩ (.int .i64 0)) g (rgCells badR).toArray 63 := by
    have := ((hG25.set 4 (.int .i64 0)).set 5 (.int .i64 999)).other ⟨gk, 2, none⟩ (.int .i64 0) (by simp only; omega)
    simpa [rgCells, exR, badR] using this
  have hK27 : Blk ((((w24.alloc (.cells #[.int .i64 14933, .int .i64 15131] 27)).setCell ⟨g, 4, none⟩ (.int .i64 0)).setCell ⟨g, 5, none⟩ (.int .i64 999)).setCell ⟨gk, 2, none⟩ (.int .i64 0)) gk #[.int .i64 0, .int .i64 5600, .int .i64 0, .int .i64 5600, .int .i64 130, .int .i64 4600, .int .i64 150, .int .i64 600] 65 := by
    have := hK26.set 2 (.int .i64 0)
    simpa using this
  have HBot := Lib.hid (bot_of hG27)
  have HLr := Lib.hid (lr_of hK27)
  have d0 := hL26.cell 0 _ rfl
  have fk := hK26.frozen 2
  have fk2 := hK25.frozen 2
  have k2c := hK25.cell 2 _ rfl
  have e0 := hB27.cell 0 _ rfl
  have e1 := hB27.cell 1 _ rfl
  have e2 := hB27.cell 2 _ rfl
  have h0 := hL27.cell 0 _ rfl
  have h1 := hL27.cell 1 _ rfl
  have HL27 := Lib.hid hL27
  clear lt0 lt1 lt2 lt3 lt4 hL26 hK26 hB27 hL27 hG27 hK27 hA25 hW25 hB25 hG25 hK25 hL25 hV25 hY25
  go_wp2_with fail
  generalize ((((w24.alloc (.cells #[.int .i64 14933, .int .i64 15131] 27)).setCell ⟨g, 4, none⟩ (.int .i64 0)).setCell ⟨g, 5, none⟩ (.int .i64 999)).setCell ⟨gk, 2, none⟩ (.int .i64 0)) = w26 at *
  refine (checkP_any _ _ _ HBot.out).mono ?_
  rintro e w27 ⟨rfl, hb⟩
  rw [kn_checkS]
  have hL28 := HL27.out.below hb HL27.out.lt
  have hA28 := HA.out.trans (hb.mono HA.out.size)
  have hLr := HLr.out.mono (ext_of_below hb)
  have l0 := hL28.cell 0 _ rfl
  have l1 := hL28.cell 1 _ rfl
  clear hb e0 e1 e2 h0 h1 hL28 d0 fk fk2 k2c c0 c1 c2 f4 f5 s4 s5 u0 u1 y0 y1
  go_wp2_with fail
  refine (checkLehrP_any _ _ _ hLr).mono ?_
  rintro e w28 ⟨rfl, hb⟩
  rw [kn_checkL]
  have hA29 := hA28.trans (hb.mono hA28.size)
  clear hb hA28 hLr l0 l1
  go_wp2_with fail
  refine (lives5_any _ (HC.out _ hA29)).mono ?_
  rintro e wl ⟨rfl, hbl⟩
  have hAl := hA29.trans (hbl.mono hA29.size)
  clear hbl hA29
  go_wp2
  go_ret
  exact ⟨rfl, hAl⟩

end Go.Proofs.YtaldpalhckdcdaaGreatDoor
