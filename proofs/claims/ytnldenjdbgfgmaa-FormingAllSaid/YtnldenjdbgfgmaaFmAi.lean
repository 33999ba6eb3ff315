/- Whether a time is in a stretch, as the laws of layer 4 ask it; no statement is proved here. -/
import Derived.Test.YtnldenjdbgfgmaaFmAm
import Derived.Test.YtnldenjdbgfgmaaFmRl
import Derived.Test.YtnldenjdbgfgmaaFmTu
namespace Go.Proofs.Ytnldenjdbgfgmaa
open Go.RowKit Go.PlainAid
set_option linter.unusedVariables false
set_option linter.unusedSimpArgs false

def Hit (c : Int) (x : St) (tn td k : Int) : Prop := ¬ (tn + k * c * td) * x.a.d < x.a.n * td ∧ ¬ x.b.n * td < (tn + k * c * td) * x.b.d
theorem hit_dec (A B : Prop) [Decidable A] [Decidable B] [Decidable (¬ A ∧ ¬ B)] : decide (¬ A ∧ ¬ B) = (!decide A && !decide B) := by
  by_cases a : A <;> by_cases b : B <;> simp [a, b]
instance (c : Int) (x : St) (tn td k : Int) : Decidable (Hit c x tn td k) := by unfold Hit; infer_instance
def InB (c : Int) (L : List St) (tn td : Int) : Prop := ∃ x, x ∈ L ∧ ∃ k : Int, (-1 ≤ k ∧ k ≤ 1) ∧ Hit c x tn td k
def InR (c : Int) (L : List St) (tn td : Int) (e : Ending) : Prop := ∃ b, e = .returned (.bool b) ∧ (b = true ↔ InB c L tn td)
theorem hit_iff {c : Int} {x : St} {tn td k : Int} (hx : IvOk x) (ht : 1 ≤ td) : Hit c x tn td k ↔ rv x.a ≤ (tn : Rat) / (td : Rat) + (k : Rat) * (c : Rat) ∧ (tn : Rat) / (td : Rat) + (k : Rat) * (c : Rat) ≤ rv x.b := by
  have e : rv ⟨tn + k * c * td, td⟩ = (tn : Rat) / (td : Rat) + (k : Rat) * (c : Rat) := by
    have hd := dpos ht
    rw [rv_div]
    simp only [Rat.intCast_add, Rat.intCast_mul]
    generalize (td : Rat) = d at *
    generalize (tn : Rat) = n at *
    generalize (k : Rat) = m at *
    generalize (c : Rat) = z at *
    grind
  rw [← e, rv_le hx.a.d.1 ht, rv_le (r := ⟨tn + k * c * td, td⟩) ht hx.b.d.1]
  unfold Hit
  simp only
  omega
/-- what the loops of in keep. -/
structure InI (w : World) (tn td : Int) (X : World) : Prop where
  t : Blk X w.heap.size #[.int .i64 tn, .int .i64 td] 24
  bel : Below w.heap.size w X
theorem InI.below {w X Y : World} {tn td : Int} (h : InI w tn td X) (hb : Below X.heap.size X Y) : InI w tn td Y := ⟨h.t.below hb h.t.lt, h.bel.trans (hb.mono h.bel.size)⟩
theorem k_bd {c td K : Int} (hc : 1 ≤ c ∧ c ≤ 3600) (ht : 1 ≤ td ∧ td ≤ 50) (hK : -1 ≤ K ∧ K ≤ 1) : (-3600 ≤ K * c ∧ K * c ≤ 3600) ∧ (-180000 ≤ K * c * td ∧ K * c * td ≤ 180000) := by
  have m1 := bd_mul (a := K) (b := c) (A := 1) (B := 3600) (by omega) (by omega) (by omega)
  have m2 := bd_mul (a := K * c) (b := td) (A := 3600) (B := 50) (by omega) (by omega) (by omega)
  omega

set_option maxHeartbeats 8000000 in
set_option maxRecDepth 100000 in
theorem in4_any (c : Int) (a : Option Addr) (cap : Nat) (L : List St) (tn td : Int) (w : World) (hr : RSts w (.slice a L.length cap) L) (hL : ∀ x, x ∈ L → IvOk x) (hc : 1 ≤ c ∧ c ≤ 3600) (ht : 1 ≤ td ∧ td ≤ 50) (hn : 0 ≤ tn ∧ tn ≤ 180000) :
    Calls Try.prog 19 #[.int .i64 c, .slice a L.length cap, .agg #[.int .i64 tn, .int .i64 td]] w fun e w' => InR c L tn td e ∧ Below w.heap.size w w' := by
  have hG : InI w tn td (w.alloc (.cells #[.int .i64 tn, .int .i64 td] 24)) := ⟨Blk.new w #[.int .i64 tn, .int .i64 td] 24, below_box w _⟩
  obtain ⟨a', c', e, -, ⟨-, hm⟩, h4⟩ := hr
  simp only [Value.slice.injEq, true_and] at e
  obtain ⟨rfl, rfl⟩ := e
  have HL := Lib.hid h4
  have HIV := Lib.hid hL
  clear h4 hL
  have HIN : Hid (∀ b : Bool, (b = true ↔ InB c L tn td) → InR c L tn td (.returned (.bool b))) := Lib.hid (fun b hb => ⟨b, rfl, hb⟩)
  have HNO : Hid ((∀ j, ∀ h : j < L.length, ∀ k : Int, -1 ≤ k → k ≤ 1 → ¬ Hit c (L[j]'h) tn td k) → InR c L tn td (.returned (.bool false))) := Lib.hid (fun hno => ⟨false, rfl, by
    simp only [Bool.false_eq_true, false_iff]
    rintro ⟨x, hx, k, hk, hh⟩
    obtain ⟨j, hj, rfl⟩ := List.getElem_of_mem hx
    exact hno j hj k hk.1 hk.2 hh⟩)
  go_enter Try.func19, Try.ntmps19
  go_wp2
  generalize (w.alloc (.cells #[.int .i64 tn, .int .i64 td] 24)) = w2 at *
  go_loopw [7] (fun i wr => ∃ j : Nat, j ≤ L.length ∧ i = .int .i64 j ∧ Hid (∀ j', ∀ h : j' < L.length, j' < j → ∀ k : Int, -1 ≤ k → k ≤ 1 → ¬ Hit c (L[j']'h) tn td k) ∧ InI w tn td wr) (fun i _ => L.length - (intOf i).toNat)
  case atStart => exact ⟨0, Nat.zero_le _, rfl, Lib.hid (fun j' h hj => by omega), hG⟩
  case round =>
    obtain ⟨j, hj, rfl, HJ, hGj⟩ := hrel
    clear hG
    by_cases hlt : j < L.length
    · obtain ⟨b1, o1, rfl, ⟨q0, q1, q2, q3⟩, -, -⟩ := HL.out j hlt
      have e1 := cell_lt q0
      simp only at e1
      have hiv := HIV.out _ (List.getElem_mem hlt)
      have HHIT : Hid (∀ k : Int, -1 ≤ k → k ≤ 1 → Hit c (L[j]'hlt) tn td k → InB c L tn td) := Lib.hid (fun k k1 k2 h => ⟨_, List.getElem_mem hlt, k, ⟨k1, k2⟩, h⟩)
      have HNXT : Hid ((∀ k : Int, -1 ≤ k → k ≤ 1 → ¬ Hit c (L[j]'hlt) tn td k) → Hid (∀ j', ∀ h : j' < L.length, j' < j + 1 → ∀ k : Int, -1 ≤ k → k ≤ 1 → ¬ Hit c (L[j']'h) tn td k)) := Lib.hid (fun hx => Lib.hid (fun j' h hj' k k1 k2 => by
        by_cases he : j' = j
        · subst he; exact hx k k1 k2
        · exact HJ.out j' h (by omega) k k1 k2))
      generalize L[j] = x at *
      have i1 : (0 : Int) ≤ (j : Int) := Int.natCast_nonneg _
      have i2 : (j : Int) < (L.length : Int) := by omega
      go_wp2_with fail
      go_loopw [8] (fun z wr => ∃ u : Nat, u ≤ 3 ∧ z = .int .i64 ((u : Int) - 1) ∧ Hid (∀ k : Int, -1 ≤ k → k < (u : Int) - 1 → ¬ Hit c x tn td k) ∧ InI w tn td wr) (fun z _ => (2 - intOf z).toNat)
      case atStart => exact ⟨0, by omega, by simp, Lib.hid (fun k k1 k2 => by omega), hGj⟩
      case round =>
        obtain ⟨u, hu, rfl, HU, hGu⟩ := hrel
        clear hGj
        obtain ⟨K, hK⟩ : ∃ K : Int, (u : Int) - 1 = K := ⟨_, rfl⟩
        rw [hK] at HU ⊢
        have HKU := Lib.hid hK
        by_cases hlt3 : u < 3
        · have k1 : -1 ≤ K := by omega
          have k2 : K ≤ 1 := by omega
          clear hK
          obtain ⟨m1, m2⟩ := k_bd (td := td) hc ht ⟨k1, k2⟩
          have z1 := wrap_id (K * c) (by unfold I64; omega)
          have z2 := wrap_id (K * c * td) (by unfold I64; omega)
          have z3 := wrap_id (tn + K * c * td) (by unfold I64; omega)
          have z4 := wrap_id (K + 1) (by unfold I64; omega)
          have ha := hiv.a; have hb := hiv.b
          have had := ha.d; have han := ha.n; have hbd := hb.d; have hbn := hb.n
          have HL1 := fun V => rl_any (tn + K * c * td) td x.a.n x.a.d V (by unfold Num4; omega) (by unfold Den4; omega) (by unfold Num4; omega) (by unfold Den4; omega)
          have HL2 := fun V => rl_any x.b.n x.b.d (tn + K * c * td) td V (by unfold Num4; omega) (by unfold Den4; omega) (by unfold Num4; omega) (by unfold Den4; omega)
          have HH : Hid (decide (Hit c x tn td K) = (!decide ((tn + K * c * td) * x.a.d < x.a.n * td) && !decide (x.b.n * td < (tn + K * c * td) * x.b.d))) := Lib.hid (by unfold Hit; exact hit_dec _ _)
          obtain ⟨N, hN⟩ : ∃ N, tn + K * c * td = N := ⟨_, rfl⟩
          rw [hN] at z3 HL1 HL2 HH
          clear m1 m2 ha hb had han hbd hbn
          have t0 := hGu.t.cell 0 _ rfl
          have t1 := hGu.t.cell 1 _ rfl
          have hx := below_box wr (.cells #[.int .i64 N, .int .i64 td] 24)
          have hB := Blk.new wr #[.int .i64 N, .int .i64 td] 24
          have hG2 := hGu.below hx
          go_upto_region 8 with fail
          generalize wr.heap.size = p at *
          generalize (wr.alloc (.cells #[.int .i64 N, .int .i64 td] 24)) = W at *
          clear t0 t1 z1 z2 z3 hx hN
          have p0 := hB.cell 0 _ rfl
          have p1 := hB.cell 1 _ rfl
          have eB := hG2.bel
          have x0 := ext_of_below eB _ _ q0
          have x1 := ext_of_below eB _ _ q1
          have x2 := ext_of_below eB _ _ q2
          have x3 := ext_of_below eB _ _ q3
          have D0 : Below W.heap.size W W.drew := (Below.refl _ _).drew
          have HSV : Hid (∀ V, Below W.heap.size W V → (fun w' : World => w'.cell? ⟨p, 0, none⟩ = some (.int .i64 N) ∧ w'.cell? ⟨p, 1, none⟩ = some (.int .i64 td) ∧ w'.cell? ⟨b1, o1 + j * 4, none⟩ = some (.int .i64 x.a.n) ∧ w'.cell? ⟨b1, o1 + j * 4 + 1, none⟩ = some (.int .i64 x.a.d) ∧ w'.cell? ⟨b1, o1 + j * 4 + 2, none⟩ = some (.int .i64 x.b.n) ∧ w'.cell? ⟨b1, o1 + j * 4 + 3, none⟩ = some (.int .i64 x.b.d)) V) := Lib.hid (fun V hV => ⟨ext_of_below hV _ _ p0, ext_of_below hV _ _ p1, ext_of_below hV _ _ x0, ext_of_below hV _ _ x1, ext_of_below hV _ _ x2, ext_of_below hV _ _ x3⟩)
          clear p0 p1 x0 x1 x2 x3 eB hB hGu
          obtain ⟨B, hBB⟩ : ∃ B, decide (Hit c x tn td K) = B := ⟨_, rfl⟩
          have HBB := Lib.hid hBB
          rw [hBB] at HH
          clear hBB
          go_cut [49] (fun sv wx => sv = .bool B ∧ Below W.heap.size W wx)
          case first =>
            have hh := HH.out
            clear HH HBB hG2
            by_cases c1 : N * x.a.d < x.a.n * td
            · rw [decide_eq_true c1] at HL1 hh
              obtain rfl : B = false := by simpa using hh
              clear c1 HL2 hh
              go_wp2_with fail
              refine wp_region_till (fun w' : World => w'.cell? ⟨p, 0, none⟩ = some (.int .i64 N) ∧ w'.cell? ⟨p, 1, none⟩ = some (.int .i64 td) ∧ w'.cell? ⟨b1, o1 + j * 4, none⟩ = some (.int .i64 x.a.n) ∧ w'.cell? ⟨b1, o1 + j * 4 + 1, none⟩ = some (.int .i64 x.a.d) ∧ w'.cell? ⟨b1, o1 + j * 4 + 2, none⟩ = some (.int .i64 x.b.n) ∧ w'.cell? ⟨b1, o1 + j * 4 + 3, none⟩ = some (.int .i64 x.b.d)) 18 (by kernel_rfl) (HSV.out _ D0) (fun hHeld => ?_)
              generalize W.drew = wd at *
              refine Till.take 0 (some 32) (v := ?_) rfl rfl (by kernel_rfl) (by kernel_rfl) (by kernel_rfl) (by kernel_rfl) (fun _ _ _ h => h) (Or.inl ⟨by rfl, ?_⟩) (by assumption) ?_
              rotate_left
              · (intro w hSw; (try dsimp only at hSw); go_simp; try with_reducible rfl)
              try simp only [Act.put, List.setIfInBounds_toArray, List.set_cons_zero, List.set_cons_succ]
              refine Till.take 1 (some 33) (v := ?_) rfl rfl (by kernel_rfl) (by kernel_rfl) (by kernel_rfl) (by kernel_rfl) (fun _ _ _ h => h) (Or.inl ⟨by rfl, ?_⟩) (by assumption) ?_
              rotate_left
              · (intro w hSw; (try dsimp only at hSw); go_simp; try with_reducible rfl)
              try simp only [Act.put, List.setIfInBounds_toArray, List.set_cons_zero, List.set_cons_succ]
              refine Till.take 2 (some 34) (v := ?_) rfl rfl (by kernel_rfl) (by kernel_rfl) (by kernel_rfl) (by kernel_rfl) (fun _ _ _ h => h) (Or.inl ⟨by rfl, ?_⟩) (by assumption) ?_
              rotate_left
              · (intro w hSw; (try dsimp only at hSw); go_simp; try with_reducible rfl)
              try simp only [Act.put, List.setIfInBounds_toArray, List.set_cons_zero, List.set_cons_succ]
              refine Till.take 3 (some 35) (v := ?_) rfl rfl (by kernel_rfl) (by kernel_rfl) (by kernel_rfl) (by kernel_rfl) (fun _ _ _ h => h) (Or.inl ⟨by rfl, ?_⟩) (by assumption) ?_
              rotate_left
              · (intro w hSw; (try dsimp only at hSw); go_simp; try with_reducible rfl)
              try simp only [Act.put, List.setIfInBounds_toArray, List.set_cons_zero, List.set_cons_succ]
              refine Till.take 4 (some 36) (v := ?_) rfl rfl (by kernel_rfl) (by kernel_rfl) (by kernel_rfl) (by kernel_rfl) (fun _ _ _ h => h) (Or.inl ⟨by rfl, ?_⟩) (by assumption) ?_
              rotate_left
              · (intro w hSw; (try dsimp only at hSw); go_simp; try with_reducible rfl)
              try simp only [Act.put, List.setIfInBounds_toArray, List.set_cons_zero, List.set_cons_succ]
              refine Till.take 5 (some 37) (v := ?_) rfl rfl (by kernel_rfl) (by kernel_rfl) (by kernel_rfl) (by kernel_rfl) (fun _ _ _ h => h) (Or.inl ⟨by rfl, ?_⟩) (by assumption) ?_
              rotate_left
              · (intro w hSw; (try dsimp only at hSw); go_simp; try with_reducible rfl)
              try simp only [Act.put, List.setIfInBounds_toArray, List.set_cons_zero, List.set_cons_succ]
              refine Till.one 6 rfl (by kernel_rfl) (fun K hK => ?_)
              go_simp
              go_at_call 16
              refine (HL1 _).mono ?_
              rintro e v1 ⟨rfl, hb1⟩
              have D1 := D0.trans (hb1.mono D0.size)
              have hh1 := HSV.out _ D1
              refine hK.out _ _ (fun _ => hh1) (fun hHeld1 => ?_)
              clear hK K hb1
              try simp only [Act.put, List.setIfInBounds_toArray, List.set_cons_zero, List.set_cons_succ]
              refine Till.take 7 (some 39) (v := ?_) rfl rfl (by kernel_rfl) (by kernel_rfl) (by kernel_rfl) (by kernel_rfl) (fun _ _ _ h => h) (Or.inl ⟨by rfl, ?_⟩) (by assumption) ?_
              rotate_left
              · (intro w hSw; (try dsimp only at hSw); go_simp; try with_reducible rfl)
              try simp only [Act.put, List.setIfInBounds_toArray, List.set_cons_zero, List.set_cons_succ]
              refine Till.take 8 (some 40) (v := ?_) rfl rfl (by kernel_rfl) (by kernel_rfl) (by kernel_rfl) (by kernel_rfl) (fun _ _ _ h => h) (Or.inl ⟨by rfl, ?_⟩) (by assumption) ?_
              rotate_left
              · (intro w hSw; (try dsimp only at hSw); go_simp; try with_reducible rfl)
              try simp only [Act.put, List.setIfInBounds_toArray, List.set_cons_zero, List.set_cons_succ]
              refine Till.take 9 (some 41) (v := undef) rfl rfl (by kernel_rfl) (by kernel_rfl) (by kernel_rfl) (by kernel_rfl) (fun _ _ _ h => h) (Or.inr ⟨by rfl, rfl⟩) (by assumption) ?_
              try simp only [Act.put, List.setIfInBounds_toArray, List.set_cons_zero, List.set_cons_succ]
              refine Till.take 10 (some 42) (v := undef) rfl rfl (by kernel_rfl) (by kernel_rfl) (by kernel_rfl) (by kernel_rfl) (fun _ _ _ h => h) (Or.inr ⟨by rfl, rfl⟩) (by assumption) ?_
              try simp only [Act.put, List.setIfInBounds_toArray, List.set_cons_zero, List.set_cons_succ]
              refine Till.take 11 (some 43) (v := undef) rfl rfl (by kernel_rfl) (by kernel_rfl) (by kernel_rfl) (by kernel_rfl) (fun _ _ _ h => h) (Or.inr ⟨by rfl, rfl⟩) (by assumption) ?_
              try simp only [Act.put, List.setIfInBounds_toArray, List.set_cons_zero, List.set_cons_succ]
              refine Till.take 12 (some 44) (v := undef) rfl rfl (by kernel_rfl) (by kernel_rfl) (by kernel_rfl) (by kernel_rfl) (fun _ _ _ h => h) (Or.inr ⟨by rfl, rfl⟩) (by assumption) ?_
              try simp only [Act.put, List.setIfInBounds_toArray, List.set_cons_zero, List.set_cons_succ]
              refine Till.take 13 (some 45) (v := undef) rfl rfl (by kernel_rfl) (by kernel_rfl) (by kernel_rfl) (by kernel_rfl) (fun _ _ _ h => h) (Or.inr ⟨by rfl, rfl⟩) (by assumption) ?_
              try simp only [Act.put, List.setIfInBounds_toArray, List.set_cons_zero, List.set_cons_succ]
              refine Till.take 14 (some 46) (v := undef) rfl rfl (by kernel_rfl) (by kernel_rfl) (by kernel_rfl) (by kernel_rfl) (fun _ _ _ h => h) (Or.inr ⟨by rfl, rfl⟩) (by assumption) ?_
              try simp only [Act.put, List.setIfInBounds_toArray, List.set_cons_zero, List.set_cons_succ]
              refine Till.take 15 (some 47) (v := undef) rfl rfl (by kernel_rfl) (by kernel_rfl) (by kernel_rfl) (by kernel_rfl) (fun _ _ _ h => h) (Or.inr ⟨by rfl, rfl⟩) (by assumption) ?_
              try simp only [Act.put, List.setIfInBounds_toArray, List.set_cons_zero, List.set_cons_succ]
              refine Till.take 16 (some 48) (v := undef) rfl rfl (by kernel_rfl) (by kernel_rfl) (by kernel_rfl) (by kernel_rfl) (fun _ _ _ h => h) (Or.inr ⟨by rfl, rfl⟩) (by assumption) ?_
              try simp only [Act.put, List.setIfInBounds_toArray, List.set_cons_zero, List.set_cons_succ]
              refine Till.take 17 (some 49) (v := ?_) rfl rfl (by kernel_rfl) (by kernel_rfl) (by kernel_rfl) (by kernel_rfl) (fun _ _ _ h => h) (Or.inl ⟨by rfl, ?_⟩) (by assumption) ?_
              rotate_left
              · (intro w hSw; (try dsimp only at hSw); go_simp; try with_reducible rfl)
              try simp only [Act.put, List.setIfInBounds_toArray, List.set_cons_zero, List.set_cons_succ]
              refine Till.done (by kernel_rfl) ?_ _
              go_wp2_with fail
              go_meet
              exact ⟨rfl, D1⟩
            · rw [decide_eq_false c1] at HL1 hh
              clear c1
              by_cases c2 : x.b.n * td < N * x.b.d
              · rw [decide_eq_true c2] at HL2 hh
                obtain rfl : B = false := by simpa using hh
                clear c2 hh
                go_wp2_with fail
                refine wp_region_till (fun w' : World => w'.cell? ⟨p, 0, none⟩ = some (.int .i64 N) ∧ w'.cell? ⟨p, 1, none⟩ = some (.int .i64 td) ∧ w'.cell? ⟨b1, o1 + j * 4, none⟩ = some (.int .i64 x.a.n) ∧ w'.cell? ⟨b1, o1 + j * 4 + 1, none⟩ = some (.int .i64 x.a.d) ∧ w'.cell? ⟨b1, o1 + j * 4 + 2, none⟩ = some (.int .i64 x.b.n) ∧ w'.cell? ⟨b1, o1 + j * 4 + 3, none⟩ = some (.int .i64 x.b.d)) 18 (by kernel_rfl) (HSV.out _ D0) (fun hHeld => ?_)
                generalize W.drew = wd at *
                refine Till.take 0 (some 32) (v := ?_) rfl rfl (by kernel_rfl) (by kernel_rfl) (by kernel_rfl) (by kernel_rfl) (fun _ _ _ h => h) (Or.inl ⟨by rfl, ?_⟩) (by assumption) ?_
                rotate_left
                · (intro w hSw; (try dsimp only at hSw); go_simp; try with_reducible rfl)
                try simp only [Act.put, List.setIfInBounds_toArray, List.set_cons_zero, List.set_cons_succ]
                refine Till.take 1 (some 33) (v := ?_) rfl rfl (by kernel_rfl) (by kernel_rfl) (by kernel_rfl) (by kernel_rfl) (fun _ _ _ h => h) (Or.inl ⟨by rfl, ?_⟩) (by assumption) ?_
                rotate_left
                · (intro w hSw; (try dsimp only at hSw); go_simp; try with_reducible rfl)
                try simp only [Act.put, List.setIfInBounds_toArray, List.set_cons_zero, List.set_cons_succ]
                refine Till.take 2 (some 34) (v := ?_) rfl rfl (by kernel_rfl) (by kernel_rfl) (by kernel_rfl) (by kernel_rfl) (fun _ _ _ h => h) (Or.inl ⟨by rfl, ?_⟩) (by assumption) ?_
                rotate_left
                · (intro w hSw; (try dsimp only at hSw); go_simp; try with_reducible rfl)
                try simp only [Act.put, List.setIfInBounds_toArray, List.set_cons_zero, List.set_cons_succ]
                refine Till.take 3 (some 35) (v := ?_) rfl rfl (by kernel_rfl) (by kernel_rfl) (by kernel_rfl) (by kernel_rfl) (fun _ _ _ h => h) (Or.inl ⟨by rfl, ?_⟩) (by assumption) ?_
                rotate_left
                · (intro w hSw; (try dsimp only at hSw); go_simp; try with_reducible rfl)
                try simp only [Act.put, List.setIfInBounds_toArray, List.set_cons_zero, List.set_cons_succ]
                refine Till.take 4 (some 36) (v := ?_) rfl rfl (by kernel_rfl) (by kernel_rfl) (by kernel_rfl) (by kernel_rfl) (fun _ _ _ h => h) (Or.inl ⟨by rfl, ?_⟩) (by assumption) ?_
                rotate_left
                · (intro w hSw; (try dsimp only at hSw); go_simp; try with_reducible rfl)
                try simp only [Act.put, List.setIfInBounds_toArray, List.set_cons_zero, List.set_cons_succ]
                refine Till.take 5 (some 37) (v := ?_) rfl rfl (by kernel_rfl) (by kernel_rfl) (by kernel_rfl) (by kernel_rfl) (fun _ _ _ h => h) (Or.inl ⟨by rfl, ?_⟩) (by assumption) ?_
                rotate_left
                · (intro w hSw; (try dsimp only at hSw); go_simp; try with_reducible rfl)
                try simp only [Act.put, List.setIfInBounds_toArray, List.set_cons_zero, List.set_cons_succ]
                refine Till.one 6 rfl (by kernel_rfl) (fun K hK => ?_)
                go_simp
                go_at_call 16
                refine (HL1 _).mono ?_
                rintro e v1 ⟨rfl, hb1⟩
                have D1 := D0.trans (hb1.mono D0.size)
                have hh1 := HSV.out _ D1
                refine hK.out _ _ (fun _ => hh1) (fun hHeld1 => ?_)
                clear hK K hb1
                try simp only [Act.put, List.setIfInBounds_toArray, List.set_cons_zero, List.set_cons_succ]
                refine Till.take 7 (some 39) (v := ?_) rfl rfl (by kernel_rfl) (by kernel_rfl) (by kernel_rfl) (by kernel_rfl) (fun _ _ _ h => h) (Or.inl ⟨by rfl, ?_⟩) (by assumption) ?_
                rotate_left
                · (intro w hSw; (try dsimp only at hSw); go_simp; try with_reducible rfl)
                try simp only [Act.put, List.setIfInBounds_toArray, List.set_cons_zero, List.set_cons_succ]
                refine Till.take 8 (some 40) (v := ?_) rfl rfl (by kernel_rfl) (by kernel_rfl) (by kernel_rfl) (by kernel_rfl) (fun _ _ _ h => h) (Or.inl ⟨by rfl, ?_⟩) (by assumption) ?_
                rotate_left
                · (intro w hSw; (try dsimp only at hSw); go_simp; try with_reducible rfl)
                try simp only [Act.put, List.setIfInBounds_toArray, List.set_cons_zero, List.set_cons_succ]
                refine Till.take 9 (some 41) (v := ?_) rfl rfl (by kernel_rfl) (by kernel_rfl) (by kernel_rfl) (by kernel_rfl) (fun _ _ _ h => h) (Or.inl ⟨by rfl, ?_⟩) (by assumption) ?_
                rotate_left
                · (intro w hSw; (try dsimp only at hSw); go_simp; try with_reducible rfl)
                try simp only [Act.put, List.setIfInBounds_toArray, List.set_cons_zero, List.set_cons_succ]
                refine Till.take 10 (some 42) (v := ?_) rfl rfl (by kernel_rfl) (by kernel_rfl) (by kernel_rfl) (by kernel_rfl) (fun _ _ _ h => h) (Or.inl ⟨by rfl, ?_⟩) (by assumption) ?_
                rotate_left
                · (intro w hSw; (try dsimp only at hSw); go_simp; try with_reducible rfl)
                try simp only [Act.put, List.setIfInBounds_toArray, List.set_cons_zero, List.set_cons_succ]
                refine Till.take 11 (some 43) (v := ?_) rfl rfl (by kernel_rfl) (by kernel_rfl) (by kernel_rfl) (by kernel_rfl) (fun _ _ _ h => h) (Or.inl ⟨by rfl, ?_⟩) (by assumption) ?_
                rotate_left
                · (intro w hSw; (try dsimp only at hSw); go_simp; try with_reducible rfl)
                try simp only [Act.put, List.setIfInBounds_toArray, List.set_cons_zero, List.set_cons_succ]
                refine Till.take 12 (some 44) (v := ?_) rfl rfl (by kernel_rfl) (by kernel_rfl) (by kernel_rfl) (by kernel_rfl) (fun _ _ _ h => h) (Or.inl ⟨by rfl, ?_⟩) (by assumption) ?_
                rotate_left
                · (intro w hSw; (try dsimp only at hSw); go_simp; try with_reducible rfl)
                try simp only [Act.put, List.setIfInBounds_toArray, List.set_cons_zero, List.set_cons_succ]
                refine Till.take 13 (some 45) (v := ?_) rfl rfl (by kernel_rfl) (by kernel_rfl) (by kernel_rfl) (by kernel_rfl) (fun _ _ _ h => h) (Or.inl ⟨by rfl, ?_⟩) (by assumption) ?_
                rotate_left
                · (intro w hSw; (try dsimp only at hSw); go_simp; try with_reducible rfl)
                try simp only [Act.put, List.setIfInBounds_toArray, List.set_cons_zero, List.set_cons_succ]
                refine Till.take 14 (some 46) (v := ?_) rfl rfl (by kernel_rfl) (by kernel_rfl) (by kernel_rfl) (by kernel_rfl) (fun _ _ _ h => h) (Or.inl ⟨by rfl, ?_⟩) (by assumption) ?_
                rotate_left
                · (intro w hSw; (try dsimp only at hSw); go_simp; try with_reducible rfl)
                try simp only [Act.put, List.setIfInBounds_toArray, List.set_cons_zero, List.set_cons_succ]
                refine Till.one 15 rfl (by kernel_rfl) (fun K hK => ?_)
                go_simp
                go_at_call 16
                refine (HL2 _).mono ?_
                rintro e v2 ⟨rfl, hb2⟩
                have D2 := D1.trans (hb2.mono D1.size)
                have hh2 := HSV.out _ D2
                refine hK.out _ _ (fun _ => hh2) (fun hHeld2 => ?_)
                clear hK K hb2
                try simp only [Act.put, List.setIfInBounds_toArray, List.set_cons_zero, List.set_cons_succ]
                refine Till.take 16 (some 48) (v := ?_) rfl rfl (by kernel_rfl) (by kernel_rfl) (by kernel_rfl) (by kernel_rfl) (fun _ _ _ h => h) (Or.inl ⟨by rfl, ?_⟩) (by assumption) ?_
                rotate_left
                · (intro w hSw; (try dsimp only at hSw); go_simp; try with_reducible rfl)
                try simp only [Act.put, List.setIfInBounds_toArray, List.set_cons_zero, List.set_cons_succ]
                refine Till.take 17 (some 49) (v := ?_) rfl rfl (by kernel_rfl) (by kernel_rfl) (by kernel_rfl) (by kernel_rfl) (fun _ _ _ h => h) (Or.inl ⟨by rfl, ?_⟩) (by assumption) ?_
                rotate_left
                · (intro w hSw; (try dsimp only at hSw); go_simp; try with_reducible rfl)
                try simp only [Act.put, List.setIfInBounds_toArray, List.set_cons_zero, List.set_cons_succ]
                refine Till.done (by kernel_rfl) ?_ _
                go_wp2_with fail
                go_meet
                exact ⟨rfl, D2⟩
              · rw [decide_eq_false c2] at HL2 hh
                obtain rfl : B = true := by simpa using hh
                clear c2 hh
                go_wp2_with fail
                refine wp_region_till (fun w' : World => w'.cell? ⟨p, 0, none⟩ = some (.int .i64 N) ∧ w'.cell? ⟨p, 1, none⟩ = some (.int .i64 td) ∧ w'.cell? ⟨b1, o1 + j * 4, none⟩ = some (.int .i64 x.a.n) ∧ w'.cell? ⟨b1, o1 + j * 4 + 1, none⟩ = some (.int .i64 x.a.d) ∧ w'.cell? ⟨b1, o1 + j * 4 + 2, none⟩ = some (.int .i64 x.b.n) ∧ w'.cell? ⟨b1, o1 + j * 4 + 3, none⟩ = some (.int .i64 x.b.d)) 18 (by kernel_rfl) (HSV.out _ D0) (fun hHeld => ?_)
                generalize W.drew = wd at *
                refine Till.take 0 (some 32) (v := ?_) rfl rfl (by kernel_rfl) (by kernel_rfl) (by kernel_rfl) (by kernel_rfl) (fun _ _ _ h => h) (Or.inl ⟨by rfl, ?_⟩) (by assumption) ?_
                rotate_left
                · (intro w hSw; (try dsimp only at hSw); go_simp; try with_reducible rfl)
                try simp only [Act.put, List.setIfInBounds_toArray, List.set_cons_zero, List.set_cons_succ]
                refine Till.take 1 (some 33) (v := ?_) rfl rfl (by kernel_rfl) (by kernel_rfl) (by kernel_rfl) (by kernel_rfl) (fun _ _ _ h => h) (Or.inl ⟨by rfl, ?_⟩) (by assumption) ?_
                rotate_left
                · (intro w hSw; (try dsimp only at hSw); go_simp; try with_reducible rfl)
                try simp only [Act.put, List.setIfInBounds_toArray, List.set_cons_zero, List.set_cons_succ]
                refine Till.take 2 (some 34) (v := ?_) rfl rfl (by kernel_rfl) (by kernel_rfl) (by kernel_rfl) (by kernel_rfl) (fun _ _ _ h => h) (Or.inl ⟨by rfl, ?_⟩) (by assumption) ?_
                rotate_left
                · (intro w hSw; (try dsimp only at hSw); go_simp; try with_reducible rfl)
                try simp only [Act.put, List.setIfInBounds_toArray, List.set_cons_zero, List.set_cons_succ]
                refine Till.take 3 (some 35) (v := ?_) rfl rfl (by kernel_rfl) (by kernel_rfl) (by kernel_rfl) (by kernel_rfl) (fun _ _ _ h => h) (Or.inl ⟨by rfl, ?_⟩) (by assumption) ?_
                rotate_left
                · (intro w hSw; (try dsimp only at hSw); go_simp; try with_reducible rfl)
                try simp only [Act.put, List.setIfInBounds_toArray, List.set_cons_zero, List.set_cons_succ]
                refine Till.take 4 (some 36) (v := ?_) rfl rfl (by kernel_rfl) (by kernel_rfl) (by kernel_rfl) (by kernel_rfl) (fun _ _ _ h => h) (Or.inl ⟨by rfl, ?_⟩) (by assumption) ?_
                rotate_left
                · (intro w hSw; (try dsimp only at hSw); go_simp; try with_reducible rfl)
                try simp only [Act.put, List.setIfInBounds_toArray, List.set_cons_zero, List.set_cons_succ]
                refine Till.take 5 (some 37) (v := ?_) rfl rfl (by kernel_rfl) (by kernel_rfl) (by kernel_rfl) (by kernel_rfl) (fun _ _ _ h => h) (Or.inl ⟨by rfl, ?_⟩) (by assumption) ?_
                rotate_left
                · (intro w hSw; (try dsimp only at hSw); go_simp; try with_reducible rfl)
                try simp only [Act.put, List.setIfInBounds_toArray, List.set_cons_zero, List.set_cons_succ]
                refine Till.one 6 rfl (by kernel_rfl) (fun K hK => ?_)
                go_simp
                go_at_call 16
                refine (HL1 _).mono ?_
                rintro e v1 ⟨rfl, hb1⟩
                have D1 := D0.trans (hb1.mono D0.size)
                have hh1 := HSV.out _ D1
                refine hK.out _ _ (fun _ => hh1) (fun hHeld1 => ?_)
                clear hK K hb1
                try simp only [Act.put, List.setIfInBounds_toArray, List.set_cons_zero, List.set_cons_succ]
                refine Till.take 7 (some 39) (v := ?_) rfl rfl (by kernel_rfl) (by kernel_rfl) (by kernel_rfl) (by kernel_rfl) (fun _ _ _ h => h) (Or.inl ⟨by rfl, ?_⟩) (by assumption) ?_
                rotate_left
                · (intro w hSw; (try dsimp only at hSw); go_simp; try with_reducible rfl)
                try simp only [Act.put, List.setIfInBounds_toArray, List.set_cons_zero, List.set_cons_succ]
                refine Till.take 8 (some 40) (v := ?_) rfl rfl (by kernel_rfl) (by kernel_rfl) (by kernel_rfl) (by kernel_rfl) (fun _ _ _ h => h) (Or.inl ⟨by rfl, ?_⟩) (by assumption) ?_
                rotate_left
                · (intro w hSw; (try dsimp only at hSw); go_simp; try with_reducible rfl)
                try simp only [Act.put, List.setIfInBounds_toArray, List.set_cons_zero, List.set_cons_succ]
                refine Till.take 9 (some 41) (v := ?_) rfl rfl (by kernel_rfl) (by kernel_rfl) (by kernel_rfl) (by kernel_rfl) (fun _ _ _ h => h) (Or.inl ⟨by rfl, ?_⟩) (by assumption) ?_
                rotate_left
                · (intro w hSw; (try dsimp only at hSw); go_simp; try with_reducible rfl)
                try simp only [Act.put, List.setIfInBounds_toArray, List.set_cons_zero, List.set_cons_succ]
                refine Till.take 10 (some 42) (v := ?_) rfl rfl (by kernel_rfl) (by kernel_rfl) (by kernel_rfl) (by kernel_rfl) (fun _ _ _ h => h) (Or.inl ⟨by rfl, ?_⟩) (by assumption) ?_
                rotate_left
                · (intro w hSw; (try dsimp only at hSw); go_simp; try with_reducible rfl)
                try simp only [Act.put, List.setIfInBounds_toArray, List.set_cons_zero, List.set_cons_succ]
                refine Till.take 11 (some 43) (v := ?_) rfl rfl (by kernel_rfl) (by kernel_rfl) (by kernel_rfl) (by kernel_rfl) (fun _ _ _ h => h) (Or.inl ⟨by rfl, ?_⟩) (by assumption) ?_
                rotate_left
                · (intro w hSw; (try dsimp only at hSw); go_simp; try with_reducible rfl)
                try simp only [Act.put, List.setIfInBounds_toArray, List.set_cons_zero, List.set_cons_succ]
                refine Till.take 12 (some 44) (v := ?_) rfl rfl (by kernel_rfl) (by kernel_rfl) (by kernel_rfl) (by kernel_rfl) (fun _ _ _ h => h) (Or.inl ⟨by rfl, ?_⟩) (by assumption) ?_
                rotate_left
                · (intro w hSw; (try dsimp only at hSw); go_simp; try with_reducible rfl)
                try simp only [Act.put, List.setIfInBounds_toArray, List.set_cons_zero, List.set_cons_succ]
                refine Till.take 13 (some 45) (v := ?_) rfl rfl (by kernel_rfl) (by kernel_rfl) (by kernel_rfl) (by kernel_rfl) (fun _ _ _ h => h) (Or.inl ⟨by rfl, ?_⟩) (by assumption) ?_
                rotate_left
                · (intro w hSw; (try dsimp only at hSw); go_simp; try with_reducible rfl)
                try simp only [Act.put, List.setIfInBounds_toArray, List.set_cons_zero, List.set_cons_succ]
                refine Till.take 14 (some 46) (v := ?_) rfl rfl (by kernel_rfl) (by kernel_rfl) (by kernel_rfl) (by kernel_rfl) (fun _ _ _ h => h) (Or.inl ⟨by rfl, ?_⟩) (by assumption) ?_
                rotate_left
                · (intro w hSw; (try dsimp only at hSw); go_simp; try with_reducible rfl)
                try simp only [Act.put, List.setIfInBounds_toArray, List.set_cons_zero, List.set_cons_succ]
                refine Till.one 15 rfl (by kernel_rfl) (fun K hK => ?_)
                go_simp
                go_at_call 16
                refine (HL2 _).mono ?_
                rintro e v2 ⟨rfl, hb2⟩
                have D2 := D1.trans (hb2.mono D1.size)
                have hh2 := HSV.out _ D2
                refine hK.out _ _ (fun _ => hh2) (fun hHeld2 => ?_)
                clear hK K hb2
                try simp only [Act.put, List.setIfInBounds_toArray, List.set_cons_zero, List.set_cons_succ]
                refine Till.take 16 (some 48) (v := ?_) rfl rfl (by kernel_rfl) (by kernel_rfl) (by kernel_rfl) (by kernel_rfl) (fun _ _ _ h => h) (Or.inl ⟨by rfl, ?_⟩) (by assumption) ?_
                rotate_left
                · (intro w hSw; (try dsimp only at hSw); go_simp; try with_reducible rfl)
                try simp only [Act.put, List.setIfInBounds_toArray, List.set_cons_zero, List.set_cons_succ]
                refine Till.take 17 (some 49) (v := ?_) rfl rfl (by kernel_rfl) (by kernel_rfl) (by kernel_rfl) (by kernel_rfl) (fun _ _ _ h => h) (Or.inl ⟨by rfl, ?_⟩) (by assumption) ?_
                rotate_left
                · (intro w hSw; (try dsimp only at hSw); go_simp; try with_reducible rfl)
                try simp only [Act.put, List.setIfInBounds_toArray, List.set_cons_zero, List.set_cons_succ]
                refine Till.done (by kernel_rfl) ?_ _
                go_wp2_with fail
                go_meet
                exact ⟨rfl, D2⟩
          case rest =>
          obtain ⟨rfl, hb⟩ := hcut
          rename World => W3
          have hG3 := hG2.below hb
          clear hb hG2 HSV D0 HL1 HL2 HH
          by_cases hit : Hit c x tn td K
          · have hin := HIN.out true (by simp only [true_iff]; exact HHIT.out K k1 k2 hit)
            have HI := Lib.hid hin
            obtain rfl : B = true := HBB.out.symm.trans (decide_eq_true hit)
            clear hin hit HBB
            go_wp2
            go_ret
            exact ⟨HI.out, hG3.bel⟩
          · obtain rfl : B = false := HBB.out.symm.trans (decide_eq_false hit)
            clear HBB
            have HN2 : Hid (∀ k : Int, -1 ≤ k → k < ((u + 1 : Nat) : Int) - 1 → ¬ Hit c x tn td k) := Lib.hid (fun k h1 h2 => by
              by_cases he : k = K
              · subst he; exact hit
              · exact HU.out k h1 (by have := HKU.out; omega))
            clear hit HU
            go_wp2
            go_roundw
            case rel => exact ⟨u + 1, by omega, by have := HKU.out; congr 1; omega, HN2, hG3⟩
            case measure => simp only [intOf]; omega
        · have hK2 : K = 2 := by omega
          have HALL : Hid (∀ k : Int, -1 ≤ k → k ≤ 1 → ¬ Hit c x tn td k) := Lib.hid (fun k h1 h2 => HU.out k h1 (by omega))
          clear hK HKU HU
          subst hK2
          go_wp2
          go_roundw
          case rel => exact ⟨j + 1, by omega, by go_num, HNXT.out HALL.out, hGu⟩
          case measure => simp [intOf]; omega
    · have hje : j = L.length := by omega
      have hin := HNO.out (fun j' h => HJ.out j' h (by omega))
      have HI := Lib.hid hin
      clear hin HJ
      subst hje
      go_wp2
      go_ret
      exact ⟨HI.out, hGj.bel⟩
end Go.Proofs.Ytnldenjdbgfgmaa
