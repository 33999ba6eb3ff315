/- A form's factor; no statement is proved here. -/
import Derived.Test.YtnnkcbeadiembaaLines2
namespace Go.Proofs.Ytnnkcbeadiembaa
open Go.RowKit Go.PlainAid
set_option linter.unusedVariables false

set_option maxRecDepth 100000 in
theorem factor_any (f : Fm) (c u v : Value) (m : Mat) (w : World) (hf : FmIs w c u f) (hv : VMat w v m) (hlen : m.content.length ≤ f.coefs.length) :
    Calls Try.prog 93 #[.agg #[c, u], v] w fun e w' => e = .returned (.int .i64 (facB f m)) ∧ Below w.heap.size w w' := by
  obtain ⟨d, rfl, hd, hs⟩ := hv
  obtain ⟨p, rfl, hc, hp0, hp1⟩ := hf
  obtain ⟨ac, kc, rfl, -, ⟨-, hcm⟩, hcl⟩ := id hc
  obtain ⟨ad, kd, rfl, -, ⟨-, hdm⟩, hdl⟩ := id hd
  have hA : Below w.heap.size w ((w.alloc (.cells #[.slice ac f.coefs.length kc, .func (.func (fmFn f)) #[] #[.pointer (some ⟨p, 0, none⟩)]] 132)).alloc (.cells #[.string m.name, .int .i64 m.price, .int .i64 m.redox, .int .i64 m.least, .int .i64 m.most, .int .i64 m.step, .slice ad m.content.length kd] 58)) := by go_grown
  have hB : Blk ((w.alloc (.cells #[.slice ac f.coefs.length kc, .func (.func (fmFn f)) #[] #[.pointer (some ⟨p, 0, none⟩)]] 132)).alloc (.cells #[.string m.name, .int .i64 m.price, .int .i64 m.redox, .int .i64 m.least, .int .i64 m.most, .int .i64 m.step, .slice ad m.content.length kd] 58)) w.heap.size #[.slice ac f.coefs.length kc, .func (.func (fmFn f)) #[] #[.pointer (some ⟨p, 0, none⟩)]] 132 := (Blk.new w _ _).alloc _
  have hF := isFn_over f
  go_enter Try.func93, Try.ntmps93
  go_wp2
  generalize ((w.alloc (.cells #[.slice ac f.coefs.length kc, .func (.func (fmFn f)) #[] #[.pointer (some ⟨p, 0, none⟩)]] 132)).alloc (.cells #[.string m.name, .int .i64 m.price, .int .i64 m.redox, .int .i64 m.least, .int .i64 m.most, .int .i64 m.step, .slice ad m.content.length kd] 58)) = W at *
  go_loopw [5, 11] (fun n i wr => ∃ (k : Nat) (x : Int), k ≤ m.content.length ∧ i = .int .i64 k ∧ n = .int .i64 x ∧ Hid (x = wrap64 (facTo f m.content k)) ∧ Below W.heap.size W wr) (fun _ i _ => m.content.length - (intOf i).toNat)
  case atStart => exact ⟨0, 0, Nat.zero_le _, rfl, rfl, by simp [wrap64, Hid, facTo], Below.refl _ _⟩
  case round =>
    obtain ⟨k, x, hk, rfl, rfl, hx, hb⟩ := hrel
    have hfinB := hA.trans (hb.mono hA.size)
    by_cases hlt : k < m.content.length
    · obtain ⟨b1, o1, rfl, g1, g2, -, -⟩ := hdl k hlt
      obtain ⟨b2, o2, rfl, q1, -⟩ := hcl k (by omega)
      have hst := Lib.hid (facTo_succ f m.content k x hx.out)
      have e1 : f.coefs.getD k 0 = f.coefs[k]'(by omega) := by simp [List.getD, List.getElem?_eq_getElem (show k < f.coefs.length by omega)]
      have e2 : m.content.getD k ⟨0, 0⟩ = m.content[k]'hlt := by simp [List.getD, List.getElem?_eq_getElem hlt]
      rw [e1, e2] at hst
      simp only [Nat.mul_one] at g1 g2 q1
      have k1 := ext_of_below hfinB _ _ g1
      have k2 := ext_of_below hfinB _ _ g2
      have k3 := ext_of_below hfinB _ _ q1
      have k4 := ext_of_below hfinB _ _ hp0
      have k5 := ext_of_below hfinB _ _ hp1
      have hBr := hB.below hb hB.lt
      have m0 : wr.cell? ⟨w.heap.size, 0, none⟩ = some (.slice (some ⟨b2, o2, none⟩) f.coefs.length kc) := hBr.cell 0 _ rfl
      have m1 : wr.cell? ⟨w.heap.size, 1, none⟩ = some (.func (.func (fmFn f)) #[] #[.pointer (some ⟨p, 0, none⟩)]) := hBr.cell 1 _ rfl
      have l1 := cell_lt k1
      have l3 := cell_lt k3
      have l4 := cell_lt k4
      have l5 := cell_lt m0
      simp only at l1 l3 l4 l5
      have i1 : (0 : Int) ≤ (k : Int) := Int.natCast_nonneg _
      have i2 : (k : Int) < (f.coefs.length : Int) := by omega
      clear hcl hdl hc hd hp0 hp1 g1 g2 q1 e1 e2 hB hBr hfinB
      generalize m.content[k] = s at *
      generalize f.coefs[k]'(by omega) = co at *
      unfold IsFn at hF
      go_wp2_with fail
      have W2 := below_box wr (.cells #[.int .i64 s.lo, .int .i64 s.hi] 27)
      have B2 := Blk.new wr #[.int .i64 s.lo, .int .i64 s.hi] 27
      have j0 := B2.cell 0 (.int .i64 s.lo) rfl
      have j1 := B2.cell 1 (.int .i64 s.hi) rfl
      have k3' := keepCell W2 k3
      have k4' := keepCell W2 k4
      have k5' := keepCell W2 k5
      have m0' := keepCell W2 m0
      have m1' := keepCell W2 m1
      have hW3 := hb.trans (W2.mono hb.size)
      generalize hszr : wr.heap.size = nr at *
      generalize wr.alloc (.cells #[.int .i64 s.lo, .int .i64 s.hi] 27) = W3 at *
      have hI : Below W3.heap.size W3 W3.drew := (Below.refl _ _).drew
      clear k1 k2 k3 k4 k5 m0 m1 W2 B2 hb hszr hA hx
      go_region_held3 (fun w' => w'.cell? ⟨w.heap.size, 1, none⟩ = some (.func (.func (fmFn f)) #[] #[.pointer (some ⟨p, 0, none⟩)]) ∧ w'.cell? ⟨w.heap.size, 0, none⟩ = some (.slice (some ⟨b2, o2, none⟩) f.coefs.length kc) ∧ w'.cell? ⟨b2, o2 + k, none⟩ = some (.int .i64 co) ∧ w'.cell? ⟨nr, 0, none⟩ = some (.int .i64 s.lo) ∧ w'.cell? ⟨nr, 1, none⟩ = some (.int .i64 s.hi) ∧ Below W3.heap.size W3 w')
        (first | go_keep | (exact keep5 (by assumption) (by assumption)) | (refine ⟨?_, ?_, ?_, ?_, ?_, ?_⟩ <;> first | (exact keepCell (by assumption) (by assumption)) | (exact keepBelow (by assumption) (by assumption))))
        (first
          | (go_at_call 95; refine (greatestS _ s _).mono ?_; rintro e w' ⟨rfl, hb⟩)
          | (refine (over_any f co p _ ?_ ?_).mono ?_; (first | exact keepCell (by assumption) k4' | exact keepCell (by assumption : _ ∧ _ ∧ _ ∧ _ ∧ _ ∧ Below W3.heap.size W3 _).2.2.2.2.2 k4'); (first | exact keepCell (by assumption) k5' | exact keepCell (by assumption : _ ∧ _ ∧ _ ∧ _ ∧ _ ∧ Below W3.heap.size W3 _).2.2.2.2.2 k5'); rintro e w' ⟨rfl, rfl⟩))
      have hh := (by assumption : _ ∧ _ ∧ _ ∧ _ ∧ _ ∧ Below W3.heap.size W3 _).2.2.2.2.2
      have hW4 := hW3.trans (hh.mono hW3.size)
      clear hh
      go_wp2
      go_roundw
      case rel => exact ⟨k + 1, _, by omega, by go_num, rfl, by rw [IntWalk.i64_left]; exact hst, hW4⟩
      case measure => simp [intOf]; omega
    · have hfin := hx.out
      rw [show k = m.content.length from by omega] at hfin
      have HX := Lib.hid hfin
      clear hfin hx hdl hcl
      go_wp2
      go_ret
      exact ⟨ret_int HX.out, hfinB⟩

end Go.Proofs.Ytnnkcbeadiembaa
