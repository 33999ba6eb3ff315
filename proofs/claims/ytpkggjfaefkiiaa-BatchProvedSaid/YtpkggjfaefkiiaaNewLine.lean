/- The factors of the lines, material by material; no statement is proved here. -/
import Derived.Test.YtpkggjfaefkiiaaCheck
import Derived.Deep.RegionHeld3
import Derived.Deep.DeepCutAuto
import Derived.Deep.AppendLies
namespace Go.Proofs.Ytpkggjfaefkiiaa
open Go.RowKit Go.PlainAid
set_option linter.unusedVariables false

def grB (n : Int) (s : Sp) : Int := max (wrap64 (n * s.lo)) (wrap64 (n * s.hi))
theorem greatestS (n : Int) (s : Sp) (w : World) :
    Calls Try.prog 97 #[.int .i64 n, .agg #[.int .i64 s.lo, .int .i64 s.hi]] w fun e w' => e = .returned (.int .i64 (grB n s)) ∧ Below w.heap.size w w' := greatest_any _ _ _ _

theorem keepCell {w1 w2 : World} {p : Addr} {x : Value} (hb : Below w1.heap.size w1 w2) (h : w1.cell? p = some x) : w2.cell? p = some x := ext_of_below hb _ _ h
theorem keepBelow {W w1 w2 : World} (hb : Below w1.heap.size w1 w2) (h : Below W.heap.size W w1) : Below W.heap.size W w2 := h.trans (hb.mono h.size)

theorem keep3 {w1 w2 W : World} {p1 p2 p3 : Addr} {x1 x2 x3 : Value} (hb : Below w1.heap.size w1 w2) (h : w1.cell? p1 = some x1 ∧ w1.cell? p2 = some x2 ∧ w1.cell? p3 = some x3 ∧ Below W.heap.size W w1) :
    w2.cell? p1 = some x1 ∧ w2.cell? p2 = some x2 ∧ w2.cell? p3 = some x3 ∧ Below W.heap.size W w2 := ⟨keepCell hb h.1, keepCell hb h.2.1, keepCell hb h.2.2.1, keepBelow hb h.2.2.2⟩
theorem keep4 {w1 w2 W : World} {p1 p2 p3 p4 : Addr} {x1 x2 x3 x4 : Value} (hb : Below w1.heap.size w1 w2) (h : w1.cell? p1 = some x1 ∧ w1.cell? p2 = some x2 ∧ w1.cell? p3 = some x3 ∧ w1.cell? p4 = some x4 ∧ Below W.heap.size W w1) :
    w2.cell? p1 = some x1 ∧ w2.cell? p2 = some x2 ∧ w2.cell? p3 = some x3 ∧ w2.cell? p4 = some x4 ∧ Below W.heap.size W w2 := ⟨keepCell hb h.1, keepCell hb h.2.1, keepCell hb h.2.2.1, keepCell hb h.2.2.2.1, keepBelow hb h.2.2.2.2⟩

theorem keep5 {w1 w2 W : World} {p1 p2 p3 p4 p5 : Addr} {x1 x2 x3 x4 x5 : Value} (hb : Below w1.heap.size w1 w2) (h : w1.cell? p1 = some x1 ∧ w1.cell? p2 = some x2 ∧ w1.cell? p3 = some x3 ∧ w1.cell? p4 = some x4 ∧ w1.cell? p5 = some x5 ∧ Below W.heap.size W w1) :
    w2.cell? p1 = some x1 ∧ w2.cell? p2 = some x2 ∧ w2.cell? p3 = some x3 ∧ w2.cell? p4 = some x4 ∧ w2.cell? p5 = some x5 ∧ Below W.heap.size W w2 := ⟨keepCell hb h.1, keepCell hb h.2.1, keepCell hb h.2.2.1, keepCell hb h.2.2.2.1, keepCell hb h.2.2.2.2.1, keepBelow hb h.2.2.2.2.2⟩

/-- the weight's line -/
def f1B (m : Mat) : Int := wrap64 (-(tot m.content).lo)

theorem lines1_any (m : Mat) (v : Value) (w : World) (h : VMat w v m) :
    Calls Try.prog 92 #[v] w fun e w' => e = .returned (.int .i64 (f1B m)) ∧ Below w.heap.size w w' := by
  obtain ⟨c, rfl, hc, hs⟩ := h
  obtain ⟨ac, kc, rfl, -, -, -⟩ := id hc
  have hA := below_box w (.cells #[.string m.name, .int .i64 m.price, .int .i64 m.redox, .int .i64 m.least, .int .i64 m.most, .int .i64 m.step, .slice ac m.content.length kc] 68)
  have hfd := fun w => field_lo (.int .i64 (tot m.content).lo) (.int .i64 (tot m.content).hi) w
  go_enter Try.func92, Try.ntmps92
  go_wp2_with fail
  refine (total_any _ m.content _ (hc.mono (ext_of_below hA))).mono ?_
  rintro e w1 ⟨rfl, hb⟩
  have hA1 := hA.trans (hb.mono (by simp))
  clear hb hA
  go_wp2
  go_ret
  exact ⟨rfl, hA1⟩

def f2B (b : Bat) (m : Mat) : Int := wrap64 (wrap64 (1000000 * m.redox) + grB (wrap64 (-b.redox.hi)) (tot m.content))

theorem lines2_any (m : Mat) (b : Bat) (p : Nat) (v : Value) (w : World) (h : VMat w v m) (hp : w.cell? ⟨p, 5, none⟩ = some (.int .i64 b.redox.hi)) :
    Calls Try.prog 96 #[v, .pointer (some ⟨p, 0, none⟩)] w fun e w' => e = .returned (.int .i64 (f2B b m)) ∧ Below w.heap.size w w' := by
  obtain ⟨c, rfl, hc, hs⟩ := h
  obtain ⟨ac, kc, rfl, -, -, -⟩ := id hc
  have hA := below_box w (.cells #[.string m.name, .int .i64 m.price, .int .i64 m.redox, .int .i64 m.least, .int .i64 m.most, .int .i64 m.step, .slice ac m.content.length kc] 68)
  have hB := Blk.new w #[.string m.name, .int .i64 m.price, .int .i64 m.redox, .int .i64 m.least, .int .i64 m.most, .int .i64 m.step, .slice ac m.content.length kc] 68
  have hcW := hc.mono (ext_of_below hA)
  have hpW := ext_of_below hA _ _ hp
  have hbl := cell_lt hp
  have c2 := hB.cell 2 (.int .i64 m.redox) rfl
  have c6 := hB.cell 6 (.slice ac m.content.length kc) rfl
  simp only at hbl
  go_enter Try.func96, Try.ntmps96
  go_wp2_with fail
  generalize w.alloc (.cells #[.string m.name, .int .i64 m.price, .int .i64 m.redox, .int .i64 m.least, .int .i64 m.most, .int .i64 m.step, .slice ac m.content.length kc] 68) = W at *
  have hI : Below W.heap.size W W.drew := (Below.refl _ _).drew
  clear hB hp hc
  go_region_held3 (fun w' => w'.cell? ⟨w.heap.size, 2, none⟩ = some (.int .i64 m.redox) ∧ w'.cell? ⟨w.heap.size, 6, none⟩ = some (.slice ac m.content.length kc) ∧ w'.cell? ⟨p, 5, none⟩ = some (.int .i64 b.redox.hi) ∧ Below W.heap.size W w')
    (first | go_keep | (exact keep3 (by assumption) (by assumption)) | (refine ⟨?_, ?_, ?_, ?_⟩ <;> first | (exact keepCell (by assumption) (by assumption)) | (exact keepBelow (by assumption) (by assumption))))
    (first
      | (go_at_call 64; refine (total_any _ m.content _ ?_).mono ?_; (exact hcW.mono (ext_of_below (by assumption))); rintro e w' ⟨rfl, hb⟩)
      | (go_at_call 97; refine (greatestS _ (tot m.content) _).mono ?_; rintro e w' ⟨rfl, hb⟩))
  go_wp2
  go_ret
  refine ⟨ret_int (by simp only [IntWalk.i64_left, f2B]), hA.trans (Below.mono (w := W) ?_ hA.size)⟩
  exact (by assumption : _ ∧ _ ∧ _ ∧ Below W.heap.size W _).2.2.2

def f3B (b : Bat) (m : Mat) : Int := wrap64 (grB b.redox.lo (tot m.content) - wrap64 (1000000 * m.redox))

theorem lines3_any (m : Mat) (b : Bat) (p : Nat) (v : Value) (w : World) (h : VMat w v m) (hp : w.cell? ⟨p, 4, none⟩ = some (.int .i64 b.redox.lo)) :
    Calls Try.prog 98 #[v, .pointer (some ⟨p, 0, none⟩)] w fun e w' => e = .returned (.int .i64 (f3B b m)) ∧ Below w.heap.size w w' := by
  obtain ⟨c, rfl, hc, hs⟩ := h
  obtain ⟨ac, kc, rfl, -, -, -⟩ := id hc
  have hA := below_box w (.cells #[.string m.name, .int .i64 m.price, .int .i64 m.redox, .int .i64 m.least, .int .i64 m.most, .int .i64 m.step, .slice ac m.content.length kc] 68)
  have hB := Blk.new w #[.string m.name, .int .i64 m.price, .int .i64 m.redox, .int .i64 m.least, .int .i64 m.most, .int .i64 m.step, .slice ac m.content.length kc] 68
  have hcW := hc.mono (ext_of_below hA)
  have hpW := ext_of_below hA _ _ hp
  have hbl := cell_lt hp
  have c2 := hB.cell 2 (.int .i64 m.redox) rfl
  have c6 := hB.cell 6 (.slice ac m.content.length kc) rfl
  simp only at hbl
  go_enter Try.func98, Try.ntmps98
  go_wp2_with fail
  generalize w.alloc (.cells #[.string m.name, .int .i64 m.price, .int .i64 m.redox, .int .i64 m.least, .int .i64 m.most, .int .i64 m.step, .slice ac m.content.length kc] 68) = W at *
  have hI : Below W.heap.size W W.drew := (Below.refl _ _).drew
  clear hB hp hc
  go_region_held3 (fun w' => w'.cell? ⟨w.heap.size, 2, none⟩ = some (.int .i64 m.redox) ∧ w'.cell? ⟨w.heap.size, 6, none⟩ = some (.slice ac m.content.length kc) ∧ w'.cell? ⟨p, 4, none⟩ = some (.int .i64 b.redox.lo) ∧ Below W.heap.size W w')
    (first | go_keep | (exact keep3 (by assumption) (by assumption)) | (refine ⟨?_, ?_, ?_, ?_⟩ <;> first | (exact keepCell (by assumption) (by assumption)) | (exact keepBelow (by assumption) (by assumption))))
    (first
      | (go_at_call 64; refine (total_any _ m.content _ ?_).mono ?_; (exact hcW.mono (ext_of_below (by assumption))); rintro e w' ⟨rfl, hb⟩)
      | (go_at_call 97; refine (greatestS _ (tot m.content) _).mono ?_; rintro e w' ⟨rfl, hb⟩))
  go_wp2
  go_ret
  refine ⟨ret_int (by simp only [IntWalk.i64_left, f3B]), hA.trans (Below.mono (w := W) ?_ hA.size)⟩
  exact (by assumption : _ ∧ _ ∧ _ ∧ Below W.heap.size W _).2.2.2

theorem isFn_lines1 : IsFn 92 := fun xs w => by kernel_rfl
theorem isFn_lines2 : IsFn 96 := fun xs w => by kernel_rfl
theorem isFn_lines3 : IsFn 98 := fun xs w => by kernel_rfl

end Go.Proofs.Ytpkggjfaefkiiaa

namespace Go.Proofs.Ytpkggjfaefkiiaa
open Go.RowKit Go.PlainAid
set_option linter.unusedVariables false

/-- one side of what is wanted of a glass. -/
structure Fm where
  coefs : List Int
  up : Bool
  t : Sp

def overB (f : Fm) (c : Int) : Int := if f.up = true then wrap64 (c - f.t.hi) else wrap64 (f.t.lo - c)
def fmFn (f : Fm) : Nat := if f.up = true then 142 else 143

/-- what a form's two cells hold. -/
def FmIs (w : World) (c u : Value) (f : Fm) : Prop :=
  ∃ p, u = .func (.func (fmFn f)) #[] #[.pointer (some ⟨p, 0, none⟩)] ∧ RInts w c f.coefs ∧ w.cell? ⟨p, 0, none⟩ = some (.int .i64 f.t.lo) ∧ w.cell? ⟨p, 1, none⟩ = some (.int .i64 f.t.hi)
theorem FmIs.mono {w w' : World} (e : Ext w w') {c u : Value} {f : Fm} (h : FmIs w c u f) : FmIs w' c u f := by
  obtain ⟨p, h1, h2, h3, h4⟩ := h
  exact ⟨p, h1, h2.mono e, e _ _ h3, e _ _ h4⟩

theorem side1 (c hi : Int) (p : Nat) (w : World) (h : w.cell? ⟨p, 1, none⟩ = some (.int .i64 hi)) :
    Calls Try.prog 142 #[.int .i64 c, .pointer (some ⟨p, 0, none⟩)] w fun e w' => e = .returned (.int .i64 (wrap64 (c - hi))) ∧ w = w' := by
  go_enter Try.func142, Try.ntmps142
  go_wp2
  go_ret
  exact ⟨rfl, rfl⟩

theorem side2 (c lo : Int) (p : Nat) (w : World) (h : w.cell? ⟨p, 0, none⟩ = some (.int .i64 lo)) :
    Calls Try.prog 143 #[.int .i64 c, .pointer (some ⟨p, 0, none⟩)] w fun e w' => e = .returned (.int .i64 (wrap64 (lo - c))) ∧ w = w' := by
  go_enter Try.func143, Try.ntmps143
  go_wp2
  go_ret
  exact ⟨rfl, rfl⟩

theorem over_any (f : Fm) (c : Int) (p : Nat) (w : World) (h0 : w.cell? ⟨p, 0, none⟩ = some (.int .i64 f.t.lo)) (h1 : w.cell? ⟨p, 1, none⟩ = some (.int .i64 f.t.hi)) :
    Calls Try.prog (fmFn f) #[.int .i64 c, .pointer (some ⟨p, 0, none⟩)] w fun e w' => e = .returned (.int .i64 (overB f c)) ∧ w = w' := by
  unfold fmFn overB
  cases f.up
  · exact side2 c _ p w h0
  · exact side1 c _ p w h1

theorem isFn_side1 : IsFn 142 := fun xs w => by kernel_rfl
theorem isFn_side2 : IsFn 143 := fun xs w => by kernel_rfl
theorem isFn_over (f : Fm) : IsFn (fmFn f) := by
  unfold fmFn
  cases f.up
  · exact isFn_side2
  · exact isFn_side1

def facTo (f : Fm) (l : List Sp) (k : Nat) : Int := ((List.range k).map fun i => grB (overB f (f.coefs.getD i 0)) (l.getD i ⟨0, 0⟩)).sum
def facB (f : Fm) (m : Mat) : Int := wrap64 (facTo f m.content m.content.length)

theorem facTo_succ (f : Fm) (l : List Sp) (k : Nat) (x : Int) (hx : x = wrap64 (facTo f l k)) : wrap64 (x + grB (overB f (f.coefs.getD k 0)) (l.getD k ⟨0, 0⟩)) = wrap64 (facTo f l (k + 1)) := by
  rw [hx, wrap_add]
  unfold facTo
  rw [List.range_succ, List.map_append, List.map_singleton, sum_snoc]

end Go.Proofs.Ytpkggjfaefkiiaa

namespace Go.Proofs.Ytpkggjfaefkiiaa
open Go.RowKit Go.PlainAid
set_option linter.unusedVariables false

set_option maxRecDepth 100000 in
theorem factor_any (f : Fm) (c u v : Value) (m : Mat) (w : World) (hf : FmIs w c u f) (hv : VMat w v m) (hlen : m.content.length ≤ f.coefs.length) :
    Calls Try.prog 95 #[.agg #[c, u], v] w fun e w' => e = .returned (.int .i64 (facB f m)) ∧ Below w.heap.size w w' := by
  obtain ⟨d, rfl, hd, hs⟩ := hv
  obtain ⟨p, rfl, hc, hp0, hp1⟩ := hf
  obtain ⟨ac, kc, rfl, -, ⟨-, hcm⟩, hcl⟩ := id hc
  obtain ⟨ad, kd, rfl, -, ⟨-, hdm⟩, hdl⟩ := id hd
  have hA : Below w.heap.size w ((w.alloc (.cells #[.slice ac f.coefs.length kc, .func (.func (fmFn f)) #[] #[.pointer (some ⟨p, 0, none⟩)]] 121)).alloc (.cells #[.string m.name, .int .i64 m.price, .int .i64 m.redox, .int .i64 m.least, .int .i64 m.most, .int .i64 m.step, .slice ad m.content.length kd] 68)) := by go_grown
  have hB : Blk ((w.alloc (.cells #[.slice ac f.coefs.length kc, .func (.func (fmFn f)) #[] #[.pointer (some ⟨p, 0, none⟩)]] 121)).alloc (.cells #[.string m.name, .int .i64 m.price, .int .i64 m.redox, .int .i64 m.least, .int .i64 m.most, .int .i64 m.step, .slice ad m.content.length kd] 68)) w.heap.size #[.slice ac f.coefs.length kc, .func (.func (fmFn f)) #[] #[.pointer (some ⟨p, 0, none⟩)]] 121 := (Blk.new w _ _).alloc _
  have hF := isFn_over f
  go_enter Try.func95, Try.ntmps95
  go_wp2
  generalize ((w.alloc (.cells #[.slice ac f.coefs.length kc, .func (.func (fmFn f)) #[] #[.pointer (some ⟨p, 0, none⟩)]] 121)).alloc (.cells #[.string m.name, .int .i64 m.price, .int .i64 m.redox, .int .i64 m.least, .int .i64 m.most, .int .i64 m.step, .slice ad m.content.length kd] 68)) = W at *
  go_loopw [5, 11] (fun n i wr => ∃ (k : Nat) (x : Int), k ≤ m.content.length ∧ i = .int .i64 k ∧ n = .int .i64 x ∧ Hid (x = wrap64 (facTo f m.content k)) ∧ Below W.heap.size W wr) (fun _ i _ => m.content.length - (intOf i).toNat)
  case atStart => exact ⟨0, 0, Nat.zero_le _, rfl, rfl, by simp [wrap64, Hid, facTo], Below.refl _ _⟩
  case round =>
    obtain ⟨k, x, hk, rfl, rfl, hx, hb⟩ := hrel
    have hfinB := hA.trans (hb.mono hA.size)
    by_cases hlt : k < m.content.length
    · obtain ⟨b1, o1, rfl, g1, g2, -, -⟩ := hdl k hlt
      obtain ⟨b2, o2, rfl, q1, -⟩ := hcl k (by omega)
      have hst := Lib.hid (facTo_succ f m.content k x hx.out)
      have e1 : f.coefs.getD k 0 = f.coefs[k]'(by omega) := by simp [List.getD, List.getElem?_eq_getElem (show k < f.coefs.length by omega)]
      have e2 : m.content.getD k ⟨0, 0⟩ = m.content[k]'hlt := by simp [List.getD, List.getElem?_eq_getElem hlt]
      rw [e1, e2] at hst
      simp only [Nat.mul_one] at g1 g2 q1
      have k1 := ext_of_below hfinB _ _ g1
      have k2 := ext_of_below hfinB _ _ g2
      have k3 := ext_of_below hfinB _ _ q1
      have k4 := ext_of_below hfinB _ _ hp0
      have k5 := ext_of_below hfinB _ _ hp1
      have hBr := hB.below hb hB.lt
      have m0 : wr.cell? ⟨w.heap.size, 0, none⟩ = some (.slice (some ⟨b2, o2, none⟩) f.coefs.length kc) := hBr.cell 0 _ rfl
      have m1 : wr.cell? ⟨w.heap.size, 1, none⟩ = some (.func (.func (fmFn f)) #[] #[.pointer (some ⟨p, 0, none⟩)]) := hBr.cell 1 _ rfl
      have l1 := cell_lt k1
      have l3 := cell_lt k3
      have l4 := cell_lt k4
      have l5 := cell_lt m0
      simp only at l1 l3 l4 l5
      have i1 : (0 : Int) ≤ (k : Int) := Int.natCast_nonneg _
      have i2 : (k : Int) < (f.coefs.length : Int) := by omega
      clear hcl hdl hc hd hp0 hp1 g1 g2 q1 e1 e2 hB hBr hfinB
      generalize m.content[k] = s at *
      generalize f.coefs[k]'(by omega) = co at *
      unfold IsFn at hF
      go_wp2_with fail
      have W2 := below_box wr (.cells #[.int .i64 s.lo, .int .i64 s.hi] 27)
      have B2 := Blk.new wr #[.int .i64 s.lo, .int .i64 s.hi] 27
      have j0 := B2.cell 0 (.int .i64 s.lo) rfl
      have j1 := B2.cell 1 (.int .i64 s.hi) rfl
      have k3' := keepCell W2 k3
      have k4' := keepCell W2 k4
      have k5' := keepCell W2 k5
      have m0' := keepCell W2 m0
      have m1' := keepCell W2 m1
      have hW3 := hb.trans (W2.mono hb.size)
      generalize hszr : wr.heap.size = nr at *
      generalize wr.alloc (.cells #[.int .i64 s.lo, .int .i64 s.hi] 27) = W3 at *
      have hI : Below W3.heap.size W3 W3.drew := (Below.refl _ _).drew
      clear k1 k2 k3 k4 k5 m0 m1 W2 B2 hb hszr hA hx
      go_region_held3 (fun w' => w'.cell? ⟨w.heap.size, 1, none⟩ = some (.func (.func (fmFn f)) #[] #[.pointer (some ⟨p, 0, none⟩)]) ∧ w'.cell? ⟨w.heap.size, 0, none⟩ = some (.slice (some ⟨b2, o2, none⟩) f.coefs.length kc) ∧ w'.cell? ⟨b2, o2 + k, none⟩ = some (.int .i64 co) ∧ w'.cell? ⟨nr, 0, none⟩ = some (.int .i64 s.lo) ∧ w'.cell? ⟨nr, 1, none⟩ = some (.int .i64 s.hi) ∧ Below W3.heap.size W3 w')
        (first | go_keep | (exact keep5 (by assumption) (by assumption)) | (refine ⟨?_, ?_, ?_, ?_, ?_, ?_⟩ <;> first | (exact keepCell (by assumption) (by assumption)) | (exact keepBelow (by assumption) (by assumption))))
        (first
          | (go_at_call 97; refine (greatestS _ s _).mono ?_; rintro e w' ⟨rfl, hb⟩)
          | (refine (over_any f co p _ ?_ ?_).mono ?_; (first | exact keepCell (by assumption) k4' | exact keepCell (by assumption : _ ∧ _ ∧ _ ∧ _ ∧ _ ∧ Below W3.heap.size W3 _).2.2.2.2.2 k4'); (first | exact keepCell (by assumption) k5' | exact keepCell (by assumption : _ ∧ _ ∧ _ ∧ _ ∧ _ ∧ Below W3.heap.size W3 _).2.2.2.2.2 k5'); rintro e w' ⟨rfl, rfl⟩))
      have hh := (by assumption : _ ∧ _ ∧ _ ∧ _ ∧ _ ∧ Below W3.heap.size W3 _).2.2.2.2.2
      have hW4 := hW3.trans (hh.mono hW3.size)
      clear hh
      go_wp2
      go_roundw
      case rel => exact ⟨k + 1, _, by omega, by go_num, rfl, by rw [IntWalk.i64_left]; exact hst, hW4⟩
      case measure => simp [intOf]; omega
    · have hfin := hx.out
      rw [show k = m.content.length from by omega] at hfin
      have HX := Lib.hid hfin
      clear hfin hx hdl hcl
      go_wp2
      go_ret
      exact ⟨ret_int HX.out, hfinB⟩

end Go.Proofs.Ytpkggjfaefkiiaa

namespace Go.Proofs.Ytpkggjfaefkiiaa
open Go.RowKit Go.PlainAid
set_option linter.unusedVariables false

theorem own_below {w w1 : World} {B base : Nat} {e : TypeId} {size : Nat} {v : Value} {n : Nat} {xs : List Value} (h : w.ownsRow base e size v n xs) (hb : Below B w w1) (hB : ∀ g, v.ownBlock = some g → g < B) : w1.ownsRow base e size v n xs := by
  obtain ⟨h1, h2⟩ := h
  refine ⟨h1, ?_⟩
  rcases h2 with h2 | ⟨g, cap, cur, hv, hg, hh, r⟩
  · exact Or.inl h2
  · refine Or.inr ⟨g, cap, cur, hv, hg, ?_, r⟩
    rw [hb.block g (hB g (by rw [hv]; rfl))]
    exact hh

/-- a slice of the call's own is seen where its block is. -/
theorem own_vis {S : Nat → Prop} {w : World} {base : Nat} {e : TypeId} {size : Nat} {v : Value} {n : Nat} {xs : List Value} (h : w.ownsRow base e size v n xs) (hS : ∀ g, v.ownBlock = some g → S g) : (vis S w).ownsRow base e size v n xs := by
  obtain ⟨h1, h2⟩ := h
  refine ⟨h1, ?_⟩
  rcases h2 with h2 | ⟨g, cap, cur, hv, hg, hh, r⟩
  · exact Or.inl h2
  · exact Or.inr ⟨g, cap, cur, hv, hg, by rw [vis_block (hS g (by rw [hv]; rfl))]; exact hh, r⟩

theorem own_lt {w : World} {base : Nat} {e : TypeId} {size : Nat} {v : Value} {n : Nat} {xs : List Value} (h : w.ownsRow base e size v n xs) : ∀ g, v.ownBlock = some g → g < w.heap.size := fun g hg => (h.lt g hg).2

theorem own_cells {w : World} {base : Nat} {e : TypeId} {size : Nat} {v : Value} {n : Nat} {xs : List Value} (h : w.ownsRow base e size v n xs) :
    (v = .slice none 0 0 ∧ n = 0) ∨ ∃ g cap, v = .slice (some ⟨g, 0, none⟩) n cap ∧ n ≤ cap ∧ cap ≤ 9223372036854775807 ∧ ∀ j (hj : j < xs.length), w.cell? ⟨g, j, none⟩ = some (xs[j]'hj) := by
  rcases h.2 with h2 | ⟨g, cap, cur, hv, hg, hh, h1, h2, h3, h4⟩
  · exact .inl h2
  · refine .inr ⟨g, cap, hv, h1, by simpa [maxLen] using h2, fun j hj => ?_⟩
    subst hv
    rw [h.cellAt j (by rw [← h.1]; exact hj), List.getElem?_eq_getElem hj]

/-- what a slice of the call's own reads as. -/
theorem own_RSl {α : Type} {R : World → Addr → α → Prop} {w : World} {base : Nat} {e : TypeId} {size : Nat} {v : Value} {xs : List Value} {l : List α} (h : w.ownsRow base e size v l.length xs) (hm : l.length ≤ 140737488351232)
    (hR : ∀ g cap, v = .slice (some ⟨g, 0, none⟩) l.length cap → (∀ j (hj : j < xs.length), w.cell? ⟨g, j, none⟩ = some (xs[j]'hj)) → ∀ i (hi : i < l.length), R w ⟨g, i * size, none⟩ (l[i]'hi)) : RSl size R w v l := by
  rcases own_cells h with ⟨h1, h2⟩ | ⟨g, cap, h1, h2, h3, h4⟩
  · exact ⟨none, 0, by rw [h1, h2], by omega, ⟨by omega, hm⟩, fun i hi => by omega⟩
  · refine ⟨some ⟨g, 0, none⟩, cap, h1, h2, ⟨h3, hm⟩, fun i hi => ⟨g, 0, rfl, ?_⟩⟩
    rw [Nat.zero_add]
    exact hR g cap h1 h4 i hi

theorem own_RInts {w : World} {base : Nat} {e : TypeId} {v : Value} {l : List Int} (h : w.ownsRow base e 1 v l.length (l.map (Value.int .i64))) (hm : l.length ≤ 140737488351232) (hi : ∀ x ∈ l, I64 x) : RInts w v l :=
  own_RSl h hm fun g cap _ hc i hil => by
    have := hc i (by simpa using hil)
    rw [List.getElem_map] at this
    exact ⟨by rw [Nat.mul_one]; exact this, hi _ (List.getElem_mem hil)⟩

/-- cells of structs, one behind the other. -/
theorem flat_at {α : Type} (c : α → List Value) (n : Nat) (hn : ∀ x, (c x).length = n) : ∀ (l : List α) (i j : Nat) (hi : i < l.length) (hj : j < n), (l.flatMap c)[i * n + j]? = (c (l[i]'hi))[j]? := by
  intro l
  induction l with
  | nil => intro i j hi; simp at hi
  | cons a l ih =>
    intro i j hi hj
    rw [List.flatMap_cons]
    cases i with
    | zero =>
      rw [Nat.zero_mul, Nat.zero_add, List.getElem?_append_left (by rw [hn]; exact hj)]
      rfl
    | succ i =>
      rw [List.getElem?_append_right (by rw [hn, Nat.succ_mul]; omega), hn, show (i + 1) * n + j - n = i * n + j from by rw [Nat.succ_mul]; omega, ih i j (by simpa using hi) hj]
      rfl

theorem flat_len {α : Type} (c : α → List Value) (n : Nat) (hn : ∀ x, (c x).length = n) : ∀ (l : List α), (l.flatMap c).length = l.length * n := by
  intro l
  induction l with
  | nil => simp
  | cons a l ih => rw [List.flatMap_cons, List.length_append, hn, ih, List.length_cons, Nat.succ_mul, Nat.add_comm]

theorem flat_cell {α : Type} {c : α → List Value} {n : Nat} (hn : ∀ x, (c x).length = n) {l : List α} {w : World} {g : Nat} (hc : ∀ j (hj : j < (l.flatMap c).length), w.cell? ⟨g, j, none⟩ = some ((l.flatMap c)[j]'hj)) (i j : Nat) (hi : i < l.length) (hj : j < n) (u : Value) (hu : (c (l[i]'hi))[j]? = some u) : w.cell? ⟨g, i * n + j, none⟩ = some u := by
  have hlt : i * n + j < (l.flatMap c).length := by
    rw [flat_len c n hn]
    have := Nat.mul_le_mul_right n (show i + 1 ≤ l.length from hi)
    rw [Nat.succ_mul] at this
    omega
  have h1 := flat_at c n hn l i j hi hj
  rw [hu, List.getElem?_eq_getElem hlt] at h1
  rw [hc _ hlt, h1]

def spCells (s : Sp) : List Value := [.int .i64 s.lo, .int .i64 s.hi]
theorem own_RSps {w : World} {base : Nat} {e : TypeId} {v : Value} {l : List Sp} (h : w.ownsRow base e 2 v l.length (l.flatMap spCells)) (hm : l.length ≤ 140737488351232) (hi : ∀ x ∈ l, I64 x.lo ∧ I64 x.hi) : RSps w v l :=
  own_RSl h hm fun g cap _ hc i hil => by
    have h0 := flat_cell (c := spCells) (n := 2) (fun _ => rfl) hc i 0 hil (by omega) _ rfl
    have h1 := flat_cell (c := spCells) (n := 2) (fun _ => rfl) hc i 1 hil (by omega) _ rfl
    exact ⟨h0, h1, (hi _ (List.getElem_mem hil)).1, (hi _ (List.getElem_mem hil)).2⟩

theorem info_int : (Try.prog.info? 3).map (fun i => (i.zero, i.size, i.bytes)) = some (some (.int .i64 0), 1, 8) := by kernel_rfl
theorem info_span : (Try.prog.info? 27).map (fun i => (i.zero, i.size, i.bytes)) = some (some (.agg #[.int .i64 0, .int .i64 0]), 2, 16) := by kernel_rfl
theorem info_line : (Try.prog.info? 39).map (fun i => (i.zero, i.size, i.bytes)) = some (some (.agg #[.slice none 0 0, .int .i64 0]), 2, 32) := by kernel_rfl

theorem below_grown {B : Nat} {a w w' : World} {row : Option Nat} (h : Below B a w) (hg : w.grownBy w' row) (hB : B ≤ w.heap.size) (hr : ∀ k, row = some k → B ≤ k) : Below B a w' := h.grown hg hB hr

end Go.Proofs.Ytpkggjfaefkiiaa

namespace Go.Proofs.Ytpkggjfaefkiiaa
open Go.RowKit Go.PlainAid
set_option linter.unusedVariables false

/-- what a call of a closure gives of the elements of a list that reads in w. -/
def Gives {α : Type} (f : Nat) (first cap : Array Value) (V : World → Value → α → Prop) (w : World) (l : List α) (g : α → Int) : Prop :=
  ∀ x v w1, x ∈ l → V w v x → Below w.heap.size w w1 → Calls Try.prog f (first ++ #[v] ++ cap) w1 fun e w2 => e = .returned (.int .i64 (g x)) ∧ Below w1.heap.size w1 w2

def RetLine (w : World) (l : List Int) (n : Int) (e : Ending) (w' : World) : Prop := ∃ c, e = .returned (.agg #[c, .int .i64 n]) ∧ RInts (vis (w.heap.size ≤ ·) w') c l ∧ Below w.heap.size w w'

theorem set_upto (l : List Mat) (g : Mat → Int) (ys : List Int) (k : Nat) (hk : k < l.length) (hl : ys.length = l.length) (h : ∀ j, j < k → ys.getD j 0 = (l.map g).getD j 0) (x : Int) (hx : x = g l[k]) :
    (ys.set k x).length = l.length ∧ ∀ j, j < k + 1 → (ys.set k x).getD j 0 = (l.map g).getD j 0 := by
  refine ⟨by simpa using hl, fun j hj => ?_⟩
  by_cases hjk : j = k
  · subst hjk
    simp [List.getD, hl, hk, hx]
  · have h1 := h j (by omega)
    simp only [List.getD] at h1 ⊢
    rw [List.getElem?_set_ne (by omega)]
    exact h1

theorem ext_upto (l : List Int) (ys : List Int) (hl : ys.length = l.length) (h : ∀ j, j < l.length → ys.getD j 0 = l.getD j 0) : ys = l := by
  apply List.ext_getElem hl
  intro j h1 h2
  have := h j h2
  simp [List.getD, List.getElem?_eq_getElem h1, List.getElem?_eq_getElem h2] at this
  exact this

set_option maxRecDepth 100000 in
theorem newLine_any (vb : Value) (b : Bat) (f : Nat) (first cap : Array Value) (g : Mat → Int) (bound : Int) (w : World) (h : RBat w vb b) (hF : IsFn f) (hf : Gives f first cap VMat w b.mats g) (hg : ∀ m ∈ b.mats, I64 (g m)) (hn : b.mats.length ≤ 1000000) :
    Calls Try.prog 93 #[vb, .func (.func f) first cap, .int .i64 bound] w (RetLine w (b.mats.map g) bound) := by
  obtain ⟨v0, v1, v2, v3, rfl, h0, h1, h2, h3, i1, i2, i3⟩ := h
  obtain ⟨a0, k0, rfl, -, ⟨-, l0⟩, -⟩ := h0
  obtain ⟨a1, k1, rfl, l1c, ⟨l1c', l1⟩, hl⟩ := id h1
  obtain ⟨a2, k2, rfl, -, ⟨-, l2⟩, -⟩ := h2
  obtain ⟨a3, k3, rfl, -, ⟨-, l3⟩, -⟩ := h3
  obtain ⟨i0, hi, hz0, hz1, hz2⟩ := info_parts info_int
  have hA0 : Below w.heap.size w ((w.alloc (.cells #[.slice a0 b.oxides.length k0, .slice a1 b.mats.length k1, .slice a2 b.shares.length k2, .slice a3 b.props.length k3, .int .i64 b.redox.lo, .int .i64 b.redox.hi, .int .i64 b.wanted] 29)).alloc (.cells #[.slice none 0 0, .int .i64 0] 39)) := by go_grown
  obtain ⟨hB1, hB2⟩ : Blk ((w.alloc (.cells #[.slice a0 b.oxides.length k0, .slice a1 b.mats.length k1, .slice a2 b.shares.length k2, .slice a3 b.props.length k3, .int .i64 b.redox.lo, .int .i64 b.redox.hi, .int .i64 b.wanted] 29)).alloc (.cells #[.slice none 0 0, .int .i64 0] 39)) w.heap.size #[.slice a0 b.oxides.length k0, .slice a1 b.mats.length k1, .slice a2 b.shares.length k2, .slice a3 b.props.length k3, .int .i64 b.redox.lo, .int .i64 b.redox.hi, .int .i64 b.wanted] 29 ∧
      Blk ((w.alloc (.cells #[.slice a0 b.oxides.length k0, .slice a1 b.mats.length k1, .slice a2 b.shares.length k2, .slice a3 b.props.length k3, .int .i64 b.redox.lo, .int .i64 b.redox.hi, .int .i64 b.wanted] 29)).alloc (.cells #[.slice none 0 0, .int .i64 0] 39)) (w.heap.size + 1) #[.slice none 0 0, .int .i64 0] 39 := by
    refine ⟨(Blk.new w _ _).alloc _, ?_⟩
    have := Blk.new (w.alloc (.cells #[.slice a0 b.oxides.length k0, .slice a1 b.mats.length k1, .slice a2 b.shares.length k2, .slice a3 b.props.length k3, .int .i64 b.redox.lo, .int .i64 b.redox.hi, .int .i64 b.wanted] 29)) #[.slice none 0 0, .int .i64 0] 39
    simpa using this
  go_enter Try.func93, Try.ntmps93
  go_wp2_with (at_make; refine wpList_make_full _ rfl _ _ _ rfl (w.heap.size + 2) 3 i0 (.int .i64 0) 1 Try.underlying37 hi hz0 hz1 .i64 .i64 _ _ b.mats.length rfl rfl rfl rfl ?_ ?_ ?_ ?_)
  · rw [hz2]; omega
  · unfold maxLen; omega
  · simp
  intro W1 hown hgrow
  have hA1 := hA0.grown hgrow (by simp; omega) (by intro k hk; cases hk)
  have hC1 : Below (w.heap.size + 1 + 1) _ W1 := Below.grown (Below.refl _ _) hgrow (by simp) (by intro k hk; cases hk)
  have hB1' := hB1.below hC1 (by omega)
  have hB2' := hB2.below hC1 (by omega)
  have hlt1 : w.heap.size + 1 + 1 < W1.heap.size := own_lt hown _ rfl
  rw [toList_madeCells_one, show List.replicate b.mats.length (Value.int .i64 0) = (List.replicate b.mats.length (0 : Int)).map (Value.int .i64) from by simp] at hown
  have hsz0 : w.heap.size ≤ W1.heap.size := by omega
  have m1 : W1.cell? ⟨w.heap.size, 1, none⟩ = some (.slice a1 b.mats.length k1) := hB1'.cell 1 _ rfl
  clear hA0 hgrow hC1 hB1 hB2
  go_wp2
  go_loopw [17] (fun i wr => ∃ (k : Nat) (ys : List Int), k ≤ b.mats.length ∧ i = .int .i64 k ∧ Hid (ys.length = b.mats.length ∧ ∀ j, j < k → ys.getD j 0 = (b.mats.map g).getD j 0) ∧ wr.ownsRow (w.heap.size + 2) 3 1 (.slice (some ⟨w.heap.size + 1 + 1, 0, none⟩) b.mats.length b.mats.length) b.mats.length (ys.map (Value.int .i64)) ∧ Below (w.heap.size + 2) W1 wr) (fun i _ => b.mats.length - (intOf i).toNat)
  case atStart => exact ⟨0, List.replicate b.mats.length 0, Nat.zero_le _, rfl, ⟨by simp, by intro j hj; omega⟩, hown, Below.refl _ _⟩
  case round =>
    obtain ⟨k, ys, hk, rfl, hx, hown, hb⟩ := hrel
    have hfinB := hA1.trans (hb.mono (by omega))
    by_cases hlt : k < b.mats.length
    · obtain ⟨b1, o1, rfl, c, ⟨g0, g1, g2, g3, g4, g5, g6⟩, hc, hs⟩ := hl k hlt
      obtain ⟨ac, kc, rfl, -, -, -⟩ := id hc
      have hbl := cell_lt g0
      simp only at g0 g1 g2 g3 g4 g5 g6 hbl
      have hV : VMat w (.agg #[.string b.mats[k].name, .int .i64 b.mats[k].price, .int .i64 b.mats[k].redox, .int .i64 b.mats[k].least, .int .i64 b.mats[k].most, .int .i64 b.mats[k].step, .slice ac b.mats[k].content.length kc]) b.mats[k] := ⟨_, rfl, hc, hs⟩
      have hf' := fun w1 => hf b.mats[k] _ w1 (List.getElem_mem hlt) hV
      have hgk := hg b.mats[k] (List.getElem_mem hlt)
      have hst := Lib.hid (fun x hx' => set_upto b.mats g ys k hlt hx.out.1 hx.out.2 x hx')
      obtain ⟨hcc, hzz⟩ := bcell hfinB
      have hlr : w.heap.size + 1 + 1 < wr.heap.size := own_lt hown _ rfl
      clear hl hf hg hV hc hs
      generalize b.mats[k] = s at *
      unfold IsFn at hF
      go_wp2_with fail
      have hAm := below_box wr (.cells #[.string s.name, .int .i64 s.price, .int .i64 s.redox, .int .i64 s.least, .int .i64 s.most, .int .i64 s.step, .slice ac s.content.length kc] 68)
      refine (hf' _ (hfinB.trans (hAm.mono hfinB.size))).mono ?_
      rintro e w1 ⟨rfl, hb1⟩
      have hW1 := hAm.trans (hb1.mono (by simp))
      have hown1 := own_below hown hW1 (fun g hg => own_lt hown g hg)
      have hfin1 := hb.trans (hW1.mono (by omega))
      have e1 := hown1.cellAt k (by omega)
      rw [List.getElem?_map, List.getElem?_eq_getElem (by rw [hx.out.1]; exact hlt), Option.map_some] at e1
      have e2 := hown1.frozenAt k
      have hown2 := (hown1.stored k (.int .i64 (g s))).1
      rw [← List.map_set] at hown2
      have hfin2 := hfin1.setCell (p := ⟨w.heap.size + 1 + 1, k, none⟩) (by simp) (.int .i64 (g s))
      clear hcc hzz hb1 hAm hW1 hfin1 hown hown1 hfinB hb hf'
      go_wp2
      go_roundw
      case rel => exact ⟨k + 1, ys.set k (g s), by omega, by go_num, hst.out _ rfl, hown2, hfin2⟩
      case measure => simp [intOf]; omega
    · have hfin := ext_upto (b.mats.map g) ys (by rw [hx.out.1]; simp) (fun j hj => hx.out.2 j (by simp at hj; omega))
      subst hfin
      have hownF := ownsRow_setCell_below (ownsRow_setCell_below hown (a := ⟨w.heap.size + 1, 0, none⟩) (by simp) (.slice (some ⟨w.heap.size + 1 + 1, 0, none⟩) b.mats.length b.mats.length)) (a := ⟨w.heap.size + 1, 1, none⟩) (by simp) (.int .i64 bound)
      have hRI := own_RInts (l := b.mats.map g) (by rw [List.length_map]; exact own_vis (S := (w.heap.size ≤ ·)) hownF (by intro g hg; simp [Value.ownBlock] at hg; omega)) (by rw [List.length_map]; exact l1) (by intro x hx; obtain ⟨m, hm, rfl⟩ := List.mem_map.1 hx; exact hg m hm)
      have B2 := hB2'.below hb (by omega)
      have c0 : wr.cell? ⟨w.heap.size + 1, 0, none⟩ = some (.slice none 0 0) := B2.cell 0 _ rfl
      have c1 : wr.cell? ⟨w.heap.size + 1, 1, none⟩ = some (.int .i64 0) := B2.cell 1 _ rfl
      have f0 := B2.frozen 0
      have f1 := B2.frozen 1
      have HX := Lib.hid hx
      clear hx hl hf hg hown hownF hb hA1
      go_wp2
      have B3 := (B2.set 0 (.slice (some ⟨w.heap.size + 1 + 1, 0, none⟩) b.mats.length b.mats.length)).set 1 (.int .i64 bound)
      have d0 := B3.cell 0 (.slice (some ⟨w.heap.size + 1 + 1, 0, none⟩) b.mats.length b.mats.length) rfl
      have d1 := B3.cell 1 (.int .i64 bound) rfl
      refine bodyPost_ret (v := .agg #[.slice (some ⟨w.heap.size + 1 + 1, 0, none⟩) b.mats.length b.mats.length, .int .i64 bound]) (by simp only [results, Try.results93]; simp [go_sem, d0, d1]) rfl ⟨_, rfl, hRI, (hfinB.setCell (p := ⟨w.heap.size + 1, 0, none⟩) (by simp) _).setCell (p := ⟨w.heap.size + 1, 1, none⟩) (by simp) _⟩

end Go.Proofs.Ytpkggjfaefkiiaa
