/- Passes, by its contract; no statement is proved here. -/
import Derived.Test.YtpkggjfaefkiiaaFindLn
namespace Go.Proofs.Ytpkggjfaefkiiaa
open Go.RowKit Go.PlainAid
set_option linter.unusedVariables false

def brokenB (r : List Int) (l : Ln) : Bool := decide (l.bound < dotB l.fs r)

theorem broken_any (l : Ln) (v : Value) (r : List Int) (p : Nat) (rv : Value) (w : World) (h : VLn w v l) (hp : w.cell? ⟨p, 0, none⟩ = some rv) (hr : RInts w rv r) (hl : l.fs.length ≤ r.length) :
    Calls Try.prog 75 #[v, .pointer (some ⟨p, 0, none⟩)] w fun e w' => e = .returned (.bool (brokenB r l)) ∧ Below w.heap.size w w' := by
  obtain ⟨c, rfl, hc, hs⟩ := h
  obtain ⟨ac, kc, rfl, -, -, -⟩ := id hc
  have hA := below_box w (.cells #[.slice ac l.fs.length kc, .int .i64 l.bound] 39)
  have hB := Blk.new w #[.slice ac l.fs.length kc, .int .i64 l.bound] 39
  have hcW := hc.mono ((ext_of_below hA).trans (ext_drew _))
  have hrW := hr.mono ((ext_of_below hA).trans (ext_drew _))
  have hpW := ext_of_below hA _ _ hp
  have hbl := cell_lt hp
  have c0 := hB.cell 0 (.slice ac l.fs.length kc) rfl
  have c1 := hB.cell 1 (.int .i64 l.bound) rfl
  simp only at hbl
  go_enter Try.func75, Try.ntmps75
  go_wp2_with fail
  generalize w.alloc (.cells #[.slice ac l.fs.length kc, .int .i64 l.bound] 39) = W at *
  have hI : Below W.heap.size W W.drew := (Below.refl _ _).drew
  clear hB hp hc hr
  go_region_held3 (fun w' => w'.cell? ⟨w.heap.size, 0, none⟩ = some (.slice ac l.fs.length kc) ∧ w'.cell? ⟨w.heap.size, 1, none⟩ = some (.int .i64 l.bound) ∧ w'.cell? ⟨p, 0, none⟩ = some rv ∧ Below W.heap.size W w')
    (first | go_keep)
    (first
      | (go_at_call 76; refine (dot_any _ _ l.fs r _ hcW hrW hl).mono ?_; rintro e w' ⟨rfl, rfl⟩))
  go_wp2
  go_ret
  refine ⟨rfl, hA.trans (Below.mono (w := W) ?_ hA.size)⟩
  exact (by assumption : _ ∧ _ ∧ _ ∧ Below W.heap.size W _).2.2.2

theorem isFn_broken : IsFn 75 := fun xs w => by kernel_rfl

theorem tells_broken (l : List Ln) (r : List Int) (p : Nat) (rv : Value) (w : World) (hp : w.cell? ⟨p, 0, none⟩ = some rv) (hr : RInts w rv r) (hl : ∀ x ∈ l, x.fs.length ≤ r.length) :
    Tells 75 #[.pointer (some ⟨p, 0, none⟩)] VLn w l (brokenB r) :=
  fun x v w1 hx hv hb => broken_any x v r p rv w1 (hv.mono (ext_of_below hb)) (ext_of_below hb _ _ hp) (hr.mono (ext_of_below hb)) (hl x hx)

def passB (b : Bat) (r : List Int) : Bool := !((linesB b).any (brokenB r))
/-- the two results. -/
def passesB (b : Bat) (r : List Int) : Bool × Int := if bothB b r = 0 then (passB b r, 0) else (false, bothB b r)

theorem line_len {b : Bat} {l : Ln} (h : l ∈ linesB b) : l.fs.length = b.mats.length := by
  unfold linesB lnTo at h
  simp only [List.cons_append, List.mem_cons, List.mem_append, List.mem_map, List.not_mem_nil, or_false] at h
  rcases h with rfl | ⟨f, _, rfl⟩ | rfl | rfl <;> simp

theorem rec_len {b : Bat} {r : List Int} (h : bothB b r = 0) : checkB b = 0 ∧ r.length = b.mats.length ∧ ∀ x ∈ r, 0 ≤ x ∧ x ≤ 10000 := by
  unfold bothB at h
  split at h
  · rename_i h1; exact absurd h h1
  rename_i h1
  simp only [ne_eq, Decidable.not_not] at h1
  unfold recB at h
  split at h
  · rename_i h2
    exact ⟨h1, allBetween_iff h2⟩
  · omega

def RetBE (w : World) (p : Bool × Int) (e : Ending) (w' : World) : Prop := e = .returned (.tuple #[.bool p.1, .int .i64 p.2]) ∧ Below w.heap.size w w'

set_option maxRecDepth 100000 in
theorem passes_any (v rv : Value) (b : Bat) (r : List Int) (w : World) (h : RBat w v b) (hr : RInts w rv r) :
    Calls Try.prog 30 #[v, rv] w (RetBE w (passesB b r)) := by
  obtain ⟨a0, k0, a1, k1, a2, k2, a3, k3, rfl⟩ := h.agg
  obtain ⟨ar, kr, rfl, -, -, -⟩ := id hr
  have hA := below_two w (.cells #[.slice a0 b.oxides.length k0, .slice a1 b.mats.length k1, .slice a2 b.shares.length k2, .slice a3 b.props.length k3, .int .i64 b.redox.lo, .int .i64 b.redox.hi, .int .i64 b.wanted] 29) (.cells #[.slice ar r.length kr] 37)
  have hB1 := (Blk.new w #[.slice a0 b.oxides.length k0, .slice a1 b.mats.length k1, .slice a2 b.shares.length k2, .slice a3 b.props.length k3, .int .i64 b.redox.lo, .int .i64 b.redox.hi, .int .i64 b.wanted] 29).alloc (.cells #[.slice ar r.length kr] 37)
  have hB2 : Blk ((w.alloc (.cells #[.slice a0 b.oxides.length k0, .slice a1 b.mats.length k1, .slice a2 b.shares.length k2, .slice a3 b.props.length k3, .int .i64 b.redox.lo, .int .i64 b.redox.hi, .int .i64 b.wanted] 29)).alloc (.cells #[.slice ar r.length kr] 37)) (w.heap.size + 1) #[.slice ar r.length kr] 37 := by
    have := Blk.new (w.alloc (.cells #[.slice a0 b.oxides.length k0, .slice a1 b.mats.length k1, .slice a2 b.shares.length k2, .slice a3 b.props.length k3, .int .i64 b.redox.lo, .int .i64 b.redox.hi, .int .i64 b.wanted] 29)) #[.slice ar r.length kr] 37
    simpa using this
  go_enter Try.func30, Try.ntmps30
  go_wp2_with fail
  generalize (w.alloc (.cells #[.slice a0 b.oxides.length k0, .slice a1 b.mats.length k1, .slice a2 b.shares.length k2, .slice a3 b.props.length k3, .int .i64 b.redox.lo, .int .i64 b.redox.hi, .int .i64 b.wanted] 29)).alloc (.cells #[.slice ar r.length kr] 37) = W at *
  refine (checkBoth_any _ _ b r _ (h.mono (ext_of_below hA)) (hr.mono (ext_of_below hA))).mono ?_
  rintro e w1 ⟨rfl, hb1⟩
  have hA1 := hA.trans (hb1.mono hA.size)
  have hC1 := hB1.below hb1 hB1.lt
  have hC2 := hB2.below hb1 hB2.lt
  clear hA hB1 hB2 hb1
  by_cases e1 : bothB b r = 0
  case neg =>
    have e1' : (bothB b r != 0) = true := by simp [e1]
    have hfin := Lib.hid (show passesB b r = (false, bothB b r) by simp [passesB, e1])
    clear hC1 hC2 e1
    go_wp2
    go_ret2
    unfold RetBE
    rw [hfin.out]
    exact ⟨rfl, hA1⟩
  have e1' : (bothB b r != 0) = false := by simp [e1]
  have hfin := Lib.hid (show passesB b r = (passB b r, 0) by simp [passesB, e1])
  obtain ⟨g1, g2, g3⟩ := rec_len e1
  have G2 := Lib.hid g2
  have hok := ok_of g1
  clear e1 g1 g2 g3
  have f0 := hC1.cell 0 (.slice a0 b.oxides.length k0) rfl
  have f1 := hC1.cell 1 (.slice a1 b.mats.length k1) rfl
  have f2 := hC1.cell 2 (.slice a2 b.shares.length k2) rfl
  have f3 := hC1.cell 3 (.slice a3 b.props.length k3) rfl
  have f4 := hC1.cell 4 (.int .i64 b.redox.lo) rfl
  have f5 := hC1.cell 5 (.int .i64 b.redox.hi) rfl
  have f6 := hC1.cell 6 (.int .i64 b.wanted) rfl
  go_wp2_with fail
  refine (lines_ok _ b _ (h.mono (ext_of_below hA1)) hok).mono ?_
  rintro e w2 ⟨vl, rfl, hvl, hb2⟩
  have hA2 := hA1.trans (hb2.mono hA1.size)
  have hD2 := hC2.below hb2 hC2.lt
  clear f0 f1 f2 f3 f4 f5 f6 hC1 hC2 hA1 hb2
  go_wp2_with fail
  refine (containsFunc_ln _ isFn_broken _ (brokenB r) _ (linesB b) _ hvl (tells_broken _ r _ _ _ (hD2.cell 0 _ rfl) (hr.mono (ext_of_below hA2)) (fun x hx => by rw [line_len hx, G2.out]; exact Nat.le_refl _))).mono ?_
  rintro e w3 ⟨rfl, hb3⟩
  have hA3 := hA2.trans (hb3.mono hA2.size)
  clear hb3 hA2 hD2 hvl
  go_wp2
  go_ret2
  unfold RetBE
  rw [hfin.out]
  exact ⟨rfl, hA3⟩

end Go.Proofs.Ytpkggjfaefkiiaa
