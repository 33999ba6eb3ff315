/- Package strength's Thickness and Check, by their contracts; no statement is proved here. -/
import Derived.Test.YtaldpalhckdcdaaGreatDoorTh2
import Derived.Test.YtaldpalhckdcdaaGreatDoorTh1
import Derived.WalkLawsBesides
import Derived.Handy
namespace Go.Proofs.YtaldpalhckdcdaaGreatDoor
open Go.RowKit Go.PlainAid
set_option linter.unusedVariables false
theorem isFn_thick1 : IsFn 98 := fun xs w => by kernel_rfl
theorem isFn_check1 : IsFn 64 := fun xs w => by kernel_rfl
theorem rsps_nil (w : World) : RSps w (.slice none 0 0) [] := ⟨none, 0, rfl, Nat.le_refl _, ⟨by omega, by simp⟩, fun i hi => by simp at hi⟩
theorem thickS_err {b : Bot} {s : Sp} (h : (thickS b s).2 ≠ 0) : (thickS b s).1 = [] := by
  unfold thickS at *
  split at h
  · split at h
    · exact absurd rfl h
    · rename_i h1 h2; rw [if_pos h1, if_neg h2]
  · rename_i h1; rw [if_neg h1]

set_option maxRecDepth 100000 in
theorem thicknessP_any (vb : Value) (b : Bot) (s : Sp) (w : World) (h : RBot w vb b) (hC : Circ w) :
    Calls Tryz.prog 67 #[vb, .agg #[.int .i64 s.lo, .int .i64 s.hi]] w fun e w' => ∃ v, e = .returned (.tuple #[v, .int .i64 (thickS b s).2]) ∧ RSps (vis (w.heap.size ≤ ·) w') v (thickS b s).1 ∧ Below w.heap.size w w' := by
  have hmf : ∀ (fn : Fn) (first cap : Array Value) (w : World), (Instr.makeFunc fn first cap).run Tryz.prog w = .ok (.func fn first cap) w := fun _ _ _ _ => rfl
  obtain ⟨v0, rfl, hr, hI⟩ := h
  have hrr := hr
  obtain ⟨a, cap, rfl, -, -, -⟩ := hr
  have hA2 : Below w.heap.size w ((w.alloc (.cells #[.slice a b.rings.length cap, .int .i64 b.flaw, .int .i64 b.tough] 24)).alloc (.cells #[.int .i64 s.lo, .int .i64 s.hi] 27)) := (below_boxS w _).alloc (by simp) _
  have hB := (Blk.new w #[.slice a b.rings.length cap, .int .i64 b.flaw, .int .i64 b.tough] 24).alloc (.cells #[.int .i64 s.lo, .int .i64 s.hi] 27)
  have hS := Blk.new (w.alloc (.cells #[.slice a b.rings.length cap, .int .i64 b.flaw, .int .i64 b.tough] 24)) #[.int .i64 s.lo, .int .i64 s.hi] 27
  rw [World.size_alloc] at hS
  go_enter Tryz.func67, Tryz.ntmps67
  go_wp2_with fail
  generalize (w.alloc (.cells #[.slice a b.rings.length cap, .int .i64 b.flaw, .int .i64 b.tough] 24)).alloc (.cells #[.int .i64 s.lo, .int .i64 s.hi] 27) = W2 at *
  have hsz := hA2.size
  refine (told_any 98 #[.pointer (some ⟨w.heap.size, 0, none⟩), .pointer (some ⟨w.heap.size + 1, 0, none⟩)] W2 (fun W v => (thickS b s).2 = 0 ∧ RSps W v (thickS b s).1) (fun n => n ≠ 0 ∧ n = (thickS b s).2) isFn_thick1
    (fun _ _ ⟨_, a, c, h, _⟩ => ⟨a, _, c, h⟩) (fun _ _ _ e h => ⟨h.1, h.2.mono e⟩)
    (fun W hW => thick1_any _ b s _ _ W (hB.below hW hB.lt) (hS.below hW hS.lt) ((hrr.mono (ext_of_below hA2)).mono (ext_of_below hW)) hI ((hC.mono (ext_of_below hA2)).mono (ext_of_below hW)))).mono ?_
  rintro e w' ⟨hb, (⟨v, rfl, h0, hv⟩ | ⟨n, rfl, hn, hn2⟩)⟩
  · have HF := Lib.hid (hA2.trans (hb.mono hA2.size))
    have HV := Lib.hid (hv.mono (ext_vis_of (S := (W2.heap.size ≤ ·)) (T := (w.heap.size ≤ ·)) (Ext.refl w') (fun k _ h => Nat.le_trans hsz h)))
    have H0 := Lib.hid h0
    clear hb hv h0 hB hS hA2
    go_wp2
    go_ret2
    exact ⟨v, by rw [H0.out]; rfl, HV.out, HF.out⟩
  · have HF := Lib.hid (hA2.trans (hb.mono hA2.size))
    have HN := Lib.hid (thickS_err (b := b) (s := s) (by rw [← hn2]; exact hn))
    have H2 := Lib.hid hn2
    clear hb hn hn2 hB hS hA2
    go_wp2
    go_ret2
    exact ⟨_, by rw [← H2.out]; rfl, by rw [HN.out]; exact rsps_nil _, HF.out⟩

set_option maxRecDepth 100000 in
theorem check1_any (vb : Array Value) (b : Bot) (p0 : Nat) (w : World) (h : RBot w (.agg vb) b) (hB : Blk w p0 vb 24) :
    Calls Tryz.prog 64 #[.pointer (some ⟨p0, 0, none⟩)] w (Need w (checkS b)) := by
  have hnb := needBottle_in _ b w 9 h
  obtain ⟨v0, he, hr, hI⟩ := h
  cases he
  have c0 := hB.cell 0 _ rfl
  have c1 := hB.cell 1 _ rfl
  have c2 := hB.cell 2 _ rfl
  obtain ⟨a, cap, rfl, -, -, -⟩ := hr
  go_enter Tryz.func64, Tryz.ntmps64
  go_wp2_with fail
  refine (calls_p hnb).mono ?_
  rintro e w' ⟨(⟨hc, rfl⟩ | ⟨hc, rfl⟩), hb⟩
  · have HC := Lib.hid hc
    have HB := Lib.hid hb
    clear hc hb hB c0 c1 c2 hnb
    go_wp2
    go_end0
    exact ⟨.inl ⟨HC.out, rfl⟩, HB.out⟩
  · have HC := Lib.hid hc
    have HB := Lib.hid hb
    clear hc hb hB c0 c1 c2 hnb
    go_wp2
    exact ⟨rfl, .inr ⟨HC.out, rfl⟩, HB.out⟩

set_option maxRecDepth 100000 in
theorem checkP_any (vb : Value) (b : Bot) (w : World) (h : RBot w vb b) :
    Calls Tryz.prog 17 #[vb] w fun e w' => e = .returned (.int .i64 (checkS b)) ∧ Below w.heap.size w w' := by
  have hmf : ∀ (fn : Fn) (first cap : Array Value) (w : World), (Instr.makeFunc fn first cap).run Tryz.prog w = .ok (.func fn first cap) w := fun _ _ _ _ => rfl
  have h0 := h
  obtain ⟨v0, rfl, hr, hI⟩ := h
  have hA2 := below_boxS w (.cells #[v0, .int .i64 b.flaw, .int .i64 b.tough] 24)
  have hB := Blk.new w #[v0, .int .i64 b.flaw, .int .i64 b.tough] 24
  obtain ⟨a, cap, rfl, -, -, -⟩ := hr
  go_enter Tryz.func17, Tryz.ntmps17
  go_wp2_with fail
  generalize w.alloc (.cells #[.slice a b.rings.length cap, .int .i64 b.flaw, .int .i64 b.tough] 24) = W2 at *
  have hE := below_boxS W2 (.cells #[.int .i64 8] 29)
  have hBE := Blk.new W2 #[.int .i64 8] 29
  have hsz := hA2.size
  refine (errorOf_any 64 #[.pointer (some ⟨w.heap.size, 0, none⟩)] W2 isFn_check1 (fun w' => checkS b = 0 ∧ Below W2.heap.size W2 w') (fun n w' => n = checkS b ∧ Below W2.heap.size W2 w')
    ((check1_any _ b _ _ ((h0.mono (ext_of_below hA2)).mono (ext_of_below hE)) (hB.alloc _)).mono ?_)).mono ?_
  · rintro e w' ⟨(⟨hc, rfl⟩ | ⟨hc, rfl⟩), hb⟩
    · exact ⟨hBE.below hb hBE.lt, .inl ⟨rfl, hc, hE.trans (hb.mono hE.size)⟩⟩
    · exact ⟨hBE.below hb hBE.lt, .inr ⟨_, rfl, rfl, hE.trans (hb.mono hE.size)⟩⟩
  rintro e w' (⟨w2, rfl, ⟨hc, hb⟩, rfl⟩ | ⟨n, w2, rfl, ⟨rfl, hb⟩, rfl⟩)
  · have h1 := hA2.trans (hb.mono hA2.size)
    have h2 := h1.setCell (p := ⟨W2.heap.size, 0, none⟩) hsz (.int .i64 0)
    have HF := Lib.hid (h2.alloc h2.size (.cells #[.int .i64 0] 132))
    have HC := Lib.hid hc
    clear h1 h2 hb hc hE hBE hB h0 hA2
    generalize (w2.setCell ⟨W2.heap.size, 0, none⟩ (.int .i64 0)).alloc (.cells #[.int .i64 0] 132) = WF at *
    go_wp2
    go_ret
    exact ⟨by rw [HC.out]; rfl, HF.out⟩
  · have h1 := hA2.trans (hb.mono hA2.size)
    have HF := Lib.hid ((h1.alloc h1.size (.cells #[.int .i64 (checkS b)] 132)).setCell (p := ⟨W2.heap.size, 0, none⟩) hsz (.int .i64 (checkS b)))
    clear h1 hb hE hBE hB h0 hA2
    generalize (w2.alloc (.cells #[.int .i64 (checkS b)] 132)).setCell ⟨W2.heap.size, 0, none⟩ (.int .i64 (checkS b)) = WF at *
    go_wp2
    go_ret
    exact ⟨rfl, HF.out⟩

end Go.Proofs.YtaldpalhckdcdaaGreatDoor

namespace Go.Proofs.YtaldpalhckdcdaaGreatDoor
open Go.RowKit Go.PlainAid
set_option linter.unusedVariables false
theorem neq_span (x1 x2 y1 y2 : Int) (w : World) : Sem.run Tryz.prog (Go.binOp .neq 27 (.agg #[.int .i64 x1, .int .i64 x2]) (.agg #[.int .i64 y1, .int .i64 y2])) w = .ok (.bool (!(x1 == y1 && x2 == y2))) w := by
  rw [run_neq_struct]
  simp [go_sem]
  by_cases h1 : x1 = y1 <;> by_cases h2 : x2 = y2 <;> simp [h1, h2]

def eqTo (a b : List Sp) (k : Nat) : Prop := ∀ j, j < k → a[j]? = b[j]?

set_option maxRecDepth 100000 in
theorem sameSpans_any (v1 v2 : Value) (a b : List Sp) (w : World) (ha : RSps w v1 a) (hb : RSps w v2 b) :
    Calls Tryz.prog 68 #[v1, v2] w fun e w' => e = .returned (.bool (decide (a = b))) ∧ Below w.heap.size w w' := by
  obtain ⟨pa, ka, rfl, -, ⟨-, la⟩, hal⟩ := ha
  obtain ⟨pb, kb, rfl, -, ⟨-, lb⟩, hbl⟩ := hb
  by_cases hl : a.length = b.length
  case neg =>
    have hne : decide (a = b) = false := decide_eq_false fun e => hl (by rw [e])
    rw [hne]
    have hq : ((a.length : Int) != (b.length : Int)) = true := by rw [bne_iff_ne]; omega
    clear hl hne hal hbl
    go_enter Tryz.func68, Tryz.ntmps68
    go_wp2
    go_ret
    exact ⟨rfl, Below.refl _ _⟩
  have hq : ((a.length : Int) != (b.length : Int)) = false := by rw [bne_eq_false_iff_eq]; omega
  have hle : a.length ≤ b.length := by omega
  have HL := Lib.hid hl
  clear hl
  go_enter Tryz.func68, Tryz.ntmps68
  go_wp2
  go_loopw [5] (fun i wr => ∃ (k : Nat), k ≤ a.length ∧ i = .int .i64 k ∧ Hid (eqTo a b k) ∧ Below w.heap.size w wr) (fun i _ => a.length - (intOf i).toNat)
  case atStart => exact ⟨0, Nat.zero_le _, rfl, fun j hj => by omega, Below.refl _ _⟩
  case round =>
    obtain ⟨k, hk, rfl, hx, hB⟩ := hrel
    clear hq
    by_cases hlt : k < a.length
    · obtain ⟨b1, o1, rfl, q1, q2, -, -⟩ := hal k hlt
      obtain ⟨b2, o2, rfl, s1, s2, -, -⟩ := hbl k (by omega)
      have e1 : a[k]? = some (a[k]'hlt) := List.getElem?_eq_getElem hlt
      have e2 : b[k]? = some (b[k]'(by omega)) := List.getElem?_eq_getElem (by omega)
      have E1 := Lib.hid e1
      have E2 := Lib.hid e2
      have l1 := cell_lt q1
      have l2 := cell_lt s1
      simp only at q1 q2 s1 s2 l1 l2
      have k1 := ext_of_below hB _ _ q1
      have k2 := ext_of_below hB _ _ q2
      have k3 := ext_of_below hB _ _ s1
      have k4 := ext_of_below hB _ _ s2
      have i1 : (0 : Int) ≤ (k : Int) := Int.natCast_nonneg _
      have i2 : (k : Int) < (a.length : Int) := by omega
      have i3 : (k : Int) < (b.length : Int) := by omega
      clear hal hbl e1 e2 q1 q2 s1 s2
      generalize a[k]'hlt = x at *
      generalize b[k]'(by omega) = y at *
      have hneq := fun w => neq_span x.lo x.hi y.lo y.hi w
      go_wp2_with fail
      have hb0 : Below w.heap.size w wr.drew := hB.drew
      cases hxy : (x.lo == y.lo && x.hi == y.hi) with
      | true =>
        have heq : x = y := by
          simp only [Bool.and_eq_true, beq_iff_eq] at hxy
          cases x; cases y; simp_all
        have hst : eqTo a b (k + 1) := fun j hj => by
          by_cases hjk : j = k
          · rw [hjk, E1.out, E2.out, heq]
          · exact hx.out j (by omega)
        have HS := Lib.hid hst
        simp only [hxy] at hneq
        clear hst heq hxy hx
        go_region_held3 (fun w' => w'.cell? ⟨b1, o1 + k * 2, none⟩ = some (.int .i64 x.lo) ∧ w'.cell? ⟨b1, o1 + k * 2 + 1, none⟩ = some (.int .i64 x.hi) ∧ w'.cell? ⟨b2, o2 + k * 2, none⟩ = some (.int .i64 y.lo) ∧ w'.cell? ⟨b2, o2 + k * 2 + 1, none⟩ = some (.int .i64 y.hi))
          (first | go_keep) (fail)
        go_wp2
        go_roundw
        case rel => exact ⟨k + 1, by omega, by go_num, HS, hb0⟩
        case measure => simp [intOf]; omega
      | false =>
        have hne : decide (a = b) = false := decide_eq_false fun e => by
          have h1 := E1.out
          rw [e, E2.out] at h1
          simp only [Option.some.injEq] at h1
          subst h1
          simp at hxy
        have HN := Lib.hid hne
        simp only [hxy] at hneq
        clear hxy hne
        go_region_held3 (fun w' => w'.cell? ⟨b1, o1 + k * 2, none⟩ = some (.int .i64 x.lo) ∧ w'.cell? ⟨b1, o1 + k * 2 + 1, none⟩ = some (.int .i64 x.hi) ∧ w'.cell? ⟨b2, o2 + k * 2, none⟩ = some (.int .i64 y.lo) ∧ w'.cell? ⟨b2, o2 + k * 2 + 1, none⟩ = some (.int .i64 y.hi))
          (first | go_keep) (fail)
        go_wp2
        go_ret
        exact ⟨ret_bool HN.out.symm, hb0⟩
    · have heq : decide (a = b) = true := decide_eq_true (by
        apply List.ext_getElem?
        intro j
        by_cases hj : j < a.length
        · exact hx.out j (by omega)
        · rw [List.getElem?_eq_none (by omega), List.getElem?_eq_none (by have := HL.out; omega)])
      have HN := Lib.hid heq
      clear heq hx hal hbl
      go_wp2
      go_ret
      exact ⟨ret_bool HN.out.symm, hB⟩

end Go.Proofs.YtaldpalhckdcdaaGreatDoor
