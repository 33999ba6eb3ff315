/- Gap of the specification of layer 4; no statement is proved here. -/
import Derived.Test.YtnldenjdbgfgmaaFmRc
namespace Go.Proofs.Ytnldenjdbgfgmaa
open Go.RowKit Go.PlainAid
set_option linter.unusedVariables false
set_option linter.unusedSimpArgs false

def GapROk (c sh : Int) (la lb : List St) : Prop := (1 ≤ c ∧ c ≤ 3600) ∧ (0 ≤ sh ∧ sh < c) ∧ (∀ s, s ∈ la → StR c s) ∧ (∀ s, s ∈ lb → StR c s)
def bestR (o : Option Rt) : Rt := o.getD ⟨0, 1⟩
theorem first_bad {P : St → Prop} [DecidablePred P] : ∀ (l : List St), (∀ s, s ∈ l → P s) ∨ ∃ k, ∃ h : k < l.length, ¬ P (l[k]'h) ∧ ∀ j, (hj : j < k) → P (l[j]'(by omega))
  | [] => .inl (fun s h => by cases h)
  | x :: l => by
    by_cases hx : P x
    · rcases first_bad (P := P) l with h | ⟨k, hk, h1, h2⟩
      · exact .inl (fun s hs => by rcases List.mem_cons.1 hs with rfl | hs; exact hx; exact h s hs)
      · refine .inr ⟨k + 1, by simp; omega, h1, fun j hj => ?_⟩
        cases j with
        | zero => exact hx
        | succ j => exact h2 j (by omega)
    · exact .inr ⟨0, by simp, hx, fun j hj => by omega⟩
structure RG (w : World) (X : World) : Prop where
  r : Blk X w.heap.size #[.int .i64 0, .int .i64 0] 24
  bel : Below w.heap.size w X
theorem RG.below {w X Y : World} (h : RG w X) (hb : Below X.heap.size X Y) : RG w Y := ⟨h.r.below hb h.r.lt, h.bel.trans (hb.mono h.bel.size)⟩

set_option maxHeartbeats 8000000 in
set_option maxRecDepth 100000 in
theorem rgapP0 (c sh : Int) (aa ab : Option Addr) (ca cb : Nat) (la lb : List St) (w : World) (hra : RSts w (.slice aa la.length ca) la) (hrb : RSts w (.slice ab lb.length cb) lb) (hq : ¬ ((1 ≤ c ∧ c ≤ 3600) ∧ (0 ≤ sh ∧ sh < c))) :
    Calls Try.prog 15 #[.int .i64 c, .slice aa la.length ca, .slice ab lb.length cb, .int .i64 sh] w fun e w' => e = .returned (.tuple #[rtV ⟨0, 0⟩, .bool false, .int .i64 1]) ∧ Below w.heap.size w w' := by
  have hG : RG w (w.alloc (.cells #[.int .i64 0, .int .i64 0] 24)) := ⟨Blk.new w #[.int .i64 0, .int .i64 0] 24, below_box w _⟩
  obtain ⟨aa', capa, he, -, ⟨-, hma⟩, hla⟩ := id hra
  simp only [Value.slice.injEq, true_and] at he
  obtain ⟨rfl, rfl⟩ := he
  obtain ⟨ab', capb, he, -, ⟨-, hmb⟩, hlb⟩ := id hrb
  simp only [Value.slice.injEq, true_and] at he
  obtain ⟨rfl, rfl⟩ := he
  have HLA := Lib.hid hla
  have HLB := Lib.hid hlb
  have HRA := Lib.hid hra
  have HRB := Lib.hid hrb
  clear hla hlb hra hrb
  by_cases z1 : c < 1
  · skip
    go_enter Try.func15, Try.ntmps15
    go_upto_region 1 with fail
    generalize (w.alloc (.cells #[.int .i64 0, .int .i64 0] 24)) = w2 at *
    go_wp2_with fail
    go_loopw [11, 12] (fun ev i wr => ev = .int .i64 1 ∧ i = .int .i64 0 ∧ RG w wr) (fun _ _ _ => 0)
    case atStart => exact ⟨rfl, rfl, hG⟩
    case round =>
      obtain ⟨rfl, rfl, hG'⟩ := hrel
      clear hG
      by_cases hlen : 0 < la.length
      · skip
        go_wp2_with fail
        go_loopw [11, 13] (fun ev i wr => ev = .int .i64 1 ∧ i = .int .i64 0 ∧ RG w wr) (fun _ _ _ => 0)
        case atStart => exact ⟨rfl, rfl, hG'⟩
        case round =>
          obtain ⟨rfl, rfl, hG''⟩ := hrel
          clear hG'
          by_cases hlen : 0 < lb.length
          · skip
            have hge := hG''
            obtain ⟨hr1, hbel⟩ := hge
            obtain ⟨r0, r1, f0, f1, HE, C0, C1⟩ := store2 hbel hr1 (Nat.le_refl _) (Below.refl _ _) (.int .i64 0) (.int .i64 0)
            clear hr1 hbel
            go_wp2
            have c0 := C0.out
            have c1 := C1.out
            have hE := HE.out
            clear C0 C1 HE r0 r1 f0 f1
            generalize ((wr.setCell ⟨w.heap.size, 0, none⟩ (.int .i64 0)).setCell ⟨w.heap.size, 1, none⟩ (.int .i64 0)) = WE at c0 c1 hE ⊢
            refine ⟨rfl, .tuple #[rtV ⟨0, 0⟩, .bool false, .int .i64 1], ?_, rfl, hE⟩
            simp [results, Try.results15, go_sem, c0, c1, rtV]
          · skip
            have hge := hG''
            obtain ⟨hr1, hbel⟩ := hge
            obtain ⟨r0, r1, f0, f1, HE, C0, C1⟩ := store2 hbel hr1 (Nat.le_refl _) (Below.refl _ _) (.int .i64 0) (.int .i64 0)
            clear hr1 hbel
            go_wp2
            have c0 := C0.out
            have c1 := C1.out
            have hE := HE.out
            clear C0 C1 HE r0 r1 f0 f1
            generalize ((wr.setCell ⟨w.heap.size, 0, none⟩ (.int .i64 0)).setCell ⟨w.heap.size, 1, none⟩ (.int .i64 0)) = WE at c0 c1 hE ⊢
            refine ⟨rfl, .tuple #[rtV ⟨0, 0⟩, .bool false, .int .i64 1], ?_, rfl, hE⟩
            simp [results, Try.results15, go_sem, c0, c1, rtV]
      · skip
        go_wp2_with fail
        go_loopw [11, 13] (fun ev i wr => ev = .int .i64 1 ∧ i = .int .i64 0 ∧ RG w wr) (fun _ _ _ => 0)
        case atStart => exact ⟨rfl, rfl, hG'⟩
        case round =>
          obtain ⟨rfl, rfl, hG''⟩ := hrel
          clear hG'
          by_cases hlen : 0 < lb.length
          · skip
            have hge := hG''
            obtain ⟨hr1, hbel⟩ := hge
            obtain ⟨r0, r1, f0, f1, HE, C0, C1⟩ := store2 hbel hr1 (Nat.le_refl _) (Below.refl _ _) (.int .i64 0) (.int .i64 0)
            clear hr1 hbel
            go_wp2
            have c0 := C0.out
            have c1 := C1.out
            have hE := HE.out
            clear C0 C1 HE r0 r1 f0 f1
            generalize ((wr.setCell ⟨w.heap.size, 0, none⟩ (.int .i64 0)).setCell ⟨w.heap.size, 1, none⟩ (.int .i64 0)) = WE at c0 c1 hE ⊢
            refine ⟨rfl, .tuple #[rtV ⟨0, 0⟩, .bool false, .int .i64 1], ?_, rfl, hE⟩
            simp [results, Try.results15, go_sem, c0, c1, rtV]
          · skip
            have hge := hG''
            obtain ⟨hr1, hbel⟩ := hge
            obtain ⟨r0, r1, f0, f1, HE, C0, C1⟩ := store2 hbel hr1 (Nat.le_refl _) (Below.refl _ _) (.int .i64 0) (.int .i64 0)
            clear hr1 hbel
            go_wp2
            have c0 := C0.out
            have c1 := C1.out
            have hE := HE.out
            clear C0 C1 HE r0 r1 f0 f1
            generalize ((wr.setCell ⟨w.heap.size, 0, none⟩ (.int .i64 0)).setCell ⟨w.heap.size, 1, none⟩ (.int .i64 0)) = WE at c0 c1 hE ⊢
            refine ⟨rfl, .tuple #[rtV ⟨0, 0⟩, .bool false, .int .i64 1], ?_, rfl, hE⟩
            simp [results, Try.results15, go_sem, c0, c1, rtV]
  by_cases z2 : 3600 < c
  · skip
    go_enter Try.func15, Try.ntmps15
    go_upto_region 1 with fail
    generalize (w.alloc (.cells #[.int .i64 0, .int .i64 0] 24)) = w2 at *
    go_wp2_with fail
    go_loopw [11, 12] (fun ev i wr => ev = .int .i64 1 ∧ i = .int .i64 0 ∧ RG w wr) (fun _ _ _ => 0)
    case atStart => exact ⟨rfl, rfl, hG⟩
    case round =>
      obtain ⟨rfl, rfl, hG'⟩ := hrel
      clear hG
      by_cases hlen : 0 < la.length
      · skip
        go_wp2_with fail
        go_loopw [11, 13] (fun ev i wr => ev = .int .i64 1 ∧ i = .int .i64 0 ∧ RG w wr) (fun _ _ _ => 0)
        case atStart => exact ⟨rfl, rfl, hG'⟩
        case round =>
          obtain ⟨rfl, rfl, hG''⟩ := hrel
          clear hG'
          by_cases hlen : 0 < lb.length
          · skip
            have hge := hG''
            obtain ⟨hr1, hbel⟩ := hge
            obtain ⟨r0, r1, f0, f1, HE, C0, C1⟩ := store2 hbel hr1 (Nat.le_refl _) (Below.refl _ _) (.int .i64 0) (.int .i64 0)
            clear hr1 hbel
            go_wp2
            have c0 := C0.out
            have c1 := C1.out
            have hE := HE.out
            clear C0 C1 HE r0 r1 f0 f1
            generalize ((wr.setCell ⟨w.heap.size, 0, none⟩ (.int .i64 0)).setCell ⟨w.heap.size, 1, none⟩ (.int .i64 0)) = WE at c0 c1 hE ⊢
            refine ⟨rfl, .tuple #[rtV ⟨0, 0⟩, .bool false, .int .i64 1], ?_, rfl, hE⟩
            simp [results, Try.results15, go_sem, c0, c1, rtV]
          · skip
            have hge := hG''
            obtain ⟨hr1, hbel⟩ := hge
            obtain ⟨r0, r1, f0, f1, HE, C0, C1⟩ := store2 hbel hr1 (Nat.le_refl _) (Below.refl _ _) (.int .i64 0) (.int .i64 0)
            clear hr1 hbel
            go_wp2
            have c0 := C0.out
            have c1 := C1.out
            have hE := HE.out
            clear C0 C1 HE r0 r1 f0 f1
            generalize ((wr.setCell ⟨w.heap.size, 0, none⟩ (.int .i64 0)).setCell ⟨w.heap.size, 1, none⟩ (.int .i64 0)) = WE at c0 c1 hE ⊢
            refine ⟨rfl, .tuple #[rtV ⟨0, 0⟩, .bool false, .int .i64 1], ?_, rfl, hE⟩
            simp [results, Try.results15, go_sem, c0, c1, rtV]
      · skip
        go_wp2_with fail
        go_loopw [11, 13] (fun ev i wr => ev = .int .i64 1 ∧ i = .int .i64 0 ∧ RG w wr) (fun _ _ _ => 0)
        case atStart => exact ⟨rfl, rfl, hG'⟩
        case round =>
          obtain ⟨rfl, rfl, hG''⟩ := hrel
          clear hG'
          by_cases hlen : 0 < lb.length
          · skip
            have hge := hG''
            obtain ⟨hr1, hbel⟩ := hge
            obtain ⟨r0, r1, f0, f1, HE, C0, C1⟩ := store2 hbel hr1 (Nat.le_refl _) (Below.refl _ _) (.int .i64 0) (.int .i64 0)
            clear hr1 hbel
            go_wp2
            have c0 := C0.out
            have c1 := C1.out
            have hE := HE.out
            clear C0 C1 HE r0 r1 f0 f1
            generalize ((wr.setCell ⟨w.heap.size, 0, none⟩ (.int .i64 0)).setCell ⟨w.heap.size, 1, none⟩ (.int .i64 0)) = WE at c0 c1 hE ⊢
            refine ⟨rfl, .tuple #[rtV ⟨0, 0⟩, .bool false, .int .i64 1], ?_, rfl, hE⟩
            simp [results, Try.results15, go_sem, c0, c1, rtV]
          · skip
            have hge := hG''
            obtain ⟨hr1, hbel⟩ := hge
            obtain ⟨r0, r1, f0, f1, HE, C0, C1⟩ := store2 hbel hr1 (Nat.le_refl _) (Below.refl _ _) (.int .i64 0) (.int .i64 0)
            clear hr1 hbel
            go_wp2
            have c0 := C0.out
            have c1 := C1.out
            have hE := HE.out
            clear C0 C1 HE r0 r1 f0 f1
            generalize ((wr.setCell ⟨w.heap.size, 0, none⟩ (.int .i64 0)).setCell ⟨w.heap.size, 1, none⟩ (.int .i64 0)) = WE at c0 c1 hE ⊢
            refine ⟨rfl, .tuple #[rtV ⟨0, 0⟩, .bool false, .int .i64 1], ?_, rfl, hE⟩
            simp [results, Try.results15, go_sem, c0, c1, rtV]
  by_cases z3 : sh < 0
  · skip
    go_enter Try.func15, Try.ntmps15
    go_upto_region 1 with fail
    generalize (w.alloc (.cells #[.int .i64 0, .int .i64 0] 24)) = w2 at *
    go_wp2_with fail
    go_loopw [11, 12] (fun ev i wr => ev = .int .i64 1 ∧ i = .int .i64 0 ∧ RG w wr) (fun _ _ _ => 0)
    case atStart => exact ⟨rfl, rfl, hG⟩
    case round =>
      obtain ⟨rfl, rfl, hG'⟩ := hrel
      clear hG
      by_cases hlen : 0 < la.length
      · skip
        go_wp2_with fail
        go_loopw [11, 13] (fun ev i wr => ev = .int .i64 1 ∧ i = .int .i64 0 ∧ RG w wr) (fun _ _ _ => 0)
        case atStart => exact ⟨rfl, rfl, hG'⟩
        case round =>
          obtain ⟨rfl, rfl, hG''⟩ := hrel
          clear hG'
          by_cases hlen : 0 < lb.length
          · skip
            have hge := hG''
            obtain ⟨hr1, hbel⟩ := hge
            obtain ⟨r0, r1, f0, f1, HE, C0, C1⟩ := store2 hbel hr1 (Nat.le_refl _) (Below.refl _ _) (.int .i64 0) (.int .i64 0)
            clear hr1 hbel
            go_wp2
            have c0 := C0.out
            have c1 := C1.out
            have hE := HE.out
            clear C0 C1 HE r0 r1 f0 f1
            generalize ((wr.setCell ⟨w.heap.size, 0, none⟩ (.int .i64 0)).setCell ⟨w.heap.size, 1, none⟩ (.int .i64 0)) = WE at c0 c1 hE ⊢
            refine ⟨rfl, .tuple #[rtV ⟨0, 0⟩, .bool false, .int .i64 1], ?_, rfl, hE⟩
            simp [results, Try.results15, go_sem, c0, c1, rtV]
          · skip
            have hge := hG''
            obtain ⟨hr1, hbel⟩ := hge
            obtain ⟨r0, r1, f0, f1, HE, C0, C1⟩ := store2 hbel hr1 (Nat.le_refl _) (Below.refl _ _) (.int .i64 0) (.int .i64 0)
            clear hr1 hbel
            go_wp2
            have c0 := C0.out
            have c1 := C1.out
            have hE := HE.out
            clear C0 C1 HE r0 r1 f0 f1
            generalize ((wr.setCell ⟨w.heap.size, 0, none⟩ (.int .i64 0)).setCell ⟨w.heap.size, 1, none⟩ (.int .i64 0)) = WE at c0 c1 hE ⊢
            refine ⟨rfl, .tuple #[rtV ⟨0, 0⟩, .bool false, .int .i64 1], ?_, rfl, hE⟩
            simp [results, Try.results15, go_sem, c0, c1, rtV]
      · skip
        go_wp2_with fail
        go_loopw [11, 13] (fun ev i wr => ev = .int .i64 1 ∧ i = .int .i64 0 ∧ RG w wr) (fun _ _ _ => 0)
        case atStart => exact ⟨rfl, rfl, hG'⟩
        case round =>
          obtain ⟨rfl, rfl, hG''⟩ := hrel
          clear hG'
          by_cases hlen : 0 < lb.length
          · skip
            have hge := hG''
            obtain ⟨hr1, hbel⟩ := hge
            obtain ⟨r0, r1, f0, f1, HE, C0, C1⟩ := store2 hbel hr1 (Nat.le_refl _) (Below.refl _ _) (.int .i64 0) (.int .i64 0)
            clear hr1 hbel
            go_wp2
            have c0 := C0.out
            have c1 := C1.out
            have hE := HE.out
            clear C0 C1 HE r0 r1 f0 f1
            generalize ((wr.setCell ⟨w.heap.size, 0, none⟩ (.int .i64 0)).setCell ⟨w.heap.size, 1, none⟩ (.int .i64 0)) = WE at c0 c1 hE ⊢
            refine ⟨rfl, .tuple #[rtV ⟨0, 0⟩, .bool false, .int .i64 1], ?_, rfl, hE⟩
            simp [results, Try.results15, go_sem, c0, c1, rtV]
          · skip
            have hge := hG''
            obtain ⟨hr1, hbel⟩ := hge
            obtain ⟨r0, r1, f0, f1, HE, C0, C1⟩ := store2 hbel hr1 (Nat.le_refl _) (Below.refl _ _) (.int .i64 0) (.int .i64 0)
            clear hr1 hbel
            go_wp2
            have c0 := C0.out
            have c1 := C1.out
            have hE := HE.out
            clear C0 C1 HE r0 r1 f0 f1
            generalize ((wr.setCell ⟨w.heap.size, 0, none⟩ (.int .i64 0)).setCell ⟨w.heap.size, 1, none⟩ (.int .i64 0)) = WE at c0 c1 hE ⊢
            refine ⟨rfl, .tuple #[rtV ⟨0, 0⟩, .bool false, .int .i64 1], ?_, rfl, hE⟩
            simp [results, Try.results15, go_sem, c0, c1, rtV]
  have z4 : c ≤ sh := by omega
  go_enter Try.func15, Try.ntmps15
  go_upto_region 1 with fail
  generalize (w.alloc (.cells #[.int .i64 0, .int .i64 0] 24)) = w2 at *
  go_wp2_with fail
  go_loopw [11, 12] (fun ev i wr => ev = .int .i64 1 ∧ i = .int .i64 0 ∧ RG w wr) (fun _ _ _ => 0)
  case atStart => exact ⟨rfl, rfl, hG⟩
  case round =>
    obtain ⟨rfl, rfl, hG'⟩ := hrel
    clear hG
    by_cases hlen : 0 < la.length
    · skip
      go_wp2_with fail
      go_loopw [11, 13] (fun ev i wr => ev = .int .i64 1 ∧ i = .int .i64 0 ∧ RG w wr) (fun _ _ _ => 0)
      case atStart => exact ⟨rfl, rfl, hG'⟩
      case round =>
        obtain ⟨rfl, rfl, hG''⟩ := hrel
        clear hG'
        by_cases hlen : 0 < lb.length
        · skip
          have hge := hG''
          obtain ⟨hr1, hbel⟩ := hge
          obtain ⟨r0, r1, f0, f1, HE, C0, C1⟩ := store2 hbel hr1 (Nat.le_refl _) (Below.refl _ _) (.int .i64 0) (.int .i64 0)
          clear hr1 hbel
          go_wp2
          have c0 := C0.out
          have c1 := C1.out
          have hE := HE.out
          clear C0 C1 HE r0 r1 f0 f1
          generalize ((wr.setCell ⟨w.heap.size, 0, none⟩ (.int .i64 0)).setCell ⟨w.heap.size, 1, none⟩ (.int .i64 0)) = WE at c0 c1 hE ⊢
          refine ⟨rfl, .tuple #[rtV ⟨0, 0⟩, .bool false, .int .i64 1], ?_, rfl, hE⟩
          simp [results, Try.results15, go_sem, c0, c1, rtV]
        · skip
          have hge := hG''
          obtain ⟨hr1, hbel⟩ := hge
          obtain ⟨r0, r1, f0, f1, HE, C0, C1⟩ := store2 hbel hr1 (Nat.le_refl _) (Below.refl _ _) (.int .i64 0) (.int .i64 0)
          clear hr1 hbel
          go_wp2
          have c0 := C0.out
          have c1 := C1.out
          have hE := HE.out
          clear C0 C1 HE r0 r1 f0 f1
          generalize ((wr.setCell ⟨w.heap.size, 0, none⟩ (.int .i64 0)).setCell ⟨w.heap.size, 1, none⟩ (.int .i64 0)) = WE at c0 c1 hE ⊢
          refine ⟨rfl, .tuple #[rtV ⟨0, 0⟩, .bool false, .int .i64 1], ?_, rfl, hE⟩
          simp [results, Try.results15, go_sem, c0, c1, rtV]
    · skip
      go_wp2_with fail
      go_loopw [11, 13] (fun ev i wr => ev = .int .i64 1 ∧ i = .int .i64 0 ∧ RG w wr) (fun _ _ _ => 0)
      case atStart => exact ⟨rfl, rfl, hG'⟩
      case round =>
        obtain ⟨rfl, rfl, hG''⟩ := hrel
        clear hG'
        by_cases hlen : 0 < lb.length
        · skip
          have hge := hG''
          obtain ⟨hr1, hbel⟩ := hge
          obtain ⟨r0, r1, f0, f1, HE, C0, C1⟩ := store2 hbel hr1 (Nat.le_refl _) (Below.refl _ _) (.int .i64 0) (.int .i64 0)
          clear hr1 hbel
          go_wp2
          have c0 := C0.out
          have c1 := C1.out
          have hE := HE.out
          clear C0 C1 HE r0 r1 f0 f1
          generalize ((wr.setCell ⟨w.heap.size, 0, none⟩ (.int .i64 0)).setCell ⟨w.heap.size, 1, none⟩ (.int .i64 0)) = WE at c0 c1 hE ⊢
          refine ⟨rfl, .tuple #[rtV ⟨0, 0⟩, .bool false, .int .i64 1], ?_, rfl, hE⟩
          simp [results, Try.results15, go_sem, c0, c1, rtV]
        · skip
          have hge := hG''
          obtain ⟨hr1, hbel⟩ := hge
          obtain ⟨r0, r1, f0, f1, HE, C0, C1⟩ := store2 hbel hr1 (Nat.le_refl _) (Below.refl _ _) (.int .i64 0) (.int .i64 0)
          clear hr1 hbel
          go_wp2
          have c0 := C0.out
          have c1 := C1.out
          have hE := HE.out
          clear C0 C1 HE r0 r1 f0 f1
          generalize ((wr.setCell ⟨w.heap.size, 0, none⟩ (.int .i64 0)).setCell ⟨w.heap.size, 1, none⟩ (.int .i64 0)) = WE at c0 c1 hE ⊢
          refine ⟨rfl, .tuple #[rtV ⟨0, 0⟩, .bool false, .int .i64 1], ?_, rfl, hE⟩
          simp [results, Try.results15, go_sem, c0, c1, rtV]

set_option maxHeartbeats 8000000 in
set_option maxRecDepth 100000 in
theorem rgapP1 (c sh : Int) (aa ab : Option Addr) (ca cb : Nat) (la lb : List St) (w : World) (hra : RSts w (.slice aa la.length ca) la) (hrb : RSts w (.slice ab lb.length cb) lb) (hc : 1 ≤ c ∧ c ≤ 3600) (hs : 0 ≤ sh ∧ sh < c) (k0 : Nat) (hkl : k0 < la.length) (hk0 : ¬ StR c (la[k0]'hkl)) (hpre : ∀ j, (hj : j < k0) → StR c (la[j]'(by omega))) :
    Calls Try.prog 15 #[.int .i64 c, .slice aa la.length ca, .slice ab lb.length cb, .int .i64 sh] w fun e w' => e = .returned (.tuple #[rtV ⟨0, 0⟩, .bool false, .int .i64 1]) ∧ Below w.heap.size w w' := by
  have hG : RG w (w.alloc (.cells #[.int .i64 0, .int .i64 0] 24)) := ⟨Blk.new w #[.int .i64 0, .int .i64 0] 24, below_box w _⟩
  obtain ⟨aa', capa, he, -, ⟨-, hma⟩, hla⟩ := id hra
  simp only [Value.slice.injEq, true_and] at he
  obtain ⟨rfl, rfl⟩ := he
  obtain ⟨ab', capb, he, -, ⟨-, hmb⟩, hlb⟩ := id hrb
  simp only [Value.slice.injEq, true_and] at he
  obtain ⟨rfl, rfl⟩ := he
  have HLA := Lib.hid hla
  have HLB := Lib.hid hlb
  have HRA := Lib.hid hra
  have HRB := Lib.hid hrb
  clear hla hlb hra hrb
  have n1 : ¬ c < 1 := by omega
  have n2 : ¬ 3600 < c := by omega
  have n3 : ¬ sh < 0 := by omega
  have n4 : ¬ c ≤ sh := by omega
  go_enter Try.func15, Try.ntmps15
  go_upto_region 1 with fail
  generalize (w.alloc (.cells #[.int .i64 0, .int .i64 0] 24)) = w2 at *
  go_wp2_with fail
  go_loopw [11, 12] (fun ev i wr => ∃ k : Nat, i = .int .i64 k ∧ ((k ≤ k0 ∧ ev = .int .i64 0) ∨ (k = k0 + 1 ∧ ev = .int .i64 1)) ∧ RG w wr) (fun _ i _ => la.length - (intOf i).toNat)
  case atStart => exact ⟨0, rfl, .inl ⟨by omega, rfl⟩, hG⟩
  case round =>
    obtain ⟨k, rfl, ⟨hk, rfl⟩ | ⟨rfl, rfl⟩, hG'⟩ := hrel
    · clear hG
      have hlt : k < la.length := by omega
      obtain ⟨b1, o1, rfl, ⟨q0, q1, q2, q3⟩, qi, qj⟩ := HLA.out k hlt
      have e1 := cell_lt q0
      simp only at e1
      have i1 : (0 : Int) ≤ (k : Int) := Int.natCast_nonneg _
      have i2 : (k : Int) < (la.length : Int) := by omega
      have HC := fun V => checkSt_any c (la[k]'hlt) V ⟨qi, qj⟩ (by omega)
      have hbad : Hid (k = k0 → ¬ StR c (la[k]'hlt)) := Lib.hid (fun h => by subst h; exact hk0)
      have hgood : Hid (k ≠ k0 → StR c (la[k]'hlt)) := Lib.hid (fun h => hpre k (by omega))
      generalize la[k] = x at *
      have eB := hG'.bel
      have x0 := ext_of_below eB _ _ q0
      have x1 := ext_of_below eB _ _ q1
      have x2 := ext_of_below eB _ _ q2
      have x3 := ext_of_below eB _ _ q3
      clear eB qi qj q0 q1 q2 q3
      by_cases hkk : k = k0
      · rw [if_neg (hbad.out hkk)] at HC
        clear hbad hgood
        have HKK := Lib.hid hkk
        clear hkk
        go_wp2_with fail
        refine (HC _).mono ?_
        rintro e w3 ⟨rfl, hb3⟩
        have hG3 := hG'.below hb3
        clear HC hG' hb3 x0 x1 x2 x3
        go_wp2
        go_roundw
        case rel => exact ⟨k + 1, by go_num, .inr ⟨by have := HKK.out; omega, rfl⟩, hG3⟩
        case measure => simp [intOf]; omega
      · rw [if_pos (hgood.out hkk)] at HC
        clear hbad hgood
        go_wp2_with fail
        refine (HC _).mono ?_
        rintro e w3 ⟨rfl, hb3⟩
        have hG3 := hG'.below hb3
        clear HC hG' hb3 x0 x1 x2 x3
        go_wp2
        go_roundw
        case rel => exact ⟨k + 1, by go_num, .inl ⟨by omega, rfl⟩, hG3⟩
        case measure => simp [intOf]; omega
    · clear hG
      have i1 : (0 : Int) ≤ ((k0 + 1 : Nat) : Int) := Int.natCast_nonneg _
      by_cases hlen : (k0 : Int) + 1 < (la.length : Int)
      · skip
        go_wp2_with fail
        go_loopw [11, 13] (fun ev i wr => ev = .int .i64 1 ∧ i = .int .i64 0 ∧ RG w wr) (fun _ _ _ => 0)
        case atStart => exact ⟨rfl, rfl, hG'⟩
        case round =>
          obtain ⟨rfl, rfl, hG''⟩ := hrel
          clear hG'
          by_cases hlen : 0 < lb.length
          · skip
            have hge := hG''
            obtain ⟨hr1, hbel⟩ := hge
            obtain ⟨r0, r1, f0, f1, HE, C0, C1⟩ := store2 hbel hr1 (Nat.le_refl _) (Below.refl _ _) (.int .i64 0) (.int .i64 0)
            clear hr1 hbel
            go_wp2
            have c0 := C0.out
            have c1 := C1.out
            have hE := HE.out
            clear C0 C1 HE r0 r1 f0 f1
            generalize ((wr.setCell ⟨w.heap.size, 0, none⟩ (.int .i64 0)).setCell ⟨w.heap.size, 1, none⟩ (.int .i64 0)) = WE at c0 c1 hE ⊢
            refine ⟨rfl, .tuple #[rtV ⟨0, 0⟩, .bool false, .int .i64 1], ?_, rfl, hE⟩
            simp [results, Try.results15, go_sem, c0, c1, rtV]
          · skip
            have hge := hG''
            obtain ⟨hr1, hbel⟩ := hge
            obtain ⟨r0, r1, f0, f1, HE, C0, C1⟩ := store2 hbel hr1 (Nat.le_refl _) (Below.refl _ _) (.int .i64 0) (.int .i64 0)
            clear hr1 hbel
            go_wp2
            have c0 := C0.out
            have c1 := C1.out
            have hE := HE.out
            clear C0 C1 HE r0 r1 f0 f1
            generalize ((wr.setCell ⟨w.heap.size, 0, none⟩ (.int .i64 0)).setCell ⟨w.heap.size, 1, none⟩ (.int .i64 0)) = WE at c0 c1 hE ⊢
            refine ⟨rfl, .tuple #[rtV ⟨0, 0⟩, .bool false, .int .i64 1], ?_, rfl, hE⟩
            simp [results, Try.results15, go_sem, c0, c1, rtV]
      · skip
        go_wp2_with fail
        go_loopw [11, 13] (fun ev i wr => ev = .int .i64 1 ∧ i = .int .i64 0 ∧ RG w wr) (fun _ _ _ => 0)
        case atStart => exact ⟨rfl, rfl, hG'⟩
        case round =>
          obtain ⟨rfl, rfl, hG''⟩ := hrel
          clear hG'
          by_cases hlen : 0 < lb.length
          · skip
            have hge := hG''
            obtain ⟨hr1, hbel⟩ := hge
            obtain ⟨r0, r1, f0, f1, HE, C0, C1⟩ := store2 hbel hr1 (Nat.le_refl _) (Below.refl _ _) (.int .i64 0) (.int .i64 0)
            clear hr1 hbel
            go_wp2
            have c0 := C0.out
            have c1 := C1.out
            have hE := HE.out
            clear C0 C1 HE r0 r1 f0 f1
            generalize ((wr.setCell ⟨w.heap.size, 0, none⟩ (.int .i64 0)).setCell ⟨w.heap.size, 1, none⟩ (.int .i64 0)) = WE at c0 c1 hE ⊢
            refine ⟨rfl, .tuple #[rtV ⟨0, 0⟩, .bool false, .int .i64 1], ?_, rfl, hE⟩
            simp [results, Try.results15, go_sem, c0, c1, rtV]
          · skip
            have hge := hG''
            obtain ⟨hr1, hbel⟩ := hge
            obtain ⟨r0, r1, f0, f1, HE, C0, C1⟩ := store2 hbel hr1 (Nat.le_refl _) (Below.refl _ _) (.int .i64 0) (.int .i64 0)
            clear hr1 hbel
            go_wp2
            have c0 := C0.out
            have c1 := C1.out
            have hE := HE.out
            clear C0 C1 HE r0 r1 f0 f1
            generalize ((wr.setCell ⟨w.heap.size, 0, none⟩ (.int .i64 0)).setCell ⟨w.heap.size, 1, none⟩ (.int .i64 0)) = WE at c0 c1 hE ⊢
            refine ⟨rfl, .tuple #[rtV ⟨0, 0⟩, .bool false, .int .i64 1], ?_, rfl, hE⟩
            simp [results, Try.results15, go_sem, c0, c1, rtV]

set_option maxHeartbeats 8000000 in
set_option maxRecDepth 100000 in
theorem rgapP2 (c sh : Int) (aa ab : Option Addr) (ca cb : Nat) (la lb : List St) (w : World) (hra : RSts w (.slice aa la.length ca) la) (hrb : RSts w (.slice ab lb.length cb) lb) (hc : 1 ≤ c ∧ c ≤ 3600) (hs : 0 ≤ sh ∧ sh < c) (hoa : ∀ s, s ∈ la → StR c s) (k0 : Nat) (hkl : k0 < lb.length) (hk0 : ¬ StR c (lb[k0]'hkl)) (hpre : ∀ j, (hj : j < k0) → StR c (lb[j]'(by omega))) :
    Calls Try.prog 15 #[.int .i64 c, .slice aa la.length ca, .slice ab lb.length cb, .int .i64 sh] w fun e w' => e = .returned (.tuple #[rtV ⟨0, 0⟩, .bool false, .int .i64 1]) ∧ Below w.heap.size w w' := by
  have HOA := Lib.hid hoa
  clear hoa
  have hG : RG w (w.alloc (.cells #[.int .i64 0, .int .i64 0] 24)) := ⟨Blk.new w #[.int .i64 0, .int .i64 0] 24, below_box w _⟩
  obtain ⟨aa', capa, he, -, ⟨-, hma⟩, hla⟩ := id hra
  simp only [Value.slice.injEq, true_and] at he
  obtain ⟨rfl, rfl⟩ := he
  obtain ⟨ab', capb, he, -, ⟨-, hmb⟩, hlb⟩ := id hrb
  simp only [Value.slice.injEq, true_and] at he
  obtain ⟨rfl, rfl⟩ := he
  have HLA := Lib.hid hla
  have HLB := Lib.hid hlb
  have HRA := Lib.hid hra
  have HRB := Lib.hid hrb
  clear hla hlb hra hrb
  have n1 : ¬ c < 1 := by omega
  have n2 : ¬ 3600 < c := by omega
  have n3 : ¬ sh < 0 := by omega
  have n4 : ¬ c ≤ sh := by omega
  go_enter Try.func15, Try.ntmps15
  go_upto_region 1 with fail
  generalize (w.alloc (.cells #[.int .i64 0, .int .i64 0] 24)) = w2 at *
  go_wp2_with fail
  go_loopw [11, 12] (fun ev i wr => ∃ k : Nat, k ≤ la.length ∧ i = .int .i64 k ∧ ev = .int .i64 0 ∧ RG w wr) (fun _ i _ => la.length - (intOf i).toNat)
  case atStart => exact ⟨0, Nat.zero_le _, rfl, rfl, hG⟩
  case round =>
    obtain ⟨k, hk, rfl, rfl, hGa⟩ := hrel
    clear hG
    by_cases hlt : k < la.length
    · obtain ⟨b1, o1, rfl, ⟨q0, q1, q2, q3⟩, qi, qj⟩ := HLA.out k hlt
      have e1 := cell_lt q0
      simp only at e1
      have i1 : (0 : Int) ≤ (k : Int) := Int.natCast_nonneg _
      have i2 : (k : Int) < (la.length : Int) := by omega
      have HC := fun V => checkSt_any c (la[k]'hlt) V ⟨qi, qj⟩ (by omega)
      rw [if_pos (HOA.out _ (List.getElem_mem hlt))] at HC
      generalize la[k] = x at *
      have eB := hGa.bel
      have x0 := ext_of_below eB _ _ q0
      have x1 := ext_of_below eB _ _ q1
      have x2 := ext_of_below eB _ _ q2
      have x3 := ext_of_below eB _ _ q3
      clear eB qi qj q0 q1 q2 q3
      go_wp2_with fail
      refine (HC _).mono ?_
      rintro e w3 ⟨rfl, hb3⟩
      have hG3 := hGa.below hb3
      clear HC hGa hb3 x0 x1 x2 x3
      go_wp2
      go_roundw
      case rel => exact ⟨k + 1, by omega, by go_num, rfl, hG3⟩
      case measure => simp [intOf]; omega
    · have hke : k = la.length := by omega
      subst hke
      go_wp2_with fail
      go_loopw [11, 13] (fun ev i wr => ∃ k : Nat, i = .int .i64 k ∧ ((k ≤ k0 ∧ ev = .int .i64 0) ∨ (k = k0 + 1 ∧ ev = .int .i64 1)) ∧ RG w wr) (fun _ i _ => lb.length - (intOf i).toNat)
      case atStart => exact ⟨0, rfl, .inl ⟨by omega, rfl⟩, hGa⟩
      case round =>
        obtain ⟨k, rfl, ⟨hk, rfl⟩ | ⟨rfl, rfl⟩, hG'⟩ := hrel
        · clear hGa
          have hlt : k < lb.length := by omega
          obtain ⟨b1, o1, rfl, ⟨q0, q1, q2, q3⟩, qi, qj⟩ := HLB.out k hlt
          have e1 := cell_lt q0
          simp only at e1
          have i1 : (0 : Int) ≤ (k : Int) := Int.natCast_nonneg _
          have i2 : (k : Int) < (lb.length : Int) := by omega
          have HC := fun V => checkSt_any c (lb[k]'hlt) V ⟨qi, qj⟩ (by omega)
          have hbad : Hid (k = k0 → ¬ StR c (lb[k]'hlt)) := Lib.hid (fun h => by subst h; exact hk0)
          have hgood : Hid (k ≠ k0 → StR c (lb[k]'hlt)) := Lib.hid (fun h => hpre k (by omega))
          generalize lb[k] = x at *
          have eB := hG'.bel
          have x0 := ext_of_below eB _ _ q0
          have x1 := ext_of_below eB _ _ q1
          have x2 := ext_of_below eB _ _ q2
          have x3 := ext_of_below eB _ _ q3
          clear eB qi qj q0 q1 q2 q3
          by_cases hkk : k = k0
          · rw [if_neg (hbad.out hkk)] at HC
            clear hbad hgood
            have HKK := Lib.hid hkk
            clear hkk
            go_wp2_with fail
            refine (HC _).mono ?_
            rintro e w3 ⟨rfl, hb3⟩
            have hG3 := hG'.below hb3
            clear HC hG' hb3 x0 x1 x2 x3
            go_wp2
            go_roundw
            case rel => exact ⟨k + 1, by go_num, .inr ⟨by have := HKK.out; omega, rfl⟩, hG3⟩
            case measure => simp [intOf]; omega
          · rw [if_pos (hgood.out hkk)] at HC
            clear hbad hgood
            go_wp2_with fail
            refine (HC _).mono ?_
            rintro e w3 ⟨rfl, hb3⟩
            have hG3 := hG'.below hb3
            clear HC hG' hb3 x0 x1 x2 x3
            go_wp2
            go_roundw
            case rel => exact ⟨k + 1, by go_num, .inl ⟨by omega, rfl⟩, hG3⟩
            case measure => simp [intOf]; omega
        · clear hGa
          have i1 : (0 : Int) ≤ ((k0 + 1 : Nat) : Int) := Int.natCast_nonneg _
          by_cases hlen : (k0 : Int) + 1 < (lb.length : Int)
          · skip
            have hge := hG'
            obtain ⟨hr1, hbel⟩ := hge
            obtain ⟨r0, r1, f0, f1, HE, C0, C1⟩ := store2 hbel hr1 (Nat.le_refl _) (Below.refl _ _) (.int .i64 0) (.int .i64 0)
            clear hr1 hbel
            go_wp2
            have c0 := C0.out
            have c1 := C1.out
            have hE := HE.out
            clear C0 C1 HE r0 r1 f0 f1
            generalize ((wr.setCell ⟨w.heap.size, 0, none⟩ (.int .i64 0)).setCell ⟨w.heap.size, 1, none⟩ (.int .i64 0)) = WE at c0 c1 hE ⊢
            refine ⟨rfl, .tuple #[rtV ⟨0, 0⟩, .bool false, .int .i64 1], ?_, rfl, hE⟩
            simp [results, Try.results15, go_sem, c0, c1, rtV]
          · skip
            have hge := hG'
            obtain ⟨hr1, hbel⟩ := hge
            obtain ⟨r0, r1, f0, f1, HE, C0, C1⟩ := store2 hbel hr1 (Nat.le_refl _) (Below.refl _ _) (.int .i64 0) (.int .i64 0)
            clear hr1 hbel
            go_wp2
            have c0 := C0.out
            have c1 := C1.out
            have hE := HE.out
            clear C0 C1 HE r0 r1 f0 f1
            generalize ((wr.setCell ⟨w.heap.size, 0, none⟩ (.int .i64 0)).setCell ⟨w.heap.size, 1, none⟩ (.int .i64 0)) = WE at c0 c1 hE ⊢
            refine ⟨rfl, .tuple #[rtV ⟨0, 0⟩, .bool false, .int .i64 1], ?_, rfl, hE⟩
            simp [results, Try.results15, go_sem, c0, c1, rtV]

set_option maxHeartbeats 8000000 in
set_option maxRecDepth 100000 in
theorem rgapP3 (c sh : Int) (aa ab : Option Addr) (ca cb : Nat) (la lb : List St) (w : World) (hra : RSts w (.slice aa la.length ca) la) (hrb : RSts w (.slice ab lb.length cb) lb) (hc : 1 ≤ c ∧ c ≤ 3600) (hs : 0 ≤ sh ∧ sh < c) (hoa : ∀ s, s ∈ la → StR c s) (hob : ∀ s, s ∈ lb → StR c s) (hsa : ∀ s, s ∈ la → StS s) (hsb : ∀ s, s ∈ lb → StS s) :
    Calls Try.prog 15 #[.int .i64 c, .slice aa la.length ca, .slice ab lb.length cb, .int .i64 sh] w fun e w' => e = .returned (.tuple #[rtV (bestR (leastR (apL c sh la lb))), .bool (leastR (apL c sh la lb)).isNone, .int .i64 0]) ∧ Below w.heap.size w w' := by
  have HOA := Lib.hid hoa
  have HOB := Lib.hid hob
  have HSA := Lib.hid hsa
  have HSB := Lib.hid hsb
  clear hoa hob hsa hsb
  obtain ⟨O, hO⟩ : ∃ O, leastR (apL c sh la lb) = O := ⟨_, rfl⟩
  rw [hO]
  have HO := Lib.hid hO
  clear hO
  have hG : RG w (w.alloc (.cells #[.int .i64 0, .int .i64 0] 24)) := ⟨Blk.new w #[.int .i64 0, .int .i64 0] 24, below_box w _⟩
  obtain ⟨aa', capa, he, -, ⟨-, hma⟩, hla⟩ := id hra
  simp only [Value.slice.injEq, true_and] at he
  obtain ⟨rfl, rfl⟩ := he
  obtain ⟨ab', capb, he, -, ⟨-, hmb⟩, hlb⟩ := id hrb
  simp only [Value.slice.injEq, true_and] at he
  obtain ⟨rfl, rfl⟩ := he
  have HLA := Lib.hid hla
  have HLB := Lib.hid hlb
  have HRA := Lib.hid hra
  have HRB := Lib.hid hrb
  clear hla hlb hra hrb
  have n1 : ¬ c < 1 := by omega
  have n2 : ¬ 3600 < c := by omega
  have n3 : ¬ sh < 0 := by omega
  have n4 : ¬ c ≤ sh := by omega
  go_enter Try.func15, Try.ntmps15
  go_upto_region 1 with fail
  generalize (w.alloc (.cells #[.int .i64 0, .int .i64 0] 24)) = w2 at *
  go_wp2_with fail
  go_loopw [11, 12] (fun ev i wr => ∃ k : Nat, k ≤ la.length ∧ i = .int .i64 k ∧ ev = .int .i64 0 ∧ RG w wr) (fun _ i _ => la.length - (intOf i).toNat)
  case atStart => exact ⟨0, Nat.zero_le _, rfl, rfl, hG⟩
  case round =>
    obtain ⟨k, hk, rfl, rfl, hGa⟩ := hrel
    clear hG
    by_cases hlt : k < la.length
    · obtain ⟨b1, o1, rfl, ⟨q0, q1, q2, q3⟩, qi, qj⟩ := HLA.out k hlt
      have e1 := cell_lt q0
      simp only at e1
      have i1 : (0 : Int) ≤ (k : Int) := Int.natCast_nonneg _
      have i2 : (k : Int) < (la.length : Int) := by omega
      have HC := fun V => checkSt_any c (la[k]'hlt) V ⟨qi, qj⟩ (by omega)
      rw [if_pos (HOA.out _ (List.getElem_mem hlt))] at HC
      generalize la[k] = x at *
      have eB := hGa.bel
      have x0 := ext_of_below eB _ _ q0
      have x1 := ext_of_below eB _ _ q1
      have x2 := ext_of_below eB _ _ q2
      have x3 := ext_of_below eB _ _ q3
      clear eB qi qj q0 q1 q2 q3
      go_wp2_with fail
      refine (HC _).mono ?_
      rintro e w3 ⟨rfl, hb3⟩
      have hG3 := hGa.below hb3
      clear HC hGa hb3 x0 x1 x2 x3
      go_wp2
      go_roundw
      case rel => exact ⟨k + 1, by omega, by go_num, rfl, hG3⟩
      case measure => simp [intOf]; omega
    · have hke : k = la.length := by omega
      subst hke
      go_wp2_with fail
      go_loopw [11, 13] (fun ev i wr => ∃ k : Nat, k ≤ lb.length ∧ i = .int .i64 k ∧ ev = .int .i64 0 ∧ RG w wr) (fun _ i _ => lb.length - (intOf i).toNat)
      case atStart => exact ⟨0, Nat.zero_le _, rfl, rfl, hGa⟩
      case round =>
        obtain ⟨k, hk, rfl, rfl, hGb⟩ := hrel
        clear hGa
        by_cases hlt : k < lb.length
        · obtain ⟨b1, o1, rfl, ⟨q0, q1, q2, q3⟩, qi, qj⟩ := HLB.out k hlt
          have e1 := cell_lt q0
          simp only at e1
          have i1 : (0 : Int) ≤ (k : Int) := Int.natCast_nonneg _
          have i2 : (k : Int) < (lb.length : Int) := by omega
          have HC := fun V => checkSt_any c (lb[k]'hlt) V ⟨qi, qj⟩ (by omega)
          rw [if_pos (HOB.out _ (List.getElem_mem hlt))] at HC
          generalize lb[k] = x at *
          have eB := hGb.bel
          have x0 := ext_of_below eB _ _ q0
          have x1 := ext_of_below eB _ _ q1
          have x2 := ext_of_below eB _ _ q2
          have x3 := ext_of_below eB _ _ q3
          clear eB qi qj q0 q1 q2 q3
          go_wp2_with fail
          refine (HC _).mono ?_
          rintro e w3 ⟨rfl, hb3⟩
          have hG3 := hGb.below hb3
          clear HC hGb hb3 x0 x1 x2 x3
          go_wp2
          go_roundw
          case rel => exact ⟨k + 1, by omega, by go_num, rfl, hG3⟩
          case measure => simp [intOf]; omega
        · have hke : k = lb.length := by omega
          subst hke
          go_wp2_with fail
          have HGp := Lib.hid (gapR_any c sh aa ab ca cb la lb wr (HRA.out.mono (ext_of_below hGb.bel)) (HRB.out.mono (ext_of_below hGb.bel)) HSA.out HSB.out (by omega) (by omega))
          rw [HO.out] at HGp
          clear HO
          refine HGp.out.mono ?_
          rintro e w4 ⟨rfl, hb4⟩
          have hG4 := hGb.below hb4
          clear HGp hGb hb4 HRA HRB HLA HLB HSA HSB HOA HOB
          cases O with
          | none =>
            have hx := Below.alloc (Below.refl w4.heap.size w4) (Nat.le_refl _) (.cells #[.int .i64 0, .int .i64 0] 24)
            have hG5 := hG4.below hx
            clear hG4 hx
            simp only [bsR, rtV, Option.getD_none, Option.isSome_none]
            go_wp2_with fail
            generalize (w4.alloc (.cells #[.int .i64 0, .int .i64 0] 24)) = w5 at *
            refine (rwhole_any 0 _).mono ?_
            rintro e w6 ⟨rfl, hb6⟩
            obtain ⟨hr1, hbel⟩ := hG5
            obtain ⟨r0, r1, f0, f1, HE, C0, C1⟩ := store2 hbel hr1 (Nat.le_refl _) hb6 (.int .i64 0) (.int .i64 1)
            clear hr1 hbel hb6
            unfold rtV
            go_wp2
            have c0 := C0.out
            have c1 := C1.out
            have hE := HE.out
            clear C0 C1 HE r0 r1 f0 f1
            generalize ((w6.setCell ⟨w.heap.size, 0, none⟩ (.int .i64 0)).setCell ⟨w.heap.size, 1, none⟩ (.int .i64 1)) = WE at c0 c1 hE ⊢
            refine ⟨rfl, .tuple #[rtV ⟨0, 1⟩, .bool true, .int .i64 0], ?_, rfl, hE⟩
            simp [results, Try.results15, go_sem, c0, c1, rtV]
          | some g =>
            have hx := Below.alloc (Below.refl w4.heap.size w4) (Nat.le_refl _) (.cells #[.int .i64 g.n, .int .i64 g.d] 24)
            have hN := Blk.new w4 #[.int .i64 g.n, .int .i64 g.d] 24
            have hG5 := hG4.below hx
            have hlt := hG4.r.lt
            simp only [bsR, rtV, Option.getD_some, Option.isSome_some]
            go_upto_region 15 with fail
            generalize (w4.alloc (.cells #[.int .i64 g.n, .int .i64 g.d] 24)) = w5 at *
            have g0 := hN.cell 0 _ rfl
            have g1 := hN.cell 1 _ rfl
            obtain ⟨hr1, hbel⟩ := hG5
            obtain ⟨r0, r1, f0, f1, HE, C0, C1⟩ := store2 hbel hr1 (Nat.le_refl _) (Below.refl _ _) (.int .i64 g.n) (.int .i64 g.d)
            clear hr1 hbel hN hG4 hx
            go_wp2
            have c0 := C0.out
            have c1 := C1.out
            have hE := HE.out
            clear C0 C1 HE r0 r1 f0 f1 g0 g1
            generalize ((w5.setCell ⟨w.heap.size, 0, none⟩ (.int .i64 g.n)).setCell ⟨w.heap.size, 1, none⟩ (.int .i64 g.d)) = WE at c0 c1 hE ⊢
            refine ⟨rfl, .tuple #[rtV g, .bool false, .int .i64 0], ?_, rfl, hE⟩
            simp [results, Try.results15, go_sem, c0, c1, rtV]

/-- what Gap of the specification answers. -/
def GapRA (c sh : Int) (la lb : List St) (e : Ending) : Prop :=
  (GapROk c sh la lb ∧ e = .returned (.tuple #[rtV (bestR (leastR (apL c sh la lb))), .bool (leastR (apL c sh la lb)).isNone, .int .i64 0])) ∨ (¬ GapROk c sh la lb ∧ e = .returned (.tuple #[rtV ⟨0, 0⟩, .bool false, .int .i64 1]))
theorem rgapP_any (c sh : Int) (aa ab : Option Addr) (ca cb : Nat) (la lb : List St) (w : World) (hra : RSts w (.slice aa la.length ca) la) (hrb : RSts w (.slice ab lb.length cb) lb) (hS : ∀ s, StR c s → 1 ≤ c ∧ c ≤ 3600 → StS s) :
    Calls Try.prog 15 #[.int .i64 c, .slice aa la.length ca, .slice ab lb.length cb, .int .i64 sh] w fun e w' => GapRA c sh la lb e ∧ Below w.heap.size w w' := by
  by_cases hq : (1 ≤ c ∧ c ≤ 3600) ∧ (0 ≤ sh ∧ sh < c)
  case neg => exact (rgapP0 c sh aa ab ca cb la lb w hra hrb hq).mono fun e w' ⟨h1, h2⟩ => ⟨.inr ⟨fun h => hq ⟨h.1, h.2.1⟩, h1⟩, h2⟩
  rcases first_bad (P := StR c) la with ha | ⟨k, hk, h1, h2⟩
  case inr => exact (rgapP1 c sh aa ab ca cb la lb w hra hrb hq.1 hq.2 k hk h1 h2).mono fun e w' ⟨g1, g2⟩ => ⟨.inr ⟨fun h => h1 (h.2.2.1 _ (List.getElem_mem hk)), g1⟩, g2⟩
  rcases first_bad (P := StR c) lb with hb | ⟨k, hk, h1, h2⟩
  case inr => exact (rgapP2 c sh aa ab ca cb la lb w hra hrb hq.1 hq.2 ha k hk h1 h2).mono fun e w' ⟨g1, g2⟩ => ⟨.inr ⟨fun h => h1 (h.2.2.2 _ (List.getElem_mem hk)), g1⟩, g2⟩
  exact (rgapP3 c sh aa ab ca cb la lb w hra hrb hq.1 hq.2 ha hb (fun s hs => hS s (ha s hs) hq.1) (fun s hs => hS s (hb s hs) hq.1)).mono fun e w' ⟨g1, g2⟩ => ⟨.inl ⟨⟨hq.1, hq.2, ha, hb⟩, g1⟩, g2⟩
end Go.Proofs.Ytnldenjdbgfgmaa
