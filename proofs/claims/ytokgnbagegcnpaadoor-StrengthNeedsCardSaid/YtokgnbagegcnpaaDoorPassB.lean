/- Whether measured rings are thick enough: Passes by its contract; no statement is proved here. -/
import Derived.Test.YtokgnbagegcnpaaDoorNeedP
import Derived.Test.YtokgnbagegcnpaaDoorToldB
namespace Go.Proofs.YtokgnbagegcnpaaDoor
open Go.RowKit Go.PlainAid
set_option linter.unusedVariables false
set_option linter.unusedSimpArgs false

theorem isFn_allB1 : IsFn 143 := fun xs w => by kernel_rfl
theorem isFn_passes1 : IsFn 92 := fun xs w => by kernel_rfl

theorem below_drewN5' {B n : Nat} {a w : World} (h : Below B a w) : Below B a (w.drewN n) := ⟨h.os, h.tape, h.output, h.size, h.block⟩
def IdxP (w : World) (l : List Int) (p : Int → Bool) (e : Ending) (w' : World) : Prop := ∃ n, e = .returned (.int .i64 n) ∧ (0 ≤ n ↔ l.any p = true) ∧ n ≤ 140737488351232 ∧ Below w.heap.size w w'
set_option maxHeartbeats 1000000 in
set_option maxRecDepth 100000 in
theorem idxFunc_any (v : Value) (l : List Int) (gf : Nat) (caps : Array Value) (p : Int → Bool) (w : World) (hv : RInts w v l) (hfn : IsFn gf)
    (h : ∀ x V, Below w.heap.size w V → Calls Tryd.prog gf (#[.int .i64 x] ++ caps) V fun e w' => e = .returned (.bool (p x)) ∧ Below V.heap.size V w') :
    Calls Tryd.prog 159 #[v, .func (.func gf) #[] caps] w (IdxP w l p) := by
  have hen := fun xs w => hfn xs w
  obtain ⟨a, c, rfl, -, ⟨-, hm⟩, hl⟩ := hv
  go_enter Tryd.func159, Tryd.ntmps159
  go_wp2
  go_loopw [8] (fun i wr => ∃ k : Nat, k ≤ l.length ∧ i = .int .i64 k ∧ Hid (∀ j (h : j < l.length), j < k → p l[j] = false) ∧ Below w.heap.size w wr) (fun i _ => l.length - (intOf i).toNat)
  case atStart => exact ⟨0, Nat.zero_le _, rfl, fun j _ h => absurd h (by omega), Below.refl _ _⟩
  case round =>
    obtain ⟨k, hk, rfl, hno, hB⟩ := hrel
    by_cases hlt : k < l.length
    · obtain ⟨b1, o1, rfl, q1, -⟩ := hl k hlt
      have k1 := ext_of_below hB _ _ q1
      simp only [Nat.mul_one] at k1
      have i1 : (0 : Int) ≤ (k : Int) := Int.natCast_nonneg _
      have i2 : (k : Int) < (l.length : Int) := by omega
      have hcall := h l[k] wr hB
      have HK : Hid (p l[k] = p l[k] ∧ ∀ r, p l[k] = r → r = false → ∀ j (h : j < l.length), j < k + 1 → p l[j] = false) := Lib.hid ⟨rfl, fun r h1 h2 j hj hjk => by
        by_cases e : j = k
        · subst e; rw [h1, h2]
        · exact hno.out j hj (by omega)⟩
      have HY : Hid (p l[k] = true → l.any p = true) := Lib.hid (fun hp => List.any_eq_true.2 ⟨l[k], List.getElem_mem hlt, hp⟩)
      clear hl q1 h
      generalize l[k] = x at *
      go_wp2_with fail
      refine hcall.mono ?_
      rintro e w1 ⟨rfl, hb1⟩
      have HB := Lib.hid (hB.trans (hb1.mono hB.size))
      clear hcall hb1 hB
      cases hp : p x with
      | true =>
        have HY2 := Lib.hid (HY.out hp)
        clear HK HY
        go_wp2
        go_ret
        exact ⟨k, rfl, ⟨fun _ => HY2.out, fun _ => by omega⟩, by omega, HB.out⟩
      | false =>
        have HN := Lib.hid (HK.out.2 _ hp rfl)
        clear HK HY
        go_wp2
        go_roundw
        case rel => exact ⟨k + 1, by omega, by go_num, HN, HB.out⟩
        case measure => simp [intOf]; omega
    · obtain rfl : k = l.length := by omega
      have HN : Hid (l.any p = false) := Lib.hid (by
        rw [List.any_eq_false]
        intro x hx
        obtain ⟨j, hj, rfl⟩ := List.getElem_of_mem hx
        rw [hno.out j hj hj]
        decide)
      have HB := Lib.hid hB
      clear hl hB hno h
      go_wp2
      go_ret
      exact ⟨-1, rfl, ⟨fun h => by omega, fun h => by rw [HN.out] at h; cases h⟩, by omega, HB.out⟩

def ContP (w : World) (l : List Int) (p : Int → Bool) (e : Ending) (w' : World) : Prop := e = .returned (.bool (l.any p)) ∧ Below w.heap.size w w'
set_option maxHeartbeats 1000000 in
set_option maxRecDepth 100000 in
theorem contFunc_any (v : Value) (l : List Int) (gf : Nat) (caps : Array Value) (p : Int → Bool) (w : World) (hv : RInts w v l) (hfn : IsFn gf)
    (h : ∀ x V, Below w.heap.size w V → Calls Tryd.prog gf (#[.int .i64 x] ++ caps) V fun e w' => e = .returned (.bool (p x)) ∧ Below V.heap.size V w') :
    Calls Tryd.prog 142 #[v, .func (.func gf) #[] caps] w (ContP w l p) := by
  have hi := idxFunc_any v l gf caps p w hv hfn h
  obtain ⟨a, c, rfl, -, ⟨-, hm⟩, hl⟩ := hv
  clear h hl
  go_enter Tryd.func142, Tryd.ntmps142
  go_wp2_with fail
  refine hi.mono ?_
  rintro e w1 ⟨n, rfl, hn, hnm, hb⟩
  have HN := Lib.hid hn
  have HB := Lib.hid hb
  clear hi hn hb
  by_cases h0 : 0 ≤ n
  · go_wp2
    go_ret
    exact ⟨ret_bool (HN.out.1 h0).symm, HB.out⟩
  · have HF : Hid (l.any p = false) := Lib.hid (by cases h : l.any p with | false => rfl | true => exact absurd (HN.out.2 h) h0)
    go_wp2
    go_ret
    exact ⟨ret_bool (by rw [HF.out]; simpa using h0), HB.out⟩

set_option maxRecDepth 100000 in
theorem allB1_any (x lo hi : Int) (p1 p2 : Nat) (w : World) (h1 : Blk w p1 #[.int .i64 lo] 3) (h2 : Blk w p2 #[.int .i64 hi] 3) :
    Calls Tryd.prog 143 #[.int .i64 x, .pointer (some ⟨p1, 0, none⟩), .pointer (some ⟨p2, 0, none⟩)] w fun e w' => e = .returned (.bool (!btw x lo hi)) ∧ Below w.heap.size w w' := by
  have c1 := h1.cell 0 _ rfl
  have c2 := h2.cell 0 _ rfl
  go_enter Tryd.func143, Tryd.ntmps143
  go_wp2_with fail
  refine (calls_p (between_in x lo hi w 9)).mono ?_
  rintro e w1 ⟨rfl, rfl⟩
  cases hb : btw x lo hi
  · go_wp2
    go_ret
    exact ⟨ret_bool (by rw [hb]; rfl), Below.refl _ _⟩
  · go_wp2
    go_ret
    exact ⟨ret_bool (by rw [hb]; rfl), Below.refl _ _⟩

def allB (l : List Int) (cnt lo hi : Int) : Bool := decide ((l.length : Int) = cnt) && !(l.any fun x => !btw x lo hi)
theorem allB_true {l : List Int} {cnt lo hi : Int} : allB l cnt lo hi = true ↔ (l.length : Int) = cnt ∧ ∀ x ∈ l, lo ≤ x ∧ x ≤ hi := by
  unfold allB
  simp only [Bool.and_eq_true, decide_eq_true_iff, Bool.not_eq_true', List.any_eq_false, Bool.not_eq_true]
  constructor
  · rintro ⟨h1, h2⟩
    exact ⟨h1, fun x hx => btw_true.1 (by have := h2 x hx; revert this; cases btw x lo hi <;> simp)⟩
  · rintro ⟨h1, h2⟩
    exact ⟨h1, fun x hx => by rw [btw_true.2 (h2 x hx)]; simp⟩
def AllBP (w : World) (l : List Int) (cnt lo hi : Int) (e : Ending) (w' : World) : Prop := e = .returned (.bool (allB l cnt lo hi)) ∧ Below w.heap.size w w'
set_option maxHeartbeats 1000000 in
set_option maxRecDepth 100000 in
theorem allBetween_any (v : Value) (l : List Int) (cnt lo hi : Int) (w : World) (hv : RInts w v l) :
    Calls Tryd.prog 93 #[v, .int .i64 cnt, .int .i64 lo, .int .i64 hi] w (AllBP w l cnt lo hi) := by
  have hmf : ∀ (fn : Fn) (first cap : Array Value) (w : World), (Instr.makeFunc fn first cap).run Tryd.prog w = .ok (.func fn first cap) w := fun _ _ _ _ => rfl
  have hA : Below w.heap.size w ((w.alloc (.cells #[.int .i64 lo] 3)).alloc (.cells #[.int .i64 hi] 3)) := (below_boxS w _).alloc (by simp) _
  have h1 := (Blk.new w #[.int .i64 lo] 3).alloc (.cells #[.int .i64 hi] 3)
  have h2 := Blk.new (w.alloc (.cells #[.int .i64 lo] 3)) #[.int .i64 hi] 3
  rw [World.size_alloc] at h2
  have hv0 := hv
  obtain ⟨a, c, rfl, -, ⟨-, hm⟩, -⟩ := hv
  go_enter Tryd.func93, Tryd.ntmps93
  by_cases hc : (l.length : Int) = cnt
  · have hq : ((l.length : Int) == cnt) = true := by rw [beq_iff_eq]; exact hc
    have HC := Lib.hid hc
    clear hc
    go_wp2_with fail
    generalize (w.alloc (.cells #[.int .i64 lo] 3)).alloc (.cells #[.int .i64 hi] 3) = W2 at *
    refine (contFunc_any _ l 143 #[.pointer (some ⟨w.heap.size, 0, none⟩), .pointer (some ⟨w.heap.size + 1, 0, none⟩)] (fun x => !btw x lo hi) W2 (hv0.mono (ext_of_below hA)) isFn_allB1 (fun x V hV => allB1_any x lo hi _ _ V (h1.below hV h1.lt) (h2.below hV h2.lt))).mono ?_
    rintro e w1 ⟨rfl, hb⟩
    have HB := Lib.hid (hA.trans (hb.mono hA.size))
    have hdf : allB l cnt lo hi = !(l.any fun x => !btw x lo hi) := by unfold allB; rw [decide_eq_true HC.out, Bool.true_and]
    have HD := Lib.hid hdf
    clear hb hA h1 h2 hv0 hdf hmf
    generalize (l.any fun x => !btw x lo hi) = r at *
    cases r with
    | true =>
      go_wp2
      go_ret
      exact ⟨ret_bool HD.out.symm, HB.out⟩
    | false =>
      go_wp2
      go_ret
      exact ⟨ret_bool HD.out.symm, HB.out⟩
  · have hq : ((l.length : Int) == cnt) = false := by rw [beq_eq_false_iff_ne]; exact hc
    have HD : Hid (allB l cnt lo hi = false) := Lib.hid (by unfold allB; rw [decide_eq_false hc, Bool.false_and])
    have HA := Lib.hid hA
    clear hc h1 h2 hA hv0
    go_wp2
    go_ret
    exact ⟨ret_bool HD.out.symm, HA.out⟩

end Go.Proofs.YtokgnbagegcnpaaDoor
