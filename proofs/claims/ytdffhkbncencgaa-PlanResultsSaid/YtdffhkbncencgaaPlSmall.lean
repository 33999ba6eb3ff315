/- The small functions of package plan: their contracts; no statement is proved here. -/
import Derived.Test.YtdffhkbncencgaaPlData
import Derived.Test.YtdffhkbncencgaaRange
import Derived.Test.YtdffhkbncencgaaTillIn
import Derived.Deep.QuietTactic
import Derived.BigQuiet
import Derived.WalkLawsBesides
namespace Go.Proofs.Ytdffhkbncencgaa
open Go.RowKit Go.PlainAid
set_option linter.unusedVariables false
set_option linter.unusedSimpArgs false

theorem below_box (w : World) (a : Obj) : Below w.heap.size w (w.alloc a) := by go_grown
theorem bdrewN {B n : Nat} {a w : World} (h : Below B a w) : Below B a (w.drewN n) := ⟨h.os, h.tape, h.output, h.size, h.block⟩
def btw (n l m : Int) : Bool := decide (l ≤ n ∧ n ≤ m)
theorem btw_true {n l m : Int} : btw n l m = true ↔ l ≤ n ∧ n ≤ m := by unfold btw; exact decide_eq_true_iff

set_option maxRecDepth 100000 in
theorem between_any (n l m : Int) (w : World) : Calls Try.prog 58 #[.int .i64 n, .int .i64 l, .int .i64 m] w fun e w' => e = .returned (.bool (btw n l m)) ∧ w' = w := by
  go_enter Try.func58, Try.ntmps58
  by_cases h1 : l ≤ n
  · go_wp2
    go_ret
    exact ⟨ret_bool (by simp [btw, h1]), rfl⟩
  · go_wp2
    go_ret
    exact ⟨ret_bool (by simp [btw]; omega), rfl⟩

set_option maxRecDepth 100000 in
theorem isIndex_any (n : Int) (k : Nat) (hk : k ≤ 140737488351232) (w : World) : Calls Try.prog 33 #[.int .i64 n, .int .i64 k] w fun e w' => e = .returned (.bool (btw n 0 ((k : Int) - 1))) ∧ w' = w := by
  have z : wrap64 ((k : Int) - 1) = (k : Int) - 1 := wrap_id _ (by unfold I64; omega)
  go_enter Try.func33, Try.ntmps33
  go_wp2_with fail
  refine (between_any n 0 ((k : Int) - 1) _).mono ?_
  rintro e w' ⟨rfl, rfl⟩
  go_wp2
  go_ret
  exact ⟨rfl, rfl⟩

def letB (c : Int) : Bool := decide (97 ≤ c) && decide (c ≤ 122)
def chB (c : Int) : Bool := letB c || c == 45 || (decide (48 ≤ c) && decide (c ≤ 57))
/-- the bytes of a string from place k on are those of a name. -/
def chsB (s : ByteArray) (k : Nat) : Bool := (List.range' k (s.size - k)).all fun i => chB (bt s i)
def nameB (s : ByteArray) : Bool := decide (1 ≤ s.size) && decide (s.size ≤ 16) && letB (bt s 0) && chsB s 0

theorem chsB_end (s : ByteArray) (k : Nat) (h : s.size ≤ k) : chsB s k = true := by unfold chsB; rw [show s.size - k = 0 from by omega]; rfl
theorem chsB_step (s : ByteArray) (k : Nat) (h : k < s.size) : chsB s k = (chB (bt s k) && chsB s (k + 1)) := by
  unfold chsB
  obtain ⟨n, hn⟩ : ∃ n, s.size - k = n + 1 := ⟨s.size - k - 1, by omega⟩
  rw [hn, show s.size - (k + 1) = n from by omega, List.range'_succ, List.all_cons]

theorem letter_any (n : Int) (w : World) :
    Calls Try.prog 91 #[.int .u8 n] w fun e w' => e = .returned (.bool (letB n)) ∧ w = w' := by
  go_enter Try.func91, Try.ntmps91
  go_wp2
  all_goals go_ret
  all_goals (refine ⟨?_, rfl⟩; simp [letB]; try omega)

set_option maxRecDepth 100000 in
theorem isName_any (s : ByteArray) (w : World) (hm : s.size ≤ 140737488351232) :
    Calls Try.prog 86 #[.string s] w fun e w' => e = .returned (.bool (nameB s)) ∧ w = w' := by
  by_cases h0 : s.size = 0
  · have hn : nameB s = false := by simp [nameB, h0]
    rw [hn]
    have h1 : ((s.size : Int) == 0) = true := by simp [h0]
    clear hn
    go_enter Try.func86, Try.ntmps86
    go_wp2
    go_ret
    exact ⟨rfl, rfl⟩
  have h1 : ((s.size : Int) == 0) = false := by simp [h0]
  by_cases h16 : 16 < s.size
  · have hn : nameB s = false := by unfold nameB; rw [decide_eq_false (p := s.size ≤ 16) (by omega)]; simp
    rw [hn]
    clear hn
    go_enter Try.func86, Try.ntmps86
    go_wp2
    go_ret
    exact ⟨rfl, rfl⟩
  have hlt0 : 0 < s.size := by omega
  have h16b : decide ((16 : Int) < (s.size : Int)) = false := decide_eq_false (by omega)
  cases hl : letB (bt s 0) with
  | false =>
    have hn : nameB s = false := by simp [nameB, hl]
    rw [hn]
    clear hn
    have HL := Lib.hid hl
    have hg := get_bt s 0 hlt0
    clear hl
    go_enter Try.func86, Try.ntmps86
    go_wp2_with fail
    refine (letter_any _ _).mono ?_
    rintro e w1 ⟨rfl, rfl⟩
    rw [HL.out]
    go_wp2
    go_ret
    exact ⟨rfl, rfl⟩
  | true =>
    have hn : nameB s = chsB s 0 := by simp [nameB, hl]; omega
    rw [hn]
    clear hn
    have HL := Lib.hid hl
    have hg := get_bt s 0 hlt0
    clear hl
    go_enter Try.func86, Try.ntmps86
    go_wp2_with fail
    refine (letter_any _ _).mono ?_
    rintro e w1 ⟨rfl, rfl⟩
    rw [HL.out]
    clear hg
    go_wp2
    go_loop [21] (fun i => ∃ k : Nat, k ≤ s.size ∧ i = .int .i64 k ∧ Hid (chsB s 0 = chsB s k)) (fun i => s.size - (intOf i).toNat)
    case atStart => exact ⟨0, by omega, rfl, rfl⟩
    case round =>
      obtain ⟨k, hk, rfl, hx⟩ := hrel
      clear HL h0 h1 h16 h16b
      by_cases hlt : k < s.size
      · have hst := Lib.hid (chsB_step s k hlt)
        have hg := get_bt s k hlt
        have hge := bt_nonneg s k
        have hle := bt_le s k
        have hfin : ∀ x, chB (bt s k) = x → Hid (chsB s 0 = (x && chsB s (k + 1))) := fun x e => by
          unfold Hid; rw [hx.out, hst.out, e]
        clear hx hst
        generalize bt s k = c at *
        cases hl : letB c with
        | true =>
          have HX := hfin true (by simp [chB, hl])
          have HL := Lib.hid hl
          clear hl hfin
          go_wp2_with fail
          refine (letter_any _ _).mono ?_
          rintro e w1 ⟨rfl, rfl⟩
          rw [HL.out]
          go_wp2
          go_round
          case rel => exact ⟨k + 1, by omega, by go_num, by have := HX.out; simpa [Hid] using this⟩
          case measure => simp [intOf]; omega
        | false =>
          have HL := Lib.hid hl
          by_cases hd : c = 45
          · have HX := hfin true (by simp [chB, hd])
            clear hl hfin
            have hb : (c != 45) = false := by simp [hd]
            clear hd
            go_wp2_with fail
            refine (letter_any _ _).mono ?_
            rintro e w1 ⟨rfl, rfl⟩
            rw [HL.out]
            go_wp2
            go_round
            case rel => exact ⟨k + 1, by omega, by go_num, by have := HX.out; simpa [Hid] using this⟩
            case measure => simp [intOf]; omega
          · have hb : (c != 45) = true := by simp [hd]
            by_cases h48 : c < 48
            · have HX := hfin false (by simp [chB, hl, hd]; omega)
              clear hl hfin hd
              go_wp2_with fail
              refine (letter_any _ _).mono ?_
              rintro e w1 ⟨rfl, rfl⟩
              rw [HL.out]
              go_wp2
              go_ret
              exact ⟨ret_bool (by have := HX.out; simpa using this.symm), rfl⟩
            · by_cases h57 : 57 < c
              · have HX := hfin false (by simp [chB, hl, hd]; omega)
                clear hl hfin hd
                go_wp2_with fail
                refine (letter_any _ _).mono ?_
                rintro e w1 ⟨rfl, rfl⟩
                rw [HL.out]
                go_wp2
                go_ret
                exact ⟨ret_bool (by have := HX.out; simpa using this.symm), rfl⟩
              · have HX := hfin true (by simp [chB, hl, hd]; omega)
                clear hl hfin hd
                go_wp2_with fail
                refine (letter_any _ _).mono ?_
                rintro e w1 ⟨rfl, rfl⟩
                rw [HL.out]
                go_wp2
                go_round
                case rel => exact ⟨k + 1, by omega, by go_num, by have := HX.out; simpa [Hid] using this⟩
                case measure => simp [intOf]; omega
      · have hfin : chsB s 0 = true := by rw [hx.out, chsB_end s k (by omega)]
        have HF := Lib.hid hfin
        clear hx hfin
        go_wp2
        go_ret
        exact ⟨ret_bool HF.out.symm, rfl⟩
def eqS (a b : ByteArray) : Bool := a.toList == b.toList
theorem eqS_comm (a b : ByteArray) : eqS a b = eqS b a := by unfold eqS; exact Bool.beq_comm
def IdxP_int (w : World) (l : List Int) (p : Int → Bool) (e : Ending) (w' : World) : Prop := ∃ n, e = .returned (.int .i64 n) ∧ (0 ≤ n ↔ l.any p = true) ∧ n ≤ 140737488351232 ∧ Below w.heap.size w w'
set_option maxHeartbeats 2000000 in
set_option maxRecDepth 100000 in
theorem idxFunc_int (v : Value) (l : List Int) (gf : Nat) (caps : Array Value) (p : Int → Bool) (w : World) (hv : RInts w v l) (hfn : IsFn gf)
    (h : ∀ x V, Below w.heap.size w V → Calls Try.prog gf (#[.int .i64 x] ++ caps) V fun e w' => e = .returned (.bool (p x)) ∧ Below V.heap.size V w') :
    Calls Try.prog 90 #[v, .func (.func gf) #[] caps] w (IdxP_int w l p) := by
  have hen := fun xs w => hfn xs w
  obtain ⟨a, c, rfl, -, ⟨-, hm⟩, hl⟩ := hv
  go_enter Try.func90, Try.ntmps90
  go_wp2
  go_loopw [8] (fun i wr => ∃ k : Nat, k ≤ l.length ∧ i = .int .i64 k ∧ Hid (∀ j (h : j < l.length), j < k → p l[j] = false) ∧ Below w.heap.size w wr) (fun i _ => l.length - (intOf i).toNat)
  case atStart => exact ⟨0, Nat.zero_le _, rfl, fun j _ h => absurd h (by omega), Below.refl _ _⟩
  case round =>
    obtain ⟨k, hk, rfl, hno, hB⟩ := hrel
    by_cases hlt : k < l.length
    · obtain ⟨b1, o1, rfl, q0, -⟩ := hl k hlt
      simp only [Nat.mul_one] at q0
      have k0 := ext_of_below hB _ _ q0
      have i1 : (0 : Int) ≤ (k : Int) := Int.natCast_nonneg _
      have i2 : (k : Int) < (l.length : Int) := by omega
      have hcall := h l[k] wr hB
      have HK : Hid (p l[k] = p l[k] ∧ ∀ r, p l[k] = r → r = false → ∀ j (h : j < l.length), j < k + 1 → p l[j] = false) := Lib.hid ⟨rfl, fun r h1 h2 j hj hjk => by
        by_cases e : j = k
        · subst e; rw [h1, h2]
        · exact hno.out j hj (by omega)⟩
      have HY : Hid (p l[k] = true → l.any p = true) := Lib.hid (fun hp => List.any_eq_true.2 ⟨l[k], List.getElem_mem hlt, hp⟩)
      clear hl q0 h
      generalize l[k] = x at *
      go_wp2_with fail
      refine hcall.mono ?_
      rintro e w1 ⟨rfl, hb1⟩
      have HB := Lib.hid (hB.trans (hb1.mono hB.size))
      clear hcall hb1 hB
      cases hp : p x with
      | true =>
        have HY2 := Lib.hid (HY.out hp)
        clear HK HY
        go_wp2
        go_ret
        exact ⟨k, rfl, ⟨fun _ => HY2.out, fun _ => by omega⟩, by omega, HB.out⟩
      | false =>
        have HN := Lib.hid (HK.out.2 _ hp rfl)
        clear HK HY
        go_wp2
        go_roundw
        case rel => exact ⟨k + 1, by omega, by go_num, HN, HB.out⟩
        case measure => simp [intOf]; omega
    · obtain rfl : k = l.length := by omega
      have HN : Hid (l.any p = false) := Lib.hid (by
        rw [List.any_eq_false]
        intro x hx
        obtain ⟨j, hj, rfl⟩ := List.getElem_of_mem hx
        rw [hno.out j hj hj]
        decide)
      have HB := Lib.hid hB
      clear hl hB hno h
      go_wp2
      go_ret
      exact ⟨-1, rfl, ⟨fun h => by omega, fun h => by rw [HN.out] at h; cases h⟩, by omega, HB.out⟩
def ContP_int (w : World) (l : List Int) (p : Int → Bool) (e : Ending) (w' : World) : Prop := e = .returned (.bool (l.any p)) ∧ Below w.heap.size w w'
set_option maxHeartbeats 1000000 in
set_option maxRecDepth 100000 in
theorem contFunc_int (v : Value) (l : List Int) (gf : Nat) (caps : Array Value) (p : Int → Bool) (w : World) (hv : RInts w v l) (hfn : IsFn gf)
    (h : ∀ x V, Below w.heap.size w V → Calls Try.prog gf (#[.int .i64 x] ++ caps) V fun e w' => e = .returned (.bool (p x)) ∧ Below V.heap.size V w') :
    Calls Try.prog 81 #[v, .func (.func gf) #[] caps] w (ContP_int w l p) := by
  have hi := idxFunc_int v l gf caps p w hv hfn h
  obtain ⟨a, c, rfl, -, ⟨-, hm⟩, hl⟩ := hv
  clear h hl
  go_enter Try.func81, Try.ntmps81
  go_wp2_with fail
  refine hi.mono ?_
  rintro e w1 ⟨n, rfl, hn, hnm, hb⟩
  have HN := Lib.hid hn
  have HB := Lib.hid hb
  clear hi hn hb
  by_cases h0 : 0 ≤ n
  · go_wp2
    go_ret
    exact ⟨ret_bool (HN.out.1 h0).symm, HB.out⟩
  · have HF : Hid (l.any p = false) := Lib.hid (by cases h : l.any p with | false => rfl | true => exact absurd (HN.out.2 h) h0)
    go_wp2
    go_ret
    exact ⟨ret_bool (by rw [HF.out]; simpa using h0), HB.out⟩
def IdxP_tn (w : World) (l : List Sp) (p : Sp → Bool) (e : Ending) (w' : World) : Prop := ∃ n, e = .returned (.int .i64 n) ∧ (0 ≤ n ↔ l.any p = true) ∧ n ≤ 140737488351232 ∧ Below w.heap.size w w'
set_option maxHeartbeats 2000000 in
set_option maxRecDepth 100000 in
theorem idxFunc_tn (v : Value) (l : List Sp) (gf : Nat) (caps : Array Value) (p : Sp → Bool) (w : World) (hv : RSps w v l) (hfn : IsFn gf)
    (h : ∀ x V, Below w.heap.size w V → Calls Try.prog gf (#[.agg #[.int .i64 x.lo, .int .i64 x.hi]] ++ caps) V fun e w' => e = .returned (.bool (p x)) ∧ Below V.heap.size V w') :
    Calls Try.prog 98 #[v, .func (.func gf) #[] caps] w (IdxP_tn w l p) := by
  have hen := fun xs w => hfn xs w
  obtain ⟨a, c, rfl, -, ⟨-, hm⟩, hl⟩ := hv
  go_enter Try.func98, Try.ntmps98
  go_wp2
  go_loopw [8] (fun i wr => ∃ k : Nat, k ≤ l.length ∧ i = .int .i64 k ∧ Hid (∀ j (h : j < l.length), j < k → p l[j] = false) ∧ Below w.heap.size w wr) (fun i _ => l.length - (intOf i).toNat)
  case atStart => exact ⟨0, Nat.zero_le _, rfl, fun j _ h => absurd h (by omega), Below.refl _ _⟩
  case round =>
    obtain ⟨k, hk, rfl, hno, hB⟩ := hrel
    by_cases hlt : k < l.length
    · obtain ⟨b1, o1, rfl, q0, q1, -, -⟩ := hl k hlt
      simp only [Nat.mul_one] at q0 q1
      have k0 := ext_of_below hB _ _ q0
      have k1 := ext_of_below hB _ _ q1
      have i1 : (0 : Int) ≤ (k : Int) := Int.natCast_nonneg _
      have i2 : (k : Int) < (l.length : Int) := by omega
      have hcall := h l[k] wr hB
      have HK : Hid (p l[k] = p l[k] ∧ ∀ r, p l[k] = r → r = false → ∀ j (h : j < l.length), j < k + 1 → p l[j] = false) := Lib.hid ⟨rfl, fun r h1 h2 j hj hjk => by
        by_cases e : j = k
        · subst e; rw [h1, h2]
        · exact hno.out j hj (by omega)⟩
      have HY : Hid (p l[k] = true → l.any p = true) := Lib.hid (fun hp => List.any_eq_true.2 ⟨l[k], List.getElem_mem hlt, hp⟩)
      clear hl q0 q1 h
      generalize l[k] = x at *
      go_wp2_with fail
      refine hcall.mono ?_
      rintro e w1 ⟨rfl, hb1⟩
      have HB := Lib.hid (hB.trans (hb1.mono hB.size))
      clear hcall hb1 hB
      cases hp : p x with
      | true =>
        have HY2 := Lib.hid (HY.out hp)
        clear HK HY
        go_wp2
        go_ret
        exact ⟨k, rfl, ⟨fun _ => HY2.out, fun _ => by omega⟩, by omega, HB.out⟩
      | false =>
        have HN := Lib.hid (HK.out.2 _ hp rfl)
        clear HK HY
        go_wp2
        go_roundw
        case rel => exact ⟨k + 1, by omega, by go_num, HN, HB.out⟩
        case measure => simp [intOf]; omega
    · obtain rfl : k = l.length := by omega
      have HN : Hid (l.any p = false) := Lib.hid (by
        rw [List.any_eq_false]
        intro x hx
        obtain ⟨j, hj, rfl⟩ := List.getElem_of_mem hx
        rw [hno.out j hj hj]
        decide)
      have HB := Lib.hid hB
      clear hl hB hno h
      go_wp2
      go_ret
      exact ⟨-1, rfl, ⟨fun h => by omega, fun h => by rw [HN.out] at h; cases h⟩, by omega, HB.out⟩
def ContP_tn (w : World) (l : List Sp) (p : Sp → Bool) (e : Ending) (w' : World) : Prop := e = .returned (.bool (l.any p)) ∧ Below w.heap.size w w'
set_option maxHeartbeats 1000000 in
set_option maxRecDepth 100000 in
theorem contFunc_tn (v : Value) (l : List Sp) (gf : Nat) (caps : Array Value) (p : Sp → Bool) (w : World) (hv : RSps w v l) (hfn : IsFn gf)
    (h : ∀ x V, Below w.heap.size w V → Calls Try.prog gf (#[.agg #[.int .i64 x.lo, .int .i64 x.hi]] ++ caps) V fun e w' => e = .returned (.bool (p x)) ∧ Below V.heap.size V w') :
    Calls Try.prog 95 #[v, .func (.func gf) #[] caps] w (ContP_tn w l p) := by
  have hi := idxFunc_tn v l gf caps p w hv hfn h
  obtain ⟨a, c, rfl, -, ⟨-, hm⟩, hl⟩ := hv
  clear h hl
  go_enter Try.func95, Try.ntmps95
  go_wp2_with fail
  refine hi.mono ?_
  rintro e w1 ⟨n, rfl, hn, hnm, hb⟩
  have HN := Lib.hid hn
  have HB := Lib.hid hb
  clear hi hn hb
  by_cases h0 : 0 ≤ n
  · go_wp2
    go_ret
    exact ⟨ret_bool (HN.out.1 h0).symm, HB.out⟩
  · have HF : Hid (l.any p = false) := Lib.hid (by cases h : l.any p with | false => rfl | true => exact absurd (HN.out.2 h) h0)
    go_wp2
    go_ret
    exact ⟨ret_bool (by rw [HF.out]; simpa using h0), HB.out⟩
def IdxP_art (w : World) (l : List Art) (p : Art → Bool) (e : Ending) (w' : World) : Prop := ∃ n, e = .returned (.int .i64 n) ∧ (0 ≤ n ↔ l.any p = true) ∧ n ≤ 140737488351232 ∧ Below w.heap.size w w'
set_option maxHeartbeats 2000000 in
set_option maxRecDepth 100000 in
theorem idxFunc_art (v : Value) (l : List Art) (gf : Nat) (caps : Array Value) (p : Art → Bool) (w : World) (hv : RArts w v l) (hfn : IsFn gf)
    (h : ∀ x V, Below w.heap.size w V → Calls Try.prog gf (#[.agg #[.string x.name, .int .i64 x.col, .int .i64 x.wt]] ++ caps) V fun e w' => e = .returned (.bool (p x)) ∧ Below V.heap.size V w') :
    Calls Try.prog 92 #[v, .func (.func gf) #[] caps] w (IdxP_art w l p) := by
  have hen := fun xs w => hfn xs w
  obtain ⟨a, c, rfl, -, ⟨-, hm⟩, hl⟩ := hv
  go_enter Try.func92, Try.ntmps92
  go_wp2
  go_loopw [8] (fun i wr => ∃ k : Nat, k ≤ l.length ∧ i = .int .i64 k ∧ Hid (∀ j (h : j < l.length), j < k → p l[j] = false) ∧ Below w.heap.size w wr) (fun i _ => l.length - (intOf i).toNat)
  case atStart => exact ⟨0, Nat.zero_le _, rfl, fun j _ h => absurd h (by omega), Below.refl _ _⟩
  case round =>
    obtain ⟨k, hk, rfl, hno, hB⟩ := hrel
    by_cases hlt : k < l.length
    · obtain ⟨b1, o1, rfl, ⟨q0, q1, q2⟩, -⟩ := hl k hlt
      simp only [Nat.mul_one] at q0 q1 q2
      have k0 := ext_of_below hB _ _ q0
      have k1 := ext_of_below hB _ _ q1
      have k2 := ext_of_below hB _ _ q2
      have i1 : (0 : Int) ≤ (k : Int) := Int.natCast_nonneg _
      have i2 : (k : Int) < (l.length : Int) := by omega
      have hcall := h l[k] wr hB
      have HK : Hid (p l[k] = p l[k] ∧ ∀ r, p l[k] = r → r = false → ∀ j (h : j < l.length), j < k + 1 → p l[j] = false) := Lib.hid ⟨rfl, fun r h1 h2 j hj hjk => by
        by_cases e : j = k
        · subst e; rw [h1, h2]
        · exact hno.out j hj (by omega)⟩
      have HY : Hid (p l[k] = true → l.any p = true) := Lib.hid (fun hp => List.any_eq_true.2 ⟨l[k], List.getElem_mem hlt, hp⟩)
      clear hl q0 q1 q2 h
      generalize l[k] = x at *
      go_wp2_with fail
      refine hcall.mono ?_
      rintro e w1 ⟨rfl, hb1⟩
      have HB := Lib.hid (hB.trans (hb1.mono hB.size))
      clear hcall hb1 hB
      cases hp : p x with
      | true =>
        have HY2 := Lib.hid (HY.out hp)
        clear HK HY
        go_wp2
        go_ret
        exact ⟨k, rfl, ⟨fun _ => HY2.out, fun _ => by omega⟩, by omega, HB.out⟩
      | false =>
        have HN := Lib.hid (HK.out.2 _ hp rfl)
        clear HK HY
        go_wp2
        go_roundw
        case rel => exact ⟨k + 1, by omega, by go_num, HN, HB.out⟩
        case measure => simp [intOf]; omega
    · obtain rfl : k = l.length := by omega
      have HN : Hid (l.any p = false) := Lib.hid (by
        rw [List.any_eq_false]
        intro x hx
        obtain ⟨j, hj, rfl⟩ := List.getElem_of_mem hx
        rw [hno.out j hj hj]
        decide)
      have HB := Lib.hid hB
      clear hl hB hno h
      go_wp2
      go_ret
      exact ⟨-1, rfl, ⟨fun h => by omega, fun h => by rw [HN.out] at h; cases h⟩, by omega, HB.out⟩
def IdxP_od (w : World) (l : List Od) (p : Od → Bool) (e : Ending) (w' : World) : Prop := ∃ n, e = .returned (.int .i64 n) ∧ (0 ≤ n ↔ l.any p = true) ∧ n ≤ 140737488351232 ∧ Below w.heap.size w w'
set_option maxHeartbeats 2000000 in
set_option maxRecDepth 100000 in
theorem idxFunc_od (v : Value) (l : List Od) (gf : Nat) (caps : Array Value) (p : Od → Bool) (w : World) (hv : ROds w v l) (hfn : IsFn gf)
    (h : ∀ x V, Below w.heap.size w V → Calls Try.prog gf (#[.agg #[.int .i64 x.art, .int .i64 x.qty, .int .i64 x.due, .int .i64 x.pen]] ++ caps) V fun e w' => e = .returned (.bool (p x)) ∧ Below V.heap.size V w') :
    Calls Try.prog 96 #[v, .func (.func gf) #[] caps] w (IdxP_od w l p) := by
  have hen := fun xs w => hfn xs w
  obtain ⟨a, c, rfl, -, ⟨-, hm⟩, hl⟩ := hv
  go_enter Try.func96, Try.ntmps96
  go_wp2
  go_loopw [8] (fun i wr => ∃ k : Nat, k ≤ l.length ∧ i = .int .i64 k ∧ Hid (∀ j (h : j < l.length), j < k → p l[j] = false) ∧ Below w.heap.size w wr) (fun i _ => l.length - (intOf i).toNat)
  case atStart => exact ⟨0, Nat.zero_le _, rfl, fun j _ h => absurd h (by omega), Below.refl _ _⟩
  case round =>
    obtain ⟨k, hk, rfl, hno, hB⟩ := hrel
    by_cases hlt : k < l.length
    · obtain ⟨b1, o1, rfl, ⟨q0, q1, q2, q3⟩, -⟩ := hl k hlt
      simp only [Nat.mul_one] at q0 q1 q2 q3
      have k0 := ext_of_below hB _ _ q0
      have k1 := ext_of_below hB _ _ q1
      have k2 := ext_of_below hB _ _ q2
      have k3 := ext_of_below hB _ _ q3
      have i1 : (0 : Int) ≤ (k : Int) := Int.natCast_nonneg _
      have i2 : (k : Int) < (l.length : Int) := by omega
      have hcall := h l[k] wr hB
      have HK : Hid (p l[k] = p l[k] ∧ ∀ r, p l[k] = r → r = false → ∀ j (h : j < l.length), j < k + 1 → p l[j] = false) := Lib.hid ⟨rfl, fun r h1 h2 j hj hjk => by
        by_cases e : j = k
        · subst e; rw [h1, h2]
        · exact hno.out j hj (by omega)⟩
      have HY : Hid (p l[k] = true → l.any p = true) := Lib.hid (fun hp => List.any_eq_true.2 ⟨l[k], List.getElem_mem hlt, hp⟩)
      clear hl q0 q1 q2 q3 h
      generalize l[k] = x at *
      go_wp2_with fail
      refine hcall.mono ?_
      rintro e w1 ⟨rfl, hb1⟩
      have HB := Lib.hid (hB.trans (hb1.mono hB.size))
      clear hcall hb1 hB
      cases hp : p x with
      | true =>
        have HY2 := Lib.hid (HY.out hp)
        clear HK HY
        go_wp2
        go_ret
        exact ⟨k, rfl, ⟨fun _ => HY2.out, fun _ => by omega⟩, by omega, HB.out⟩
      | false =>
        have HN := Lib.hid (HK.out.2 _ hp rfl)
        clear HK HY
        go_wp2
        go_roundw
        case rel => exact ⟨k + 1, by omega, by go_num, HN, HB.out⟩
        case measure => simp [intOf]; omega
    · obtain rfl : k = l.length := by omega
      have HN : Hid (l.any p = false) := Lib.hid (by
        rw [List.any_eq_false]
        intro x hx
        obtain ⟨j, hj, rfl⟩ := List.getElem_of_mem hx
        rw [hno.out j hj hj]
        decide)
      have HB := Lib.hid hB
      clear hl hB hno h
      go_wp2
      go_ret
      exact ⟨-1, rfl, ⟨fun h => by omega, fun h => by rw [HN.out] at h; cases h⟩, by omega, HB.out⟩

theorem isFn_allB1 : IsFn 80 := fun xs w => by kernel_rfl
theorem isFn_tab1 : IsFn 94 := fun xs w => by kernel_rfl
theorem isFn_fart1 : IsFn 93 := fun xs w => by kernel_rfl
theorem isFn_ford1 : IsFn 97 := fun xs w => by kernel_rfl

set_option maxRecDepth 100000 in
theorem allB1_any (x lo hi : Int) (p1 p2 : Nat) (w : World) (h1 : Blk w p1 #[.int .i64 lo] 3) (h2 : Blk w p2 #[.int .i64 hi] 3) :
    Calls Try.prog 80 #[.int .i64 x, .pointer (some ⟨p1, 0, none⟩), .pointer (some ⟨p2, 0, none⟩)] w fun e w' => e = .returned (.bool (!btw x lo hi)) ∧ Below w.heap.size w w' := by
  have c1 := h1.cell 0 _ rfl
  have c2 := h2.cell 0 _ rfl
  go_enter Try.func80, Try.ntmps80
  go_wp2_with fail
  refine (between_any x lo hi w).mono ?_
  rintro e w1 ⟨rfl, rfl⟩
  cases hb : btw x lo hi
  · go_wp2
    go_ret
    exact ⟨ret_bool (by rw [hb]; rfl), Below.refl _ _⟩
  · go_wp2
    go_ret
    exact ⟨ret_bool (by rw [hb]; rfl), Below.refl _ _⟩

def allB (l : List Int) (cnt lo hi : Int) : Bool := decide ((l.length : Int) = cnt) && !(l.any fun x => !btw x lo hi)
theorem allB_true {l : List Int} {cnt lo hi : Int} : allB l cnt lo hi = true ↔ (l.length : Int) = cnt ∧ ∀ x ∈ l, lo ≤ x ∧ x ≤ hi := by
  unfold allB
  simp only [Bool.and_eq_true, decide_eq_true_iff, Bool.not_eq_true', List.any_eq_false, Bool.not_eq_true]
  constructor
  · rintro ⟨h1, h2⟩
    exact ⟨h1, fun x hx => btw_true.1 (by have := h2 x hx; revert this; cases btw x lo hi <;> simp)⟩
  · rintro ⟨h1, h2⟩
    exact ⟨h1, fun x hx => by rw [btw_true.2 (h2 x hx)]; simp⟩
def AllBP (w : World) (l : List Int) (cnt lo hi : Int) (e : Ending) (w' : World) : Prop := e = .returned (.bool (allB l cnt lo hi)) ∧ Below w.heap.size w w'
set_option maxHeartbeats 1000000 in
set_option maxRecDepth 100000 in
theorem allBetween_any (v : Value) (l : List Int) (cnt lo hi : Int) (w : World) (hv : RInts w v l) :
    Calls Try.prog 60 #[v, .int .i64 cnt, .int .i64 lo, .int .i64 hi] w (AllBP w l cnt lo hi) := by
  have hmf : ∀ (fn : Fn) (first cap : Array Value) (w : World), (Instr.makeFunc fn first cap).run Try.prog w = .ok (.func fn first cap) w := fun _ _ _ _ => rfl
  have hA : Below w.heap.size w ((w.alloc (.cells #[.int .i64 lo] 3)).alloc (.cells #[.int .i64 hi] 3)) := (below_box w _).alloc (by simp) _
  have h1 := (Blk.new w #[.int .i64 lo] 3).alloc (.cells #[.int .i64 hi] 3)
  have h2 := Blk.new (w.alloc (.cells #[.int .i64 lo] 3)) #[.int .i64 hi] 3
  rw [World.size_alloc] at h2
  have hv0 := hv
  obtain ⟨a, c, rfl, -, ⟨-, hm⟩, -⟩ := hv
  go_enter Try.func60, Try.ntmps60
  by_cases hc : (l.length : Int) = cnt
  · have hq : ((l.length : Int) == cnt) = true := by rw [beq_iff_eq]; exact hc
    have HC := Lib.hid hc
    clear hc
    go_wp2_with fail
    generalize (w.alloc (.cells #[.int .i64 lo] 3)).alloc (.cells #[.int .i64 hi] 3) = W2 at *
    refine (contFunc_int _ l 80 #[.pointer (some ⟨w.heap.size, 0, none⟩), .pointer (some ⟨w.heap.size + 1, 0, none⟩)] (fun x => !btw x lo hi) W2 (hv0.mono (ext_of_below hA)) isFn_allB1 (fun x V hV => allB1_any x lo hi _ _ V (h1.below hV h1.lt) (h2.below hV h2.lt))).mono ?_
    rintro e w1 ⟨rfl, hb⟩
    have HB := Lib.hid (hA.trans (hb.mono hA.size))
    have hdf : allB l cnt lo hi = !(l.any fun x => !btw x lo hi) := by unfold allB; rw [decide_eq_true HC.out, Bool.true_and]
    have HD := Lib.hid hdf
    clear hb hA h1 h2 hv0 hdf hmf
    generalize (l.any fun x => !btw x lo hi) = r at *
    cases r with
    | true =>
      go_wp2
      go_ret
      exact ⟨ret_bool HD.out.symm, HB.out⟩
    | false =>
      go_wp2
      go_ret
      exact ⟨ret_bool HD.out.symm, HB.out⟩
  · have hq : ((l.length : Int) == cnt) = false := by rw [beq_eq_false_iff_ne]; exact hc
    have HD : Hid (allB l cnt lo hi = false) := Lib.hid (by unfold allB; rw [decide_eq_false hc, Bool.false_and])
    have HA := Lib.hid hA
    clear hc h1 h2 hA hv0
    go_wp2
    go_ret
    exact ⟨ret_bool HD.out.symm, HA.out⟩

def tnBad (x : Sp) : Bool := !(btw x.lo 0 1440 && btw x.hi 0 1000000)
set_option maxRecDepth 100000 in
theorem tab1_any (x : Sp) (w : World) :
    Calls Try.prog 94 #[.agg #[.int .i64 x.lo, .int .i64 x.hi]] w fun e w' => e = .returned (.bool (tnBad x)) ∧ Below w.heap.size w w' := by
  have hb := below_box w (.cells #[.int .i64 x.lo, .int .i64 x.hi] 100)
  go_enter Try.func94, Try.ntmps94
  go_wp2_with fail
  refine (between_any x.lo 0 1440 _).mono ?_
  rintro e w1 ⟨rfl, rfl⟩
  cases h1 : btw x.lo 0 1440 with
  | false =>
    have HT : Hid (tnBad x = true) := Lib.hid (by unfold tnBad; rw [h1]; rfl)
    clear h1
    go_wp2
    go_ret
    exact ⟨ret_bool HT.out.symm, hb⟩
  | true =>
    go_wp2_with fail
    refine (between_any x.hi 0 1000000 _).mono ?_
    rintro e w1 ⟨rfl, rfl⟩
    have HT : Hid (tnBad x = !btw x.hi 0 1000000) := Lib.hid (by unfold tnBad; rw [h1]; rfl)
    clear h1
    generalize btw x.hi 0 1000000 = r at *
    cases r
    · go_wp2
      go_ret
      exact ⟨ret_bool HT.out.symm, hb⟩
    · go_wp2
      go_ret
      exact ⟨ret_bool HT.out.symm, hb⟩

def rowBad (n : Int) (l : List Sp) : Bool := !decide ((l.length : Int) = n) || l.any tnBad
def tabB (l : List (List Sp)) (n : Int) : Bool := !l.any (rowBad n) && decide ((l.length : Int) = n)
theorem anyk_step {α : Type} {l : List α} {p : α → Bool} {k : Nat} (hk : k < l.length) (h : Hid ((l.take k).any p = false)) (hp : p l[k] = false) : Hid ((l.take (k + 1)).any p = false) := by
  unfold Hid at *; rw [List.take_succ_eq_append_getElem hk, List.any_append, h]; simp [hp]
theorem anyk_of {α : Type} {l : List α} {p : α → Bool} {k : Nat} (hk : k < l.length) (hp : p l[k] = true) : l.any p = true := List.any_eq_true.2 ⟨_, List.getElem_mem hk, hp⟩
set_option maxHeartbeats 2000000 in
set_option maxRecDepth 100000 in
theorem isTable_any (v : Value) (l : List (List Sp)) (n : Nat) (hn : n ≤ 140737488351232) (w : World) (hv : RTrns w v l) :
    Calls Try.prog 88 #[v, .int .i64 n] w fun e w' => e = .returned (.bool (tabB l n)) ∧ Below w.heap.size w w' := by
  obtain ⟨a, c, rfl, -, ⟨-, hm⟩, hl⟩ := hv
  go_enter Try.func88, Try.ntmps88
  go_wp2
  go_loopw [10] (fun i wr => ∃ k : Nat, k ≤ l.length ∧ i = .int .i64 k ∧ Hid ((l.take k).any (rowBad n) = false) ∧ Below w.heap.size w wr) (fun i _ => l.length - (intOf i).toNat)
  case atStart => exact ⟨0, Nat.zero_le _, rfl, by simp [Hid], Below.refl _ _⟩
  case round =>
    obtain ⟨k, hk, rfl, hno, hB⟩ := hrel
    by_cases hlt : k < l.length
    · obtain ⟨b1, o1, rfl, u, q0, qr⟩ := hl k hlt
      simp only [Nat.mul_one] at q0
      have k0 := ext_of_below hB _ _ q0
      have hr := qr.mono (ext_of_below hB)
      have i1 : (0 : Int) ≤ (k : Int) := Int.natCast_nonneg _
      have i2 : (k : Int) < (l.length : Int) := by omega
      have HS := Lib.hid (fun hp => anyk_step (p := rowBad n) hlt hno hp)
      have HY := Lib.hid (fun hp => anyk_of (p := rowBad n) hlt hp)
      clear hl q0 qr hno
      generalize l[k] = x at *
      obtain ⟨ax, cx, rfl, -, ⟨-, hmx⟩, -⟩ := id hr
      by_cases hxn : (x.length : Int) = (n : Int)
      · have hq : ((x.length : Int) != (n : Int)) = false := by rw [bne_eq_false_iff_eq]; exact hxn
        have HC : Hid (rowBad n x = x.any tnBad) := Lib.hid (by unfold rowBad; rw [decide_eq_true hxn]; rfl)
        have hcall := contFunc_tn _ x 94 #[] tnBad wr hr isFn_tab1 (fun y V _ => tab1_any y V)
        clear hxn hr
        go_wp2_with fail
        refine hcall.mono ?_
        rintro e w1 ⟨rfl, hb1⟩
        have HB := Lib.hid (hB.trans (hb1.mono hB.size))
        clear hcall hb1 hB
        cases hp : x.any tnBad with
        | true =>
          have HF : Hid (tabB l n = false) := Lib.hid (by unfold tabB; rw [HY.out (HC.out.trans hp)]; rfl)
          clear HS HY HC hp
          go_wp2
          go_ret
          exact ⟨ret_bool HF.out.symm, HB.out⟩
        | false =>
          have HN := HS.out (HC.out.trans hp)
          clear HS HY HC hp
          go_wp2
          go_roundw
          case rel => exact ⟨k + 1, by omega, by go_num, HN, HB.out⟩
          case measure => simp [intOf]; omega
      · have hq : ((x.length : Int) != (n : Int)) = true := by rw [bne_iff_ne]; exact hxn
        have HF : Hid (tabB l n = false) := Lib.hid (by unfold tabB; rw [HY.out (by unfold rowBad; rw [decide_eq_false hxn]; rfl)]; rfl)
        clear HS HY hxn hr
        go_wp2
        go_ret
        exact ⟨ret_bool HF.out.symm, hB⟩
    · obtain rfl : k = l.length := by omega
      have HF : Hid (tabB l n = decide ((l.length : Int) = (n : Int))) := Lib.hid (by
        have := hno.out
        rw [List.take_length] at this
        unfold tabB; rw [this]; rfl)
      clear hno hl
      go_wp2
      go_ret
      refine ⟨ret_bool ?_, hB⟩
      rw [HF.out]
      first | rfl | exact Bool.eq_iff_iff.2 (by simp)


set_option maxRecDepth 100000 in
theorem fart1_any (x : Art) (s : ByteArray) (p1 : Nat) (w : World) (h1 : Blk w p1 #[.string s] 9) :
    Calls Try.prog 93 #[.agg #[.string x.name, .int .i64 x.col, .int .i64 x.wt], .pointer (some ⟨p1, 0, none⟩)] w fun e w' => e = .returned (.bool ((fun x => eqS x.name s) x)) ∧ Below w.heap.size w w' := by
  have hb := below_box w (.cells #[.string x.name, .int .i64 x.col, .int .i64 x.wt] 57)
  have c1 := (h1.alloc (.cells #[.string x.name, .int .i64 x.col, .int .i64 x.wt] 57)).cell 0 _ rfl
  have l1 := h1.lt
  go_enter Try.func93, Try.ntmps93
  go_wp2
  go_ret
  exact ⟨ret_bool (by rfl), hb⟩
set_option maxHeartbeats 1000000 in
set_option maxRecDepth 100000 in
theorem findArticle_any (v : Value) (l : List Art) (s : ByteArray) (w : World) (hv : RArts w v l) :
    Calls Try.prog 87 #[v, .string s] w (IdxP_art w l (fun x => eqS x.name s)) := by
  have hmf : ∀ (fn : Fn) (first cap : Array Value) (w : World), (Instr.makeFunc fn first cap).run Try.prog w = .ok (.func fn first cap) w := fun _ _ _ _ => rfl
  have hA := below_box w (.cells #[.string s] 9)
  have h1 := Blk.new w #[.string s] 9
  go_enter Try.func87, Try.ntmps87
  go_wp2_with fail
  generalize w.alloc (.cells #[.string s] 9) = W2 at *
  refine (idxFunc_art _ l 93 #[.pointer (some ⟨w.heap.size, 0, none⟩)] (fun x => eqS x.name s) W2 (hv.mono (ext_of_below hA)) isFn_fart1 (fun x V hV => fart1_any x s _ V (h1.below hV h1.lt))).mono ?_
  rintro e w1 ⟨n, rfl, hn, hm, hb⟩
  have HB := Lib.hid (hA.trans (hb.mono hA.size))
  have HN := Lib.hid hn
  clear hb hA h1 hn
  go_wp2
  go_ret
  exact ⟨n, rfl, HN.out, hm, HB.out⟩

set_option maxRecDepth 100000 in
theorem ford1_any (x : Od) (s : Int) (p1 : Nat) (w : World) (h1 : Blk w p1 #[.int .i64 s] 3) :
    Calls Try.prog 97 #[.agg #[.int .i64 x.art, .int .i64 x.qty, .int .i64 x.due, .int .i64 x.pen], .pointer (some ⟨p1, 0, none⟩)] w fun e w' => e = .returned (.bool ((fun x => x.art == s) x)) ∧ Below w.heap.size w w' := by
  have hb := below_box w (.cells #[.int .i64 x.art, .int .i64 x.qty, .int .i64 x.due, .int .i64 x.pen] 55)
  have c1 := (h1.alloc (.cells #[.int .i64 x.art, .int .i64 x.qty, .int .i64 x.due, .int .i64 x.pen] 55)).cell 0 _ rfl
  have l1 := h1.lt
  go_enter Try.func97, Try.ntmps97
  go_wp2
  go_ret
  exact ⟨ret_bool (by rfl), hb⟩
set_option maxHeartbeats 1000000 in
set_option maxRecDepth 100000 in
theorem findOrder_any (v : Value) (l : List Od) (s : Int) (w : World) (hv : ROds w v l) :
    Calls Try.prog 89 #[v, .int .i64 s] w (IdxP_od w l (fun x => x.art == s)) := by
  have hmf : ∀ (fn : Fn) (first cap : Array Value) (w : World), (Instr.makeFunc fn first cap).run Try.prog w = .ok (.func fn first cap) w := fun _ _ _ _ => rfl
  have hA := below_box w (.cells #[.int .i64 s] 3)
  have h1 := Blk.new w #[.int .i64 s] 3
  go_enter Try.func89, Try.ntmps89
  go_wp2_with fail
  generalize w.alloc (.cells #[.int .i64 s] 3) = W2 at *
  refine (idxFunc_od _ l 97 #[.pointer (some ⟨w.heap.size, 0, none⟩)] (fun x => x.art == s) W2 (hv.mono (ext_of_below hA)) isFn_ford1 (fun x V hV => ford1_any x s _ V (h1.below hV h1.lt))).mono ?_
  rintro e w1 ⟨n, rfl, hn, hm, hb⟩
  have HB := Lib.hid (hA.trans (hb.mono hA.size))
  have HN := Lib.hid hn
  clear hb hA h1 hn
  go_wp2
  go_ret
  exact ⟨n, rfl, HN.out, hm, HB.out⟩

end Go.Proofs.Ytdffhkbncencgaa
