/- The iterator over a path's legs: its contract; no statement is proved here. -/
import Derived.Test.YtnldenjdbgfgmaaFmCheck
import Derived.Test.YtnldenjdbgfgmaaFmLeg
import Derived.Test.YtnldenjdbgfgmaaRangeC
import Derived.Test.YtnldenjdbgfgmaaTillF
namespace Go.Proofs.Ytnldenjdbgfgmaa
open Go.RowKit Go.PlainAid
set_option linter.unusedVariables false
set_option linter.unusedSimpArgs false

def nL (l : List Sp) : Nat := max l.length 1
def lgA (h : Int) (l : List Sp) (i : Nat) : Sp := if l.length = 0 then ⟨0, h⟩ else kt l i
def lgB (c h : Int) (l : List Sp) (i : Nat) : Sp := if i + 1 < l.length then kt l (i + 1) else ⟨c, if l.length = 0 then h else (kt l 0).hi⟩
def encL (c h : Int) (l : List Sp) : List (Array Value) := (List.range (nL l)).map fun i => #[lgV (lgA h l i) (lgB c h l i)]
theorem encL_len (c h : Int) (l : List Sp) : (encL c h l).length = nL l := by simp [encL]
theorem encL_at {c h : Int} {l : List Sp} {k : Nat} (hk : k < nL l) : (encL c h l)[k]? = some #[lgV (lgA h l k) (lgB c h l k)] := by
  simp [encL, List.getElem?_map, List.getElem?_range hk]
theorem encL_ix {c h : Int} {l : List Sp} {k : Nat} {x : Array Value} (hx : (encL c h l)[k]? = some x) : k < nL l ∧ x = #[lgV (lgA h l k) (lgB c h l k)] := by
  have hk : k < nL l := by
    have := (List.getElem?_eq_some_iff.1 hx).1
    rw [encL_len] at this; exact this
  exact ⟨hk, by rw [encL_at hk] at hx; exact (Option.some.inj hx).symm⟩
theorem grownn (W : World) (o : Obj) : W.grownBy (W.alloc o) none := World.grownBy_alloc W o none
def lastL (h : Int) (l : List Sp) (k : Nat) : Sp := if k = 0 then ⟨0, h⟩ else kt l (k - 1)

set_option maxRecDepth 100000 in
theorem legs_any (c h : Int) (v : Value) (w : World) : Calls Try.prog 47 #[ptV c h v] w fun e w' =>
    e = .returned (.func (.func 61) #[] #[.pointer (some ⟨w.heap.size, 0, none⟩)]) ∧ w' = w.alloc (.cells #[.int .i64 c, .int .i64 h, v] 55) := by
  have hmf : ∀ (fn : Fn) (first cap : Array Value) (w : World), (Instr.makeFunc fn first cap).run Try.prog w = .ok (.func fn first cap) w := fun _ _ _ _ => rfl
  unfold ptV
  go_enter Try.func47, Try.ntmps47
  go_wp2
  go_ret
  exact ⟨rfl, rfl⟩

attribute [local go_sem] Oper.semAt_some
set_option maxHeartbeats 4000000 in
set_option maxRecDepth 100000 in
theorem legIt_any (S : Nat → Prop) (F : Fence) (n : Nat) (hF : F.fn 61) (hro : F.round = none) (hd : F.depth = none) (c h : Int) (a : Option Addr) (cap : Nat) (l : List Sp) (Bn : Nat) (w : World)
    (hr : RSps (vis (fun k => ¬ S k) w) (.slice a l.length cap) l) (hSB : ¬ S Bn) (hS : ∀ k, S k → k < w.heap.size) (hBn : Blk w Bn #[.int .i64 c, .int .i64 h, .slice a l.length cap] 55) :
    SeqC (fun j => j = 0) S F n Try.prog 61 #[.pointer (some ⟨Bn, 0, none⟩)] (encL c h l) w := by
  intro lp J R W hW hJ hJT hY h0 hE
  rw [encL_len] at hE
  have hWb := hW.blk hBn hSB hBn.lt
  have f0 := hWb.cell 0 _ rfl
  have f1 := hWb.cell 1 _ rfl
  have f2 := hWb.cell 2 _ rfl
  have hBl := hBn.lt
  have hWs := hW.size
  obtain ⟨aa, cap', he, -, ⟨-, hm⟩, hl⟩ := hr
  simp only [Value.slice.injEq, true_and] at he
  obtain ⟨rfl, rfl⟩ := he
  have HL : Hid (∀ i (hi : i < l.length), ∃ b off, a = some ⟨b, off, none⟩ ∧ RSp (vis (fun k => ¬ S k) w) ⟨b, off + i * 2, none⟩ (kt l i)) := Lib.hid (fun i hi => by
    obtain ⟨b, off, h1, h2⟩ := hl i hi
    rw [kt_eq hi] at h2
    exact ⟨b, off, h1, h2⟩)
  clear hl
  have hSL : ¬ S W.heap.size := fun x => by have := hS _ x; omega
  have hA0 : J 0 (W.alloc (.cells #[.int .i64 0, .int .i64 h] 47)) := hJ 0 W _ none h0 (grownn _ _) (fun r e => by cases e)
  have hL0 := Blk.new W #[.int .i64 0, .int .i64 h] 47
  have hW0 : BelS S w.heap.size w (W.alloc (.cells #[.int .i64 0, .int .i64 h] 47)) := hW.trans (BelS.of_below ((below_box W _).mono hWs))
  have hWb1 := hWb.alloc (.cells #[.int .i64 0, .int .i64 h] 47)
  have f3 := hWb1.cell 0 _ rfl
  have f4 := hWb1.cell 1 _ rfl
  have f5 := hWb1.cell 2 _ rfl
  have hBW : Bn < W.heap.size := by omega
  refine callsIn_of_wp Try.func61 rfl hF ?_ hro
  simp only [Try.ntmps61, List.size_toArray, List.length_cons, List.length_nil, Nat.reduceAdd, Nat.reduceSub, Array.replicate_succ, Array.replicate_zero, List.push_toArray, List.append_toArray, List.nil_append, List.cons_append]
  gi_wp2
  gi_loopw [13] (fun i wr => ∃ (k : Nat), k ≤ l.length ∧ i = .int .i64 k ∧ J (k - 1) wr ∧ Blk wr W.heap.size #[.int .i64 (lastL h l k).lo, .int .i64 (lastL h l k).hi] 47 ∧ BelS S w.heap.size w wr ∧ W.heap.size + 1 ≤ wr.heap.size) (fun i _ => l.length - (intOf i).toNat)
  case atStart => exact ⟨0, Nat.zero_le _, rfl, hA0, hL0, hW0, by simp⟩
  case round =>
    obtain ⟨k, hk, rfl, hJk, hLk, hB, hsz⟩ := hrel
    by_cases hlt : k < l.length
    · obtain ⟨b1, o1, he, q0, q1, i0, i1⟩ := HL.out k hlt
      subst he
      have l1 := cell_lt (vis_cell.1 q0).2
      simp only at l1
      have x0 := hB.ext _ _ q0
      have x1 := hB.ext _ _ q1
      have j1 : (0 : Int) ≤ (k : Int) := Int.natCast_nonneg _
      have j2 : (k : Int) < (l.length : Int) := by omega
      have HLA : Hid (∀ V, J (k - 1) V → 0 < k → W.heap.size < V.heap.size → YieldAt F (n - 1) Try.prog lp #[.agg #[.int .i64 (lastL h l k).lo, .int .i64 (lastL h l k).hi, .int .i64 (kt l k).lo, .int .i64 (kt l k).hi]] V fun e W' => (e = .returned (.bool true) ∧ J k W' ∧ BelS S w.heap.size V W' ∧ CK S V W') ∨ (e = .returned (.bool false) ∧ R (.returned (.tuple #[])) W') ∨ (∃ ch, e = .panicked ch ∧ R e W')) := Lib.hid (fun V hV hk0 hVs => by
        have h1 := hY (k - 1) _ V (encL_at (show k - 1 < nL l by unfold nL; omega)) (fun j hj => by omega) hV
        have e1 : lgA h l (k - 1) = lastL h l k := by unfold lgA lastL; rw [if_neg (by omega), if_neg (by omega)]
        have e2 : lgB c h l (k - 1) = kt l k := by unfold lgB; rw [show k - 1 + 1 = k by omega, if_pos hlt]
        have e3 : k - 1 + 1 = k := by omega
        rw [e1, e2, e3] at h1
        exact h1)
      have HLS : Hid (lastL h l (k + 1) = kt l k) := Lib.hid (by unfold lastL; rw [if_neg (by omega)]; rfl)
      have hX := Blk.new wr #[.int .i64 (kt l k).lo, .int .i64 (kt l k).hi] 47
      have hLx := hLk.alloc (.cells #[.int .i64 (kt l k).lo, .int .i64 (kt l k).hi] 47)
      have hJx : J (k - 1) (wr.alloc (.cells #[.int .i64 (kt l k).lo, .int .i64 (kt l k).hi] 47)) := hJ (k - 1) wr _ none hJk (grownn _ _) (fun r e => by cases e)
      have hBx : BelS S w.heap.size w (wr.alloc (.cells #[.int .i64 (kt l k).lo, .int .i64 (kt l k).hi] 47)) := hB.trans (BelS.of_below ((below_box wr _).mono hB.size))
      have hsx : wr.heap.size + 1 = (wr.alloc (.cells #[.int .i64 (kt l k).lo, .int .i64 (kt l k).hi] 47)).heap.size := by simp
      generalize kt l k = x at *
      generalize lastL h l k = y at *
      have v0 := hLx.cell 0 _ rfl
      have v1 := hLx.cell 1 _ rfl
      have v2 := hLx.frozen 0
      have v3 := hLx.frozen 1
      have u0 := hX.cell 0 _ rfl
      have u1 := hX.cell 1 _ rfl
      clear q0 q1 hY hE hJk hLk
      have hw0 : w.heap.size ≤ W.heap.size := hWs
      have HSX : Hid (¬ S wr.heap.size) := Lib.hid (fun z => by have := hS _ z; omega)
      by_cases hk0 : k = 0
      · subst hk0
        simp only [Nat.zero_mul, Nat.add_zero] at x0 x1
        have HJ2 : Hid (J 0 (((wr.alloc (.cells #[.int .i64 x.lo, .int .i64 x.hi] 47)).setCell ⟨W.heap.size, 0, none⟩ (.int .i64 x.lo)).setCell ⟨W.heap.size, 1, none⟩ (.int .i64 x.hi))) := Lib.hid (hJT _ _ _ _ (hJT _ _ _ _ hJx (by simp) (by simp)) (by simp) (by simp))
        have HL2 : Hid (Blk (((wr.alloc (.cells #[.int .i64 x.lo, .int .i64 x.hi] 47)).setCell ⟨W.heap.size, 0, none⟩ (.int .i64 x.lo)).setCell ⟨W.heap.size, 1, none⟩ (.int .i64 x.hi)) W.heap.size #[.int .i64 x.lo, .int .i64 x.hi] 47) := Lib.hid (by simpa using (hLx.set 0 (.int .i64 x.lo)).set 1 (.int .i64 x.hi))
        have HB2 : Hid (BelS S w.heap.size w (((wr.alloc (.cells #[.int .i64 x.lo, .int .i64 x.hi] 47)).setCell ⟨W.heap.size, 0, none⟩ (.int .i64 x.lo)).setCell ⟨W.heap.size, 1, none⟩ (.int .i64 x.hi))) := Lib.hid ((hBx.set ⟨W.heap.size, 0, none⟩ _ (.inl hw0)).set ⟨W.heap.size, 1, none⟩ _ (.inl hw0))
        clear hJx hLx hBx hX HLA HSX hB
        gi_wp2
        refine ⟨fun f e => (by cases e), ?_⟩
        gi_wp2
        go_roundw
        case rel => exact ⟨1, by omega, by go_num, HJ2.out, by rw [HLS.out]; exact HL2.out, HB2.out, by simp; omega⟩
        case measure => simp [intOf]; omega
      · have hk1 : (0 : Int) < (k : Int) := by omega
        obtain ⟨fn, tmps, assign, body, hy, hR⟩ := HLA.out _ hJx (by omega) (by simp only [World.size_alloc]; omega)
        clear HLA
        gi_wp2
        refine hR.mono ?_
        rintro e W3 (⟨rfl, hJ3, hb3, hc3⟩ | ⟨rfl, hR3⟩ | ⟨ch, rfl, hR3⟩)
        · have hL3 := hc3.blk hLx hSL
          have hX3 := hc3.blk hX HSX.out
          have hB3 := hBx.trans hb3
          have hz3 : W.heap.size + 1 ≤ W3.heap.size := by have := hb3.size; omega
          have HJ2 : Hid (J k ((W3.setCell ⟨W.heap.size, 0, none⟩ (.int .i64 x.lo)).setCell ⟨W.heap.size, 1, none⟩ (.int .i64 x.hi))) := Lib.hid (hJT _ _ _ _ (hJT _ _ _ _ hJ3 (by simp) (by simp)) (by simp) (by simp))
          have HL2 : Hid (Blk ((W3.setCell ⟨W.heap.size, 0, none⟩ (.int .i64 x.lo)).setCell ⟨W.heap.size, 1, none⟩ (.int .i64 x.hi)) W.heap.size #[.int .i64 x.lo, .int .i64 x.hi] 47) := Lib.hid (by simpa using (hL3.set 0 (.int .i64 x.lo)).set 1 (.int .i64 x.hi))
          have HB2 : Hid (BelS S w.heap.size w ((W3.setCell ⟨W.heap.size, 0, none⟩ (.int .i64 x.lo)).setCell ⟨W.heap.size, 1, none⟩ (.int .i64 x.hi))) := Lib.hid ((hB3.set ⟨W.heap.size, 0, none⟩ _ (.inl hw0)).set ⟨W.heap.size, 1, none⟩ _ (.inl hw0))
          clear v0 v1 v2 v3 u0 u1 x0 x1 hy hR hBx hLx hX hJx
          have v0 := hL3.cell 0 _ rfl
          have v1 := hL3.cell 1 _ rfl
          have v2 := hL3.frozen 0
          have v3 := hL3.frozen 1
          have u0 := hX3.cell 0 _ rfl
          have u1 := hX3.cell 1 _ rfl
          clear hL3 hX3 hJ3 hB3 hb3 hc3 hB
          gi_wp2
          go_roundw
          case rel => exact ⟨k + 1, by omega, by go_num, HJ2.out, by rw [HLS.out]; exact HL2.out, HB2.out, by simp; omega⟩
          case measure => simp [intOf]; omega
        · clear hy hR hBx hLx hX hJx hB
          gi_wp2
          refine bodyPost_ret (results_none rfl _ _ _) rfl ?_
          exact hR3
        · clear hy hR hBx hLx hX hJx hB
          gi_wp2
          exact ⟨rfl, hR3⟩
    · have hke : k = l.length := by omega
      subst hke
      have HLA : Hid (∀ V, J (l.length - 1) V → W.heap.size < V.heap.size → YieldAt F (n - 1) Try.prog lp #[.agg #[.int .i64 (lastL h l l.length).lo, .int .i64 (lastL h l l.length).hi, .int .i64 c, .int .i64 (if l.length = 0 then h else (kt l 0).hi)]] V fun e W' => (e = .returned (.bool true) ∧ R (.returned (.tuple #[])) W') ∨ (e = .returned (.bool false) ∧ R (.returned (.tuple #[])) W') ∨ (∃ ch, e = .panicked ch ∧ R e W')) := Lib.hid (fun V hV hVs => by
        have h1 := hY (l.length - 1) _ V (encL_at (show l.length - 1 < nL l by unfold nL; omega)) (fun j hj => by omega) hV
        have e1 : lgA h l (l.length - 1) = lastL h l l.length := by
          unfold lgA lastL
          by_cases h0 : l.length = 0
          · simp only [h0, if_true]
          · simp only [h0, if_false]
        have e2 : lgB c h l (l.length - 1) = ⟨c, if l.length = 0 then h else (kt l 0).hi⟩ := by unfold lgB; rw [if_neg (by omega)]
        have e3 : l.length - 1 + 1 = nL l := by unfold nL; omega
        rw [e1, e2, e3] at h1
        obtain ⟨fn, tmps, assign, body, hy, hR⟩ := h1
        exact ⟨fn, tmps, assign, body, hy, hR.mono fun e W' hh => by
          rcases hh with ⟨rfl, hj, -⟩ | hh
          · exact .inl ⟨rfl, hE _ hj⟩
          · exact .inr hh⟩)
      have hS1 : BelS S w.heap.size w wr := hB
      have hWk := hB.blk hBn hSB hBl
      have e0 := hWk.cell 0 _ rfl
      have e2 := hWk.cell 2 _ rfl
      have d0 := hLk.cell 0 _ rfl
      have d1 := hLk.cell 1 _ rfl
      clear f0 f1 f2 f3 f4 f5 hWb hWb1
      by_cases h0 : l.length = 0
      · have hx0 : lastL h l l.length = ⟨0, h⟩ := by unfold lastL; rw [if_pos h0]
        rw [hx0] at hLk d0 d1 HLA
        rw [if_pos h0] at HLA
        have HJ2 : Hid (J (l.length - 1) (wr.alloc (.cells #[.int .i64 0, .int .i64 h] 47))) := Lib.hid (hJ _ wr _ none hJk (grownn _ _) (fun r e => by cases e))
        have hn0 : ¬ (0 : Int) < (l.length : Int) := by omega
        have g0 := (hWk.alloc (.cells #[.int .i64 0, .int .i64 h] 47)).cell 0 _ rfl
        have g2 := (hWk.alloc (.cells #[.int .i64 0, .int .i64 h] 47)).cell 2 _ rfl
        have g3 := (hLk.alloc (.cells #[.int .i64 0, .int .i64 h] 47)).cell 0 _ rfl
        have g4 := (hLk.alloc (.cells #[.int .i64 0, .int .i64 h] 47)).cell 1 _ rfl
        have g5 := (Blk.new wr #[.int .i64 0, .int .i64 h] 47).cell 1 _ rfl
        obtain ⟨fn, tmps, assign, body, hy, hR⟩ := HLA.out _ HJ2.out (by simp only [World.size_alloc]; omega)
        clear HLA hJk hLk hY hE hS1 hB hWk h0
        gi_wp2
        refine hR.mono ?_
        rintro e W3 (⟨rfl, hR3⟩ | ⟨rfl, hR3⟩ | ⟨ch, rfl, hR3⟩)
        · clear hy hR
          gi_wp2
          go_end0
          exact hR3
        · clear hy hR
          gi_wp2
          go_end0
          exact hR3
        · clear hy hR
          gi_wp2
          exact ⟨rfl, hR3⟩
      · have hx0 : (if l.length = 0 then h else (kt l 0).hi) = (kt l 0).hi := if_neg h0
        rw [hx0] at HLA
        obtain ⟨b1, o1, he, q0, q1, i0, i1⟩ := HL.out 0 (by omega)
        subst he
        simp only [Nat.zero_mul, Nat.add_zero] at q0 q1
        have l1 := cell_lt (vis_cell.1 q0).2
        simp only at l1
        have j2 : (0 : Int) < (l.length : Int) := by omega
        generalize kt l 0 = x at *
        generalize lastL h l l.length = y at *
        have x0 := hB.ext _ _ q0
        have x1 := hB.ext _ _ q1
        have HJ2 : Hid (J (l.length - 1) (wr.alloc (.cells #[.int .i64 x.lo, .int .i64 x.hi] 47))) := Lib.hid (hJ _ wr _ none hJk (grownn _ _) (fun r e => by cases e))
        have r0 := ext_of_below (below_box wr (.cells #[.int .i64 y.lo, .int .i64 y.hi] 47)) _ _ x0
        have r1 := ext_of_below (below_box wr (.cells #[.int .i64 y.lo, .int .i64 y.hi] 47)) _ _ x1
        have r2 := (hWk.alloc (.cells #[.int .i64 y.lo, .int .i64 y.hi] 47)).cell 2 _ rfl
        have g0 := (hWk.alloc (.cells #[.int .i64 x.lo, .int .i64 x.hi] 47)).cell 0 _ rfl
        have g3 := (hLk.alloc (.cells #[.int .i64 x.lo, .int .i64 x.hi] 47)).cell 0 _ rfl
        have g4 := (hLk.alloc (.cells #[.int .i64 x.lo, .int .i64 x.hi] 47)).cell 1 _ rfl
        have g5 := (Blk.new wr #[.int .i64 x.lo, .int .i64 x.hi] 47).cell 1 _ rfl
        obtain ⟨fn, tmps, assign, body, hy, hR⟩ := HLA.out _ HJ2.out (by simp only [World.size_alloc]; omega)
        clear HLA hJk hLk hY hE hS1 hB hWk h0 q0 q1
        gi_wp2
        refine hR.mono ?_
        rintro e W3 (⟨rfl, hR3⟩ | ⟨rfl, hR3⟩ | ⟨ch, rfl, hR3⟩)
        · clear hy hR
          gi_wp2
          go_end0
          exact hR3
        · clear hy hR
          gi_wp2
          go_end0
          exact hR3
        · clear hy hR
          gi_wp2
          exact ⟨rfl, hR3⟩
end Go.Proofs.Ytnldenjdbgfgmaa
