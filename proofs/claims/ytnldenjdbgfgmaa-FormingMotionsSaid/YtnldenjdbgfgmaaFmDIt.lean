/- The iterator over the distances of two motions: its contract; no statement is proved here. -/
import Derived.Test.YtnldenjdbgfgmaaFmDist
import Derived.Test.YtnldenjdbgfgmaaFmSIt
namespace Go.Proofs.Ytnldenjdbgfgmaa
open Go.RowKit Go.PlainAid
set_option linter.unusedVariables false
set_option linter.unusedSimpArgs false

theorem flatL_len {α β : Type} (f : α → List β) (n : Nat) (hn : ∀ x, (f x).length = n) : ∀ (l : List α), (l.flatMap f).length = l.length * n
  | [] => by simp
  | x :: l => by rw [List.flatMap_cons, List.length_append, hn, flatL_len f n hn l, List.length_cons, Nat.succ_mul]; omega
theorem flatL_at {α β : Type} (f : α → List β) (n : Nat) (hn : ∀ x, (f x).length = n) : ∀ (l : List α) (i j : Nat) (hi : i < l.length) (_ : j < n), (l.flatMap f)[i * n + j]? = (f (l[i]'hi))[j]?
  | [], i, j, hi, hj => by simp at hi
  | x :: l, 0, j, hi, hj => by
    rw [List.flatMap_cons, Nat.zero_mul, Nat.zero_add, List.getElem?_append_left (by rw [hn]; exact hj)]; rfl
  | x :: l, i + 1, j, hi, hj => by
    rw [List.flatMap_cons, Nat.succ_mul, List.getElem?_append_right (by rw [hn]; omega), hn, show i * n + n + j - n = i * n + j by omega, flatL_at f n hn l i j (by simpa using hi) hj]; rfl
def distY (c sh : Int) (x y : St) : List Rt := (List.range 4).map fun (u : Nat) => distQ x y (sh + ((u : Int) - 2) * c)
def distX (c sh : Int) (lb : List St) (x : St) : List Rt := lb.flatMap (distY c sh x)
def distL (c sh : Int) (la lb : List St) : List Rt := la.flatMap (distX c sh lb)
theorem distY_len (c sh : Int) (x y : St) : (distY c sh x y).length = 4 := by simp [distY]
theorem distX_len (c sh : Int) (lb : List St) (x : St) : (distX c sh lb x).length = lb.length * 4 := flatL_len _ 4 (distY_len c sh x) lb
theorem distL_len (c sh : Int) (la lb : List St) : (distL c sh la lb).length = la.length * (lb.length * 4) := flatL_len _ _ (distX_len c sh lb) la
theorem distL_at (c sh : Int) (la lb : List St) (k j u : Nat) (hk : k < la.length) (hj : j < lb.length) (hu : u < 4) : (distL c sh la lb)[k * (lb.length * 4) + (j * 4 + u)]? = some (distQ (la[k]'hk) (lb[j]'hj) (sh + ((u : Int) - 2) * c)) := by
  unfold distL
  rw [flatL_at _ _ (distX_len c sh lb) la k (j * 4 + u) hk (by omega)]
  unfold distX
  rw [flatL_at _ _ (distY_len c sh _) lb j u hj hu]
  unfold distY
  rw [List.getElem?_map, List.getElem?_range hu]; rfl
def encD (l : List Rt) : List (Array Value) := l.map fun r => #[rtV r]
theorem encD_len (l : List Rt) : (encD l).length = l.length := by simp [encD]
theorem encD_ix {l : List Rt} {k : Nat} {x : Array Value} (hx : (encD l)[k]? = some x) : ∃ r, l[k]? = some r ∧ x = #[rtV r] := by
  simp only [encD, List.getElem?_map, Option.map_eq_some_iff] at hx
  obtain ⟨r, h1, h2⟩ := hx
  exact ⟨r, h1, h2.symm⟩

set_option maxRecDepth 100000 in
theorem distances_any (c sh : Int) (aa ab : Option Addr) (na nb ca cb : Nat) (w : World) : Calls Try.prog 36 #[.int .i64 c, .slice aa na ca, .slice ab nb cb, .int .i64 sh] w fun e w' =>
    e = .returned (.func (.func 54) #[] #[.pointer (some ⟨w.heap.size + 1, 0, none⟩), .pointer (some ⟨w.heap.size + 1 + 1, 0, none⟩), .pointer (some ⟨w.heap.size + 1 + 1 + 1, 0, none⟩), .pointer (some ⟨w.heap.size, 0, none⟩)])
      ∧ w' = (((w.alloc (.cells #[.int .i64 c] 3)).alloc (.cells #[.slice aa na ca] 31)).alloc (.cells #[.slice ab nb cb] 31)).alloc (.cells #[.int .i64 sh] 3) := by
  have hmf : ∀ (fn : Fn) (first cap : Array Value) (w : World), (Instr.makeFunc fn first cap).run Try.prog w = .ok (.func fn first cap) w := fun _ _ _ _ => rfl
  go_enter Try.func36, Try.ntmps36
  go_wp2
  go_ret
  exact ⟨rfl, rfl⟩

attribute [local go_sem] Oper.semAt_some
set_option maxHeartbeats 4000000 in
set_option maxRecDepth 100000 in
theorem distIt_any (S : Nat → Prop) (n : Nat) (c sh : Int) (va vb : Value) (la lb : List St) (B0 B1 B2 B3 : Nat) (w : World)
    (hra : RSts (vis (fun k => ¬ S k) w) va la) (hrb : RSts (vis (fun k => ¬ S k) w) vb lb) (hoa : ∀ s, s ∈ la → StS s) (hob : ∀ s, s ∈ lb → StS s) (hc : 1 ≤ c ∧ c ≤ 3600) (hsh : 0 ≤ sh ∧ sh ≤ c)
    (hn0 : ¬ S B0) (hn1 : ¬ S B1) (hn2 : ¬ S B2) (hn3 : ¬ S B3) (hS : ∀ k, S k → k < w.heap.size)
    (hB0 : Blk w B0 #[va] 31) (hB1 : Blk w B1 #[vb] 31) (hB2 : Blk w B2 #[.int .i64 sh] 3) (hB3 : Blk w B3 #[.int .i64 c] 3) :
    SeqC (fun _ => False) S Fence.wide n Try.prog 54 #[.pointer (some ⟨B0, 0, none⟩), .pointer (some ⟨B1, 0, none⟩), .pointer (some ⟨B2, 0, none⟩), .pointer (some ⟨B3, 0, none⟩)] (encD (distL c sh la lb)) w := by
  intro lp J R W hW hJ hJT hY h0 hE
  rw [encD_len, distL_len] at hE
  have hWs := hW.size
  have b0 := (hW.blk hB0 hn0 hB0.lt).cell 0 _ rfl
  have l0 := hB0.lt
  have l1 := hB1.lt
  have l2 := hB2.lt
  have l3 := hB3.lt
  obtain ⟨aa, capa, rfl, -, ⟨-, hma⟩, hla⟩ := hra
  obtain ⟨ab, capb, rfl, -, ⟨-, hmb⟩, hlb⟩ := hrb
  have HLA := Lib.hid hla
  have HLB := Lib.hid hlb
  clear hla hlb
  have HOA := Lib.hid hoa
  have HOB := Lib.hid hob
  clear hoa hob
  refine callsIn_of_wp Try.func54 rfl trivial ?_ rfl
  simp only [Try.ntmps54, List.size_toArray, List.length_cons, List.length_nil, Nat.reduceAdd, Nat.reduceSub, Array.replicate_succ, Array.replicate_zero, List.push_toArray, List.append_toArray, List.nil_append, List.cons_append]
  gi_wp2
  gi_loopw [13] (fun i wr => ∃ (k : Nat), k ≤ la.length ∧ i = .int .i64 k ∧ J (k * (lb.length * 4)) wr ∧ BelS S w.heap.size w wr) (fun i _ => la.length - (intOf i).toNat)
  case atStart => exact ⟨0, Nat.zero_le _, rfl, by rw [Nat.zero_mul]; exact h0, hW⟩
  case round =>
    obtain ⟨k, hk, rfl, hJk, hB⟩ := hrel
    clear b0
    by_cases hlt : k < la.length
    · obtain ⟨b1, o1, rfl, ⟨q0, q1, q2, q3⟩, -, -⟩ := HLA.out k hlt
      have e1 := cell_lt (vis_cell.1 q0).2
      simp only at e1
      have x0 := hB.ext _ _ q0
      have x1 := hB.ext _ _ q1
      have x2 := hB.ext _ _ q2
      have x3 := hB.ext _ _ q3
      have hxo := HOA.out _ (List.getElem_mem hlt)
      have HDX : Hid (∀ j u (hj : j < lb.length) (hu : u < 4), (encD (distL c sh la lb))[k * (lb.length * 4) + (j * 4 + u)]? = some #[rtV (distQ (la[k]'hlt) (lb[j]'hj) (sh + ((u : Int) - 2) * c))]) := Lib.hid (fun j u hj hu => by
        unfold encD; rw [List.getElem?_map, distL_at c sh la lb k j u hlt hj hu]; rfl)
      clear q0 q1 q2 q3
      generalize la[k] = x at *
      have j1 : (0 : Int) ≤ (k : Int) := Int.natCast_nonneg _
      have j2 : (k : Int) < (la.length : Int) := by omega
      have hX := Blk.new wr #[.int .i64 x.a.n, .int .i64 x.a.d, .int .i64 x.b.n, .int .i64 x.b.d] 41
      have hbx := below_box wr (.cells #[.int .i64 x.a.n, .int .i64 x.a.d, .int .i64 x.b.n, .int .i64 x.b.d] 41)
      have hJx : J (k * (lb.length * 4)) (wr.alloc (.cells #[.int .i64 x.a.n, .int .i64 x.a.d, .int .i64 x.b.n, .int .i64 x.b.d] 41)) := ownf_below hJ hJk hbx
      have hBx : BelS S w.heap.size w (wr.alloc (.cells #[.int .i64 x.a.n, .int .i64 x.a.d, .int .i64 x.b.n, .int .i64 x.b.d] 41)) := hB.trans (BelS.of_below (hbx.mono hB.size))
      have hxS : ¬ S wr.heap.size := fun h => by have := hS _ h; have := hB.size; omega
      have HKP : Hid (k * (lb.length * 4) + lb.length * 4 = (k + 1) * (lb.length * 4)) := Lib.hid (by rw [Nat.succ_mul])
      clear hJk hbx
      generalize k * (lb.length * 4) = P at *
      have c1 := (hBx.blk hB1 hn1 l1).cell 0 _ rfl
      gi_wp2_with fail
      generalize hzx : wr.heap.size = N at *
      replace hzx := Lib.hid hzx
      generalize wr.alloc (.cells #[.int .i64 x.a.n, .int .i64 x.a.d, .int .i64 x.b.n, .int .i64 x.b.d] 41) = wx at *
      clear x0 x1 x2 x3
      gi_loopw [19] (fun i wr => ∃ (j : Nat), j ≤ lb.length ∧ i = .int .i64 j ∧ J (P + j * 4) wr ∧ BelS S w.heap.size w wr ∧ Blk wr N #[.int .i64 x.a.n, .int .i64 x.a.d, .int .i64 x.b.n, .int .i64 x.b.d] 41) (fun i _ => lb.length - (intOf i).toNat)
      case atStart => exact ⟨0, Nat.zero_le _, rfl, hJx, hBx, hX⟩
      case round =>
        obtain ⟨j, hj, rfl, hJj, hBm, hXm⟩ := hrel
        clear c1 hBx hJx hX
        by_cases hlt2 : j < lb.length
        · obtain ⟨b2, o2, rfl, ⟨q0, q1, q2, q3⟩, -, -⟩ := HLB.out j hlt2
          have e2 := cell_lt (vis_cell.1 q0).2
          simp only at e2
          have y0 := hBm.ext _ _ q0
          have y1 := hBm.ext _ _ q1
          have y2 := hBm.ext _ _ q2
          have y3 := hBm.ext _ _ q3
          have hyo := HOB.out _ (List.getElem_mem hlt2)
          have HDY : Hid (∀ u (hu : u < 4), (encD (distL c sh la lb))[P + (j * 4 + u)]? = some #[rtV (distQ x (lb[j]'hlt2) (sh + ((u : Int) - 2) * c))]) := Lib.hid (fun u hu => HDX.out j u hlt2 hu)
          clear q0 q1 q2 q3
          generalize lb[j] = y at *
          have i1 : (0 : Int) ≤ (j : Int) := Int.natCast_nonneg _
          have i2 : (j : Int) < (lb.length : Int) := by omega
          have hYn := Blk.new wr #[.int .i64 y.a.n, .int .i64 y.a.d, .int .i64 y.b.n, .int .i64 y.b.d] 41
          have hby := below_box wr (.cells #[.int .i64 y.a.n, .int .i64 y.a.d, .int .i64 y.b.n, .int .i64 y.b.d] 41)
          have hJy : J (P + j * 4) (wr.alloc (.cells #[.int .i64 y.a.n, .int .i64 y.a.d, .int .i64 y.b.n, .int .i64 y.b.d] 41)) := ownf_below hJ hJj hby
          have hBy : BelS S w.heap.size w (wr.alloc (.cells #[.int .i64 y.a.n, .int .i64 y.a.d, .int .i64 y.b.n, .int .i64 y.b.d] 41)) := hBm.trans (BelS.of_below (hby.mono hBm.size))
          have hyS : ¬ S wr.heap.size := fun h => by have := hS _ h; have := hBm.size; omega
          have hXy := hXm.alloc (.cells #[.int .i64 y.a.n, .int .i64 y.a.d, .int .i64 y.b.n, .int .i64 y.b.d] 41)
          clear hJj hby hXm
          gi_wp2_with fail
          generalize hzy : wr.heap.size = M at *
          replace hzy := Lib.hid hzy
          generalize wr.alloc (.cells #[.int .i64 y.a.n, .int .i64 y.a.d, .int .i64 y.b.n, .int .i64 y.b.d] 41) = wy at *
          clear y0 y1 y2 y3
          gi_loopw [10] (fun i wr => ∃ (u : Nat), u ≤ 4 ∧ i = .int .i64 ((u : Int) - 2) ∧ J (P + (j * 4 + u)) wr ∧ BelS S w.heap.size w wr ∧ Blk wr N #[.int .i64 x.a.n, .int .i64 x.a.d, .int .i64 x.b.n, .int .i64 x.b.d] 41 ∧ Blk wr M #[.int .i64 y.a.n, .int .i64 y.a.d, .int .i64 y.b.n, .int .i64 y.b.d] 41) (fun i _ => (2 - intOf i).toNat)
          case atStart => exact ⟨0, by omega, by simp, hJy, hBy, hXy, hYn⟩
          case round =>
            obtain ⟨u, hu, rfl, hJu, hBu, hXu, hYu⟩ := hrel
            clear hBy hJy hXy hYn
            obtain ⟨t, ht⟩ : ∃ t : Int, (u : Int) - 2 = t := ⟨_, rfl⟩
            have HT := Lib.hid ht
            by_cases hlt3 : u < 4
            · have hd := HDY.out u hlt3
              rw [ht] at hd ⊢
              have t1 : t ≤ 1 := by omega
              have t2 : -2 ≤ t := by omega
              have m1 := bd_mul (a := t) (b := c) (A := 2) (B := 3600) (by omega) (by omega) (by omega)
              have z1 := wrap_id (t * c) (by unfold I64; omega)
              have z2 := wrap_id (sh + t * c) (by unfold I64; omega)
              have z3 := wrap_id (t + 1) (by unfold I64; omega)
              have HD := fun V => distance_any x y (sh + t * c) V hxo hyo (by omega)
              have x0 := hXu.cell 0 _ rfl
              have x1 := hXu.cell 1 _ rfl
              have x2 := hXu.cell 2 _ rfl
              have x3 := hXu.cell 3 _ rfl
              have y0 := hYu.cell 0 _ rfl
              have y1 := hYu.cell 1 _ rfl
              have y2 := hYu.cell 2 _ rfl
              have y3 := hYu.cell 3 _ rfl
              have d2 := (hBu.blk hB2 hn2 l2).cell 0 _ rfl
              have d3 := (hBu.blk hB3 hn3 l3).cell 0 _ rfl
              clear m1 ht
              gi_wp2_with fail
              refine ⟨trivial, (fun hd => by simp [Fence.wide] at hd), callsIn_wide.2 ?_⟩
              refine (HD _).mono ?_
              rintro e w5 ⟨rfl, hb5⟩
              clear HD x0 x1 x2 x3 y0 y1 y2 y3 d2 d3
              have hJ5 := ownf_below hJ hJu hb5
              have hX5 := hXu.below hb5 hXu.lt
              have hY5 := hYu.below hb5 hYu.lt
              have hB5 := hBu.trans (BelS.of_below (hb5.mono hBu.size))
              obtain ⟨fn, tmps, assign, body, hy, hR⟩ := hY _ _ w5 hd (fun _ h => h.elim) hJ5
              clear hb5 hJ5 hJu hXu hYu
              unfold rtV at hy ⊢
              gi_wp2
              refine ⟨(fun hd => by simp [Fence.wide] at hd), hR.mono ?_⟩
              rintro e W3 (⟨rfl, hJ3, hb3, hc3⟩ | ⟨rfl, hR3⟩ | ⟨ch, rfl, hR3⟩)
              · have hX3 := hc3.blk hX5 hxS
                have hY3 := hc3.blk hY5 hyS
                have hB3 := hB5.trans hb3
                clear hb3 hc3 hX5 hY5 hB5 hy hR
                gi_wp2
                go_roundw
                case rel =>
                  refine ⟨u + 1, by omega, ?_, hJ3, hB3, hX3, hY3⟩
                  rw [show (((u + 1 : Nat) : Int) - 2) = t + 1 by have := HT.out; omega]
                case measure => simp [intOf]; omega
              · clear hX5 hY5 hB5 hy hR
                gi_wp2
                refine bodyPost_ret (results_none rfl _ _ _) rfl ?_
                exact hR3
              · clear hX5 hY5 hB5 hy hR
                gi_wp2
                exact ⟨rfl, hR3⟩
            · have hue : u = 4 := by omega
              subst hue
              have ht2 : ¬ t ≤ 1 := by omega
              rw [ht]
              clear ht HT hYu
              gi_wp2
              go_roundw
              case rel => exact ⟨j + 1, by omega, by go_num, by rw [Nat.succ_mul]; exact hJu, hBu, hXu⟩
              case measure => simp [intOf]; omega
        · have hje : j = lb.length := by omega
          subst hje
          clear hXm
          gi_wp2
          go_roundw
          case rel => exact ⟨k + 1, by omega, by go_num, by rw [← HKP.out]; exact hJj, hBm⟩
          case measure => simp [intOf]; omega
    · have hke : k = la.length := by omega
      subst hke
      gi_wp2
      go_end0
      exact hE _ hJk
end Go.Proofs.Ytnldenjdbgfgmaa
