/- How close two motions come; no statement is proved here. -/
import Derived.Test.YtnldenjdbgfgmaaFmDIt
import Derived.Test.YtnldenjdbgfgmaaFmCov
namespace Go.Proofs.Ytnldenjdbgfgmaa
open Go.RowKit Go.PlainAid
set_option linter.unusedVariables false
set_option linter.unusedSimpArgs false
attribute [local go_sem] Oper.semAt_some

theorem distQ_bd {x y : St} {t : Int} (hx : StS x) (hy : StS y) (ht : -20000 ≤ t ∧ t ≤ 20000) : (0 ≤ (distQ x y t).n ∧ (distQ x y t).n ≤ 48000000000000000) ∧ (1 ≤ (distQ x y t).d ∧ (distQ x y t).d ≤ 1000000000000) := by
  have hxa := hx.1; have hxb := hx.2; have hya := hy.1; have hyb := hy.2
  have s1 := sz_plus hya ht
  have s2 := sz_plus hyb ht
  have n1 := hxa.1; have n2 := hxa.2; have n3 := hxb.1; have n4 := hxb.2; have n5 := hya.1; have n6 := hya.2; have n7 := hyb.1; have n8 := hyb.2
  have s3 := sz_minus (p := y.a.n + t * y.a.d) (q := y.a.d) (a := x.b.n) (b := x.b.d) (by omega) (by omega) (by omega) (by omega)
  have s4 := sz_minus (p := x.a.n) (q := x.a.d) (a := y.b.n + t * y.b.d) (b := y.b.d) (by omega) (by omega) (by omega) (by omega)
  have e1 : aheadN x y t ≤ 48000000000000000 := by unfold aheadN; omega
  have e2 : behindN x y t ≤ 48000000000000000 := by unfold behindN; omega
  unfold distQ
  split
  · dsimp only; omega
  · split <;> dsimp only <;> omega
def RtG (r : Rt) : Prop := (0 ≤ r.n ∧ r.n ≤ 48000000000000000) ∧ (1 ≤ r.d ∧ r.d ≤ 1000000000000)
theorem distL_bd {c sh : Int} {la lb : List St} (hoa : ∀ s, s ∈ la → StS s) (hob : ∀ s, s ∈ lb → StS s) (hc : 1 ≤ c ∧ c ≤ 3600) (hsh : 0 ≤ sh ∧ sh ≤ c) : ∀ r, r ∈ distL c sh la lb → RtG r := by
  intro r hr
  simp only [distL, distX, distY, List.mem_flatMap, List.mem_map, List.mem_range] at hr
  obtain ⟨x, hx, y, hy, u, hu, rfl⟩ := hr
  have m1 := bd_mul (a := (u : Int) - 2) (b := c) (A := 2) (B := 3600) (by omega) (by omega) (by omega)
  exact distQ_bd (hoa x hx) (hob y hy) (by omega)

/-- the least of the distances so far. -/
def stepG (o : Option Rt) (d : Rt) : Option Rt := match o with
  | none => some d
  | some m => if m.n * d.d ≤ d.n * m.d then some m else some d
def leastG (l : List Rt) : Option Rt := l.foldl stepG none
theorem leastG_take {l : List Rt} {k : Nat} {r : Rt} (h : l[k]? = some r) : leastG (l.take (k + 1)) = stepG (leastG (l.take k)) r := by
  unfold leastG
  rw [List.take_add_one, h, List.foldl_append]; rfl
theorem leastG_mem : ∀ (l : List Rt) (o : Option Rt) (m : Rt), l.foldl stepG o = some m → o = some m ∨ m ∈ l
  | [], o, m, h => .inl h
  | d :: l, o, m, h => by
    rcases leastG_mem l _ m h with h1 | h1
    · cases o with
      | none => simp only [stepG, Option.some.injEq] at h1; subst h1; exact .inr (List.mem_cons_self ..)
      | some q =>
        simp only [stepG] at h1
        split at h1
        · exact .inl h1
        · simp only [Option.some.injEq] at h1; subst h1; exact .inr (List.mem_cons_self ..)
    · exact .inr (List.mem_cons_of_mem _ h1)
def lsN (o : Option Rt) : Rt := o.getD ⟨0, 1⟩
def GapOk (c sh : Int) (la lb : List St) : Prop := (1 ≤ c ∧ c ≤ 3600) ∧ (0 ≤ sh ∧ sh ≤ c - 1) ∧ areS c la = true ∧ areS c lb = true
/-- what Gap answers. -/
def GapA (c sh : Int) (la lb : List St) (e : Ending) : Prop :=
  (GapOk c sh la lb ∧ e = .returned (.tuple #[rtV (rat (lsN (leastG (distL c sh la lb))).n (lsN (leastG (distL c sh la lb))).d), .bool (leastG (distL c sh la lb)).isNone, .int .i64 0]))
  ∨ (¬ GapOk c sh la lb ∧ e = .returned (.tuple #[rtV ⟨0, 0⟩, .bool false, .int .i64 1]))

theorem store3 {w W : World} {N : Nat} {T1 T2 : TypeId} {u v z : Value} (hA : Below w.heap.size w W) (h8 : Blk W N #[u, v] T1) (h9 : Blk W (N + 1) #[z] T2) (hN : w.heap.size ≤ N) (x y b : Value) :
    W.cell? ⟨N, 0, none⟩ = some u ∧ W.cell? ⟨N, 1, none⟩ = some v ∧ W.frozen? ⟨N, 0, none⟩ = false ∧ W.frozen? ⟨N, 1, none⟩ = false ∧ W.cell? ⟨N + 1, 0, none⟩ = some z ∧ W.frozen? ⟨N + 1, 0, none⟩ = false
      ∧ Hid (Below w.heap.size w (((W.setCell ⟨N, 0, none⟩ x).setCell ⟨N, 1, none⟩ y).setCell ⟨N + 1, 0, none⟩ b)) ∧ Hid (Blk (((W.setCell ⟨N, 0, none⟩ x).setCell ⟨N, 1, none⟩ y).setCell ⟨N + 1, 0, none⟩ b) N #[x, y] T1) ∧ Hid (Blk (((W.setCell ⟨N, 0, none⟩ x).setCell ⟨N, 1, none⟩ y).setCell ⟨N + 1, 0, none⟩ b) (N + 1) #[b] T2) := by
  have hR : Blk ((W.setCell ⟨N, 0, none⟩ x).setCell ⟨N, 1, none⟩ y) N #[x, y] T1 := by simpa using (h8.set 0 x).set 1 y
  have h91 := (h9.other ⟨N, 0, none⟩ x (by simp only; omega)).other ⟨N, 1, none⟩ y (by simp only; omega)
  exact ⟨h8.cell 0 _ rfl, h8.cell 1 _ rfl, h8.frozen 0, h8.frozen 1, h9.cell 0 _ rfl, h9.frozen 0, Lib.hid (((hA.setCell (by simp only; omega) _).setCell (by simp only; omega) _).setCell (by simp only; omega) _), Lib.hid (hR.other _ _ (by simp only; omega)), Lib.hid (by simpa using h91.set 0 b)⟩
/-- a postcondition without its panics. -/
def NormOf (Q : Exit → Act → World → Prop) : Exit → Act → World → Prop
  | .normal, a, w => Q .normal a w
  | _, _, _ => False
theorem reg_norm {F : Fence} {n : Nat} {P : Program} {c : Code} {Q : Exit → Act → World → Prop} {a : Act} {w : World} (h : c.wpIn F n P (NormOf Q) a w) : c.wpIn F n P Q a w :=
  wpIn_mono h (by rintro e a w h; cases e <;> first | exact h | exact h.elim)
/-- what the loop keeps. -/
structure GapI (w : World) (Q : Nat) (o : Option Rt) (X : World) : Prop where
  r : Blk X w.heap.size #[.int .i64 0, .int .i64 0] 24
  b : Blk X (w.heap.size + 1) #[.bool o.isNone] 4
  q : Blk X Q #[.int .i64 (lsN o).n, .int .i64 (lsN o).d] 67
  bel : Below w.heap.size w X
theorem GapI.own {w : World} {Q : Nat} {o : Option Rt} {X Y : World} {row : Option Nat} (h : GapI w Q o X) (hg : X.grownBy Y row) (hr : ∀ r, row = some r → w.heap.size ≤ r ∧ ∃ o : Obj, X.heap[r]? = some o ∧ o.isCells = false) : GapI w Q o Y :=
  ⟨(blk_own (β := Unit) _ _ (fun _ => #[.int .i64 0, .int .i64 0])) () X Y row h.r hg (fun r e => (hr r e).2), (blk_own (β := Unit) _ _ (fun _ => #[.bool o.isNone])) () X Y row h.b hg (fun r e => (hr r e).2), (blk_own (β := Unit) _ _ (fun _ => #[.int .i64 (lsN o).n, .int .i64 (lsN o).d])) () X Y row h.q hg (fun r e => (hr r e).2), ownFrom_below (β := Unit) (Nat.le_refl _) (Nat.le_refl _) () X Y row h.bel hg hr⟩
theorem GapI.below {w : World} {Q : Nat} {o : Option Rt} {X Y : World} (h : GapI w Q o X) (hb : Below X.heap.size X Y) : GapI w Q o Y := ⟨h.r.below hb h.r.lt, h.b.below hb h.b.lt, h.q.below hb h.q.lt, h.bel.trans (hb.mono h.bel.size)⟩
/-- the round's stores. -/
theorem GapI.put {w : World} {Q : Nat} {o : Option Rt} {X : World} (h : GapI w Q o X) (hQ : w.heap.size + 1 < Q) (d : Rt) :
    Hid (GapI w Q (some d) (((X.setCell ⟨Q, 0, none⟩ (.int .i64 d.n)).setCell ⟨Q, 1, none⟩ (.int .i64 d.d)).setCell ⟨w.heap.size + 1, 0, none⟩ (.bool false))) := Lib.hid ⟨
  ((h.r.other _ _ (by simp only; omega)).other _ _ (by simp only; omega)).other _ _ (by simp only; omega),
  by simpa using ((h.b.other ⟨Q, 0, none⟩ (.int .i64 d.n) (by simp only; omega)).other ⟨Q, 1, none⟩ (.int .i64 d.d) (by simp only; omega)).set 0 (.bool false),
  (by simpa using (h.q.set 0 (.int .i64 d.n)).set 1 (.int .i64 d.d) : Blk ((X.setCell ⟨Q, 0, none⟩ (.int .i64 d.n)).setCell ⟨Q, 1, none⟩ (.int .i64 d.d)) Q #[.int .i64 d.n, .int .i64 d.d] 67).other _ _ (by simp only; omega),
  ((h.bel.setCell (by simp only; omega) _).setCell (by simp only; omega) _).setCell (by simp only; omega) _⟩

set_option maxHeartbeats 8000000 in
set_option maxRecDepth 100000 in
theorem gap_any (c sh : Int) (aa ab : Option Addr) (ca cb : Nat) (la lb : List St) (w : World) (hra : RSts w (.slice aa la.length ca) la) (hrb : RSts w (.slice ab lb.length cb) lb) (hic : I64 c) :
    Calls Try.prog 14 #[.int .i64 c, .slice aa la.length ca, .slice ab lb.length cb, .int .i64 sh] w fun e w' => GapA c sh la lb e ∧ Below w.heap.size w w' := by
  have hA : Below w.heap.size w ((w.alloc (.cells #[.int .i64 0, .int .i64 0] 24)).alloc (.cells #[.bool false] 4)) := (below_box w _).alloc (by simp) _
  have h8 := (Blk.new w #[.int .i64 0, .int .i64 0] 24).alloc (.cells #[.bool false] 4)
  have h9 := Blk.new (w.alloc (.cells #[.int .i64 0, .int .i64 0] 24)) #[.bool false] 4
  have hz : ((w.alloc (.cells #[.int .i64 0, .int .i64 0] 24)).alloc (.cells #[.bool false] 4)).heap.size = w.heap.size + 2 := by simp
  replace hz := And.intro (Nat.le_of_eq hz) (Nat.le_of_eq hz.symm)
  simp only [World.size_alloc] at h9
  refine (callsIn_wide (n := 9)).1 ?_
  refine callsIn_of_wp_marks Try.func14 rfl trivial ?_ rfl
  simp only [Try.ntmps14, List.size_toArray, List.length_cons, List.length_nil, Nat.reduceAdd, Nat.reduceSub, Array.replicate_succ, Array.replicate_zero, List.push_toArray, List.append_toArray, List.nil_append, List.cons_append]
  gi_wp2_with fail
  refine ⟨trivial, callsIn_wide.2 ?_⟩
  refine (isCycle_any c _).mono ?_
  rintro e w' ⟨rfl, hw'⟩
  obtain rfl := hw'.symm
  clear hw'
  generalize ((w.alloc (.cells #[.int .i64 0, .int .i64 0] 24)).alloc (.cells #[.bool false] 4)) = w2 at *
  by_cases hq1 : 1 ≤ c ∧ c ≤ 3600
  case neg =>
    have g1 : btw c 1 3600 = false := by simp [btw]; omega
    have HNO : ¬ GapOk c sh la lb := fun h => hq1 h.1
    rw [g1]
    have HW : Hid (GapA c sh la lb (.returned (.tuple #[rtV ⟨0, 0⟩, .bool false, .int .i64 1]))) := Lib.hid (.inr ⟨HNO, rfl⟩)
    obtain ⟨r0, r1, f0, f1, r9, f9, HE, C0, C9⟩ := store3 hA h8 h9 (Nat.le_refl _) (.int .i64 0) (.int .i64 0) (.bool false)
    clear hA h8 h9 hra hrb HNO hz
    gi_wp2
    refine ⟨trivial, ?_⟩
    gi_wp2
    refine ⟨trivial, ?_⟩
    gi_wp2
    refine ⟨trivial, ?_⟩
    gi_wp2
    have c0 := C0.out.cell 0 _ rfl
    have c1 := C0.out.cell 1 _ rfl
    have c9 := C9.out.cell 0 _ rfl
    have hE := HE.out
    clear C0 C9 HE r0 r1 f0 f1 r9 f9
    generalize (((w2.setCell ⟨w.heap.size, 0, none⟩ (.int .i64 0)).setCell ⟨w.heap.size, 1, none⟩ (.int .i64 0)).setCell ⟨w.heap.size + 1, 0, none⟩ (.bool false)) = WE at c0 c1 c9 hE ⊢
    refine ⟨.tuple #[rtV ⟨0, 0⟩, .bool false, .int .i64 1], ?_, HW.out, hE⟩
    simp [results, Try.results14, go_sem, c0, c1, c9, rtV]
  have g1 : btw c 1 3600 = true := by simp [btw]; omega
  rw [g1]
  have z0 := wrap_id (c - 1) (by unfold I64; omega)
  gi_wp2_with fail
  refine ⟨trivial, callsIn_wide.2 ?_⟩
  refine (between_any sh 0 (c - 1) _).mono ?_
  rintro e w' ⟨rfl, hw'⟩
  subst hw'
  by_cases hq2 : 0 ≤ sh ∧ sh ≤ c - 1
  case neg =>
    have g2 : btw sh 0 (c - 1) = false := by simp [btw]; omega
    have HNO : ¬ GapOk c sh la lb := fun h => hq2 h.2.1
    rw [g2]
    clear z0
    have HW : Hid (GapA c sh la lb (.returned (.tuple #[rtV ⟨0, 0⟩, .bool false, .int .i64 1]))) := Lib.hid (.inr ⟨HNO, rfl⟩)
    obtain ⟨r0, r1, f0, f1, r9, f9, HE, C0, C9⟩ := store3 hA h8 h9 (Nat.le_refl _) (.int .i64 0) (.int .i64 0) (.bool false)
    clear hA h8 h9 hra hrb HNO hz
    gi_wp2
    refine ⟨trivial, ?_⟩
    gi_wp2
    refine ⟨trivial, ?_⟩
    gi_wp2
    have c0 := C0.out.cell 0 _ rfl
    have c1 := C0.out.cell 1 _ rfl
    have c9 := C9.out.cell 0 _ rfl
    have hE := HE.out
    clear C0 C9 HE r0 r1 f0 f1 r9 f9
    generalize (((w'.setCell ⟨w.heap.size, 0, none⟩ (.int .i64 0)).setCell ⟨w.heap.size, 1, none⟩ (.int .i64 0)).setCell ⟨w.heap.size + 1, 0, none⟩ (.bool false)) = WE at c0 c1 c9 hE ⊢
    refine ⟨.tuple #[rtV ⟨0, 0⟩, .bool false, .int .i64 1], ?_, HW.out, hE⟩
    simp [results, Try.results14, go_sem, c0, c1, c9, rtV]
  have g2 : btw sh 0 (c - 1) = true := by simp [btw]; omega
  rw [g2]
  clear z0 g1 g2
  have hraw := hra.mono (ext_of_below hA)
  gi_wp2_with fail
  refine ⟨trivial, callsIn_wide.2 ?_⟩
  refine (areS_any c _ la _ hraw hq1).mono ?_
  rintro e w3 ⟨rfl, hb3⟩
  replace hA := hA.trans (hb3.mono hA.size)
  replace h8 := h8.below hb3 h8.lt
  replace h9 := h9.below hb3 h9.lt
  have hz3 := hb3.size
  clear hraw hb3
  by_cases hq3 : areS c la = true
  case neg =>
    have HNO : ¬ GapOk c sh la lb := fun h => hq3 h.2.2.1
    rw [Bool.not_eq_true _ |>.mp hq3]
    have HW : Hid (GapA c sh la lb (.returned (.tuple #[rtV ⟨0, 0⟩, .bool false, .int .i64 1]))) := Lib.hid (.inr ⟨HNO, rfl⟩)
    obtain ⟨r0, r1, f0, f1, r9, f9, HE, C0, C9⟩ := store3 hA h8 h9 (Nat.le_refl _) (.int .i64 0) (.int .i64 0) (.bool false)
    clear hA h8 h9 hra hrb HNO hz hz3
    gi_wp2
    refine ⟨trivial, ?_⟩
    gi_wp2
    have c0 := C0.out.cell 0 _ rfl
    have c1 := C0.out.cell 1 _ rfl
    have c9 := C9.out.cell 0 _ rfl
    have hE := HE.out
    clear C0 C9 HE r0 r1 f0 f1 r9 f9
    generalize (((w3.setCell ⟨w.heap.size, 0, none⟩ (.int .i64 0)).setCell ⟨w.heap.size, 1, none⟩ (.int .i64 0)).setCell ⟨w.heap.size + 1, 0, none⟩ (.bool false)) = WE at c0 c1 c9 hE ⊢
    refine ⟨.tuple #[rtV ⟨0, 0⟩, .bool false, .int .i64 1], ?_, HW.out, hE⟩
    simp [results, Try.results14, go_sem, c0, c1, c9, rtV]
  rw [hq3]
  have hrbw := hrb.mono (ext_of_below hA)
  gi_wp2_with fail
  refine ⟨trivial, callsIn_wide.2 ?_⟩
  refine (areS_any c _ lb _ hrbw hq1).mono ?_
  rintro e w4 ⟨rfl, hb4⟩
  replace hA := hA.trans (hb4.mono hA.size)
  replace h8 := h8.below hb4 h8.lt
  replace h9 := h9.below hb4 h9.lt
  have hz4 := hb4.size
  clear hrbw hb4
  by_cases hq4 : areS c lb = true
  case neg =>
    have HNO : ¬ GapOk c sh la lb := fun h => hq4 h.2.2.2
    rw [Bool.not_eq_true _ |>.mp hq4]
    have HW : Hid (GapA c sh la lb (.returned (.tuple #[rtV ⟨0, 0⟩, .bool false, .int .i64 1]))) := Lib.hid (.inr ⟨HNO, rfl⟩)
    obtain ⟨r0, r1, f0, f1, r9, f9, HE, C0, C9⟩ := store3 hA h8 h9 (Nat.le_refl _) (.int .i64 0) (.int .i64 0) (.bool false)
    clear hA h8 h9 hra hrb HNO hz hz3 hz4
    gi_wp2
    have c0 := C0.out.cell 0 _ rfl
    have c1 := C0.out.cell 1 _ rfl
    have c9 := C9.out.cell 0 _ rfl
    have hE := HE.out
    clear C0 C9 HE r0 r1 f0 f1 r9 f9
    generalize (((w4.setCell ⟨w.heap.size, 0, none⟩ (.int .i64 0)).setCell ⟨w.heap.size, 1, none⟩ (.int .i64 0)).setCell ⟨w.heap.size + 1, 0, none⟩ (.bool false)) = WE at c0 c1 c9 hE ⊢
    refine ⟨.tuple #[rtV ⟨0, 0⟩, .bool false, .int .i64 1], ?_, HW.out, hE⟩
    simp [results, Try.results14, go_sem, c0, c1, c9, rtV]
  rw [hq4]
  gi_wp2_with fail
  refine ⟨trivial, callsIn_wide.2 ?_⟩
  refine (whole_any 0 _).mono ?_
  rintro e w5 ⟨rfl, hb5⟩
  replace hA := hA.trans (hb5.mono hA.size)
  replace h8 := h8.below hb5 h8.lt
  replace h9 := h9.below hb5 h9.lt
  have hz5 := hb5.size
  clear hb5
  have h9a := h9.alloc (.cells #[.int .i64 0, .int .i64 1] 67)
  have r9 := h9a.cell 0 _ rfl
  have f9 := h9a.frozen 0
  have h97 : Blk ((w5.alloc (.cells #[.int .i64 0, .int .i64 1] 67)).setCell ⟨w.heap.size + 1, 0, none⟩ (.bool true)) (w.heap.size + 1) #[.bool true] 4 := by simpa using h9a.set 0 (.bool true)
  have h87 := (h8.alloc (.cells #[.int .i64 0, .int .i64 1] 67)).other ⟨w.heap.size + 1, 0, none⟩ (.bool true) (by simp only; omega)
  have hQ7 := (Blk.new w5 #[.int .i64 0, .int .i64 1] 67).other ⟨w.heap.size + 1, 0, none⟩ (.bool true) (by simp only; omega)
  have hA7 := (hA.alloc hA.size (.cells #[.int .i64 0, .int .i64 1] 67)).setCell (p := ⟨w.heap.size + 1, 0, none⟩) (by simp only; omega) (.bool true)
  have hz7 : ((w5.alloc (.cells #[.int .i64 0, .int .i64 1] 67)).setCell ⟨w.heap.size + 1, 0, none⟩ (.bool true)).heap.size = w5.heap.size + 1 := by simp
  replace hz7 := And.intro (Nat.le_of_eq hz7) (Nat.le_of_eq hz7.symm)
  clear h9a h8 h9 hA
  gi_wp2_with fail
  generalize ((w5.alloc (.cells #[.int .i64 0, .int .i64 1] 67)).setCell ⟨w.heap.size + 1, 0, none⟩ (.bool true)) = w7 at *
  clear r9 f9
  refine ⟨trivial, callsIn_wide.2 ?_⟩
  refine (distances_any c sh aa ab la.length lb.length ca cb w7).mono ?_
  rintro e w8 ⟨rfl, hw'⟩
  obtain rfl := hw'.symm
  clear hw'
  gi_wp2_with fail
  have hQw : w.heap.size + 2 ≤ w5.heap.size := by omega
  generalize hQq : w5.heap.size = Q at *
  clear hQq hz hz3 hz4 hz5
  have hA8 := (((hA7.alloc hA7.size (.cells #[.int .i64 c] 3)).alloc (by have := hA7.size; simp only [World.size_alloc]; omega) (.cells #[.slice aa la.length ca] 31)).alloc (by have := hA7.size; simp only [World.size_alloc]; omega) (.cells #[.slice ab lb.length cb] 31)).alloc (by have := hA7.size; simp only [World.size_alloc]; omega) (.cells #[.int .i64 sh] 3)
  have h88 := (((h87.alloc (.cells #[.int .i64 c] 3)).alloc (.cells #[.slice aa la.length ca] 31)).alloc (.cells #[.slice ab lb.length cb] 31)).alloc (.cells #[.int .i64 sh] 3)
  have h98 := (((h97.alloc (.cells #[.int .i64 c] 3)).alloc (.cells #[.slice aa la.length ca] 31)).alloc (.cells #[.slice ab lb.length cb] 31)).alloc (.cells #[.int .i64 sh] 3)
  have hQ8 := (((hQ7.alloc (.cells #[.int .i64 c] 3)).alloc (.cells #[.slice aa la.length ca] 31)).alloc (.cells #[.slice ab lb.length cb] 31)).alloc (.cells #[.int .i64 sh] 3)
  have k3 := (((Blk.new w7 #[.int .i64 c] 3).alloc (.cells #[.slice aa la.length ca] 31)).alloc (.cells #[.slice ab lb.length cb] 31)).alloc (.cells #[.int .i64 sh] 3)
  have k0 := ((Blk.new (w7.alloc (.cells #[.int .i64 c] 3)) #[.slice aa la.length ca] 31).alloc (.cells #[.slice ab lb.length cb] 31)).alloc (.cells #[.int .i64 sh] 3)
  have k1 := (Blk.new ((w7.alloc (.cells #[.int .i64 c] 3)).alloc (.cells #[.slice aa la.length ca] 31)) #[.slice ab lb.length cb] 31).alloc (.cells #[.int .i64 sh] 3)
  have k2 := Blk.new (((w7.alloc (.cells #[.int .i64 c] 3)).alloc (.cells #[.slice aa la.length ca] 31)).alloc (.cells #[.slice ab lb.length cb] 31)) #[.int .i64 sh] 3
  have hz8 : ((((w7.alloc (.cells #[.int .i64 c] 3)).alloc (.cells #[.slice aa la.length ca] 31)).alloc (.cells #[.slice ab lb.length cb] 31)).alloc (.cells #[.int .i64 sh] 3)).heap.size = w7.heap.size + 4 := by simp
  replace hz8 := And.intro (Nat.le_of_eq hz8) (Nat.le_of_eq hz8.symm)
  simp only [World.size_alloc] at k0 k1 k2
  clear hA7 h87 h97 hQ7
  generalize ((((w7.alloc (.cells #[.int .i64 c] 3)).alloc (.cells #[.slice aa la.length ca] 31)).alloc (.cells #[.slice ab lb.length cb] 31)).alloc (.cells #[.int .i64 sh] 3)) = w8 at *
  have hGI : GapI w Q (leastG ((distL c sh la lb).take 0)) w8 := ⟨h88, h98, hQ8, hA8⟩
  clear h88 h98 hQ8
  have hoa : ∀ s, s ∈ la → StS s := fun s hs => (of_decide_eq_true hq3 s hs).sized hq1
  have hob : ∀ s, s ∈ lb → StS s := fun s hs => (of_decide_eq_true hq4 s hs).sized hq1
  have HBD := distL_bd hoa hob hq1 (show 0 ≤ sh ∧ sh ≤ c by omega)
  have hLG : ∀ k m, leastG ((distL c sh la lb).take k) = some m → RtG m := fun k m h => by
    rcases leastG_mem _ _ _ h with h1 | h1
    · cases h1
    · exact HBD m (List.mem_of_mem_take h1)
  have hra8 : RSts (vis (fun k => ¬ (k = w.heap.size + 1 ∨ k = Q)) w8) (.slice aa la.length ca) la := hra.mono (ext_vis_all (ext_of_below hA8) (fun k hk => by omega))
  have hrb8 : RSts (vis (fun k => ¬ (k = w.heap.size + 1 ∨ k = Q)) w8) (.slice ab lb.length cb) lb := hrb.mono (ext_vis_all (ext_of_below hA8) (fun k hk => by omega))
  have hN8 := hA8.size
  clear hra hrb hA8
  refine wpIn_range_d (fun _ => False) (fun k => k = w.heap.size + 1 ∨ k = Q) rfl (by rintro k (h | h) <;> omega) (by simp [Fence.wide]) (gf := 54) (lb := #[.pointer (some ⟨w7.heap.size + 1, 0, none⟩), .pointer (some ⟨w7.heap.size + 1 + 1, 0, none⟩), .pointer (some ⟨w7.heap.size + 1 + 1 + 1, 0, none⟩), .pointer (some ⟨w7.heap.size, 0, none⟩)]) rfl trivial (enters_of Try.func54 (by kernel_rfl) rfl)
    (distIt_any (fun k => k = w.heap.size + 1 ∨ k = Q) _ c sh _ _ la lb _ _ _ _ w8 hra8 hrb8 hoa hob hq1 (by omega) (by omega) (by omega) (by omega) (by omega) (by rintro k (h | h) <;> omega) k0 k1 k2 k3).toD (fun k x hx => by obtain ⟨_, _, rfl⟩ := encD_ix hx; rfl)
    (fun k X => GapI w Q (leastG ((distL c sh la lb).take k)) X)
    (fun _ _ => False)
    ?hI (fun _ _ _ _ _ hs _ _ => hs.elim) (fun _ _ _ _ _ _ h => h.elim) hGI
    (fun x a' X => ∃ Bx vs, w8.heap.size ≤ Bx ∧ x = #[.agg vs] ∧ Blk X Bx vs 67 ∧ a' = { tmps := #[(.int .i64 c), (.slice aa la.length ca), (.slice ab lb.length cb), (.int .i64 sh), undef, undef, undef, undef, (.pointer (some ⟨w.heap.size, 0, none⟩)), (.pointer (some ⟨w.heap.size + 1, 0, none⟩)), (.int .i64 0), (.pointer (some ⟨Q, 0, none⟩)), (.pointer (some ⟨Bx, 0, none⟩)), (.int .i64 c), (.bool true), (.bool false), (.bool false), (.int .i64 sh), (.int .i64 c), (.int .i64 (c - 1)), (.bool true), (.bool false), (.bool false), (.bool false), (.int .i64 c), (.slice aa la.length ca), (.bool true), (.bool false), (.bool false), (.bool false), (.int .i64 c), (.slice ab lb.length cb), (.bool true), (.bool false), (.bool false), undef, (.agg #[.int .i64 0, .int .i64 1]), (.int .i64 c), (.slice aa la.length ca), (.slice ab lb.length cb), (.int .i64 sh), (.func (.func 54) #[] #[.pointer (some ⟨w7.heap.size + 1, 0, none⟩), .pointer (some ⟨w7.heap.size + 1 + 1, 0, none⟩), .pointer (some ⟨w7.heap.size + 1 + 1 + 1, 0, none⟩), .pointer (some ⟨w7.heap.size, 0, none⟩)]), (.agg vs), undef, undef, undef, undef, undef, undef, undef, undef, undef, undef, undef], defers := [] })
    ?hAx ?assign ?body ?done ?stop
  case stop => exact fun D cc X _ h => h.elim
  case hI =>
    rintro k X Y row h hg hr
    exact h.own hg (fun r e => ⟨by have := (hr r e).1; omega, (hr r e).2⟩)
  case hAx =>
    rintro x a' k X Y row ⟨Bx, vs, h1, h2, h3, h4⟩ hg hr
    exact ⟨Bx, vs, h1, h2, (blk_own (β := Unit) Bx _ (fun _ => vs)) () X Y row h3 hg (fun r e => (hr r e).2), h4⟩
  case assign =>
    rintro j k x X KK hx hXs h1 hK
    obtain ⟨y, hy, rfl⟩ := encD_ix hx
    clear hx
    unfold rtV at hK ⊢
    have hXb := below_box X (.cells #[.int .i64 y.n, .int .i64 y.d] 67)
    have H1 := Lib.hid (h1.below hXb)
    have HS := Lib.hid (BelS.of_below (S := fun k => k = w.heap.size + 1 ∨ k = Q) hXb)
    have HN := Lib.hid (Blk.new X #[.int .i64 y.n, .int .i64 y.d] 67)
    clear h1 hXb hLG
    gi_wp2
    exact hK _ _ HS.out H1.out ⟨X.heap.size, _, hXs, rfl, HN.out, rfl⟩
  case body =>
    rintro j k x a' X hx hXs - h1 ⟨Bx, vs, hBx, he, hX, ha⟩
    dsimp only at ha
    subst ha
    obtain ⟨d, hd, rfl⟩ := encD_ix hx
    unfold rtV at he
    simp only [Array.mk.injEq, List.cons.injEq, and_true, Value.agg.injEq] at he
    subst he
    have hst := leastG_take hd
    have hdb := HBD d (List.mem_of_getElem? hd)
    have hlg := hLG k
    rw [hst]
    clear hst hd hx HBD hLG
    generalize leastG ((distL c sh la lb).take k) = O at *
    have e0 := hX.cell 0 _ rfl
    have e1 := hX.cell 1 _ rfl
    have b0 := h1.b.cell 0 _ rfl
    have b1 := h1.b.frozen 0
    have q0 := h1.q.cell 0 _ rfl
    have q1 := h1.q.cell 1 _ rfl
    have q2 := h1.q.frozen 0
    have q3 := h1.q.frozen 1
    have hQN : Q < X.heap.size := h1.q.lt
    cases O with
    | none =>
      have HP := h1.put (by omega) d
      have HB : Hid (BelS (fun k => k = w.heap.size + 1 ∨ k = Q) X.heap.size X (((X.setCell ⟨Q, 0, none⟩ (.int .i64 d.n)).setCell ⟨Q, 1, none⟩ (.int .i64 d.d)).setCell ⟨w.heap.size + 1, 0, none⟩ (.bool false))) := Lib.hid ((((BelS.refl _ _ _).set _ _ (.inr (.inr rfl))).set _ _ (.inr (.inr rfl))).set _ _ (.inr (.inl rfl)))
      clear h1 hX hlg
      simp only [lsN, Option.getD_none, Option.isNone_none] at b0 q0 q1
      gi_wp2
      refine ⟨trivial, ?_⟩
      gi_wp2
      exact ⟨HB.out, HP.out⟩
    | some m =>
      have hmb := hlg m rfl
      obtain ⟨n1, n2⟩ := hmb
      obtain ⟨n3, n4⟩ := hdb
      simp only [lsN, Option.getD_some, Option.isNone_some] at b0 q0 q1
      have HCv := fun V => covers_any d.n d.d m.n m.d V (by omega) (by omega) (by omega) (by omega)
      clear hlg
      obtain ⟨Z, hZ⟩ : ∃ Z, stepG (some m) d = Z := ⟨_, rfl⟩
      rw [hZ]
      have HZ := Lib.hid hZ
      clear hZ
      gi_wp2_with fail
      refine ⟨trivial, (CallsIn.inRound j (callsIn_wide.2 (HCv _))).mono ?_⟩
      rintro e w9 ⟨rfl, hb9⟩
      have h19 := h1.below hb9
      have hX9 := hX.below hb9 hX.lt
      have HB9 : BelS (fun k => k = w.heap.size + 1 ∨ k = Q) X.heap.size X w9 := BelS.of_below hb9
      clear h1 hX hb9 e0 e1 b0 b1 q0 q1 q2 q3 HCv
      by_cases hcv : m.n * d.d ≤ d.n * m.d
      · have hS1 : stepG (some m) d = some m := by simp only [stepG]; rw [if_pos hcv]
        rw [decide_eq_true hcv]
        have hzz := HZ.out
        rw [hS1] at hzz
        subst hzz
        clear hS1 hcv HZ
        gi_wp2
        all_goals exact ⟨HB9, h19⟩
      · have hS1 : stepG (some m) d = some d := by simp only [stepG]; rw [if_neg hcv]
        rw [decide_eq_false hcv]
        have hzz := HZ.out
        rw [hS1] at hzz
        subst hzz
        clear hS1 hcv HZ
        have e0 := hX9.cell 0 _ rfl
        have e1 := hX9.cell 1 _ rfl
        have b0 := h19.b.cell 0 _ rfl
        have b1 := h19.b.frozen 0
        have q0 := h19.q.cell 0 _ rfl
        have q1 := h19.q.cell 1 _ rfl
        have q2 := h19.q.frozen 0
        have q3 := h19.q.frozen 1
        have hQ9 : Q < w9.heap.size := h19.q.lt
        have HP := h19.put (by omega) d
        have HB : Hid (BelS (fun k => k = w.heap.size + 1 ∨ k = Q) X.heap.size X (((w9.setCell ⟨Q, 0, none⟩ (.int .i64 d.n)).setCell ⟨Q, 1, none⟩ (.int .i64 d.d)).setCell ⟨w.heap.size + 1, 0, none⟩ (.bool false))) := Lib.hid (((HB9.set _ _ (.inr (.inr rfl))).set _ _ (.inr (.inr rfl))).set _ _ (.inr (.inl rfl)))
        clear h19 hX9 HB9
        gi_wp2
        exact ⟨HB.out, HP.out⟩
  case done =>
    rintro D X hD h1 hKD
    rw [encD_len, List.take_length] at h1
    have hlg := hLG (distL c sh la lb).length
    rw [List.take_length] at hlg
    have HW : ∀ O, leastG (distL c sh la lb) = O → Hid (GapA c sh la lb (.returned (.tuple #[rtV (rat (lsN O).n (lsN O).d), .bool O.isNone, .int .i64 0]))) := fun O h => Lib.hid (.inl ⟨⟨hq1, hq2, hq3, hq4⟩, by rw [h]⟩)
    replace HW := HW _ rfl
    clear hLG HBD hoa hob hra8 hrb8 hGI
    generalize leastG (distL c sh la lb) = O at *
    have hmb : RtG (lsN O) := by
      cases O with
      | none => exact ⟨by unfold lsN; simp, by unfold lsN; simp⟩
      | some m => exact hlg m rfl
    clear hlg
    generalize hM : lsN O = M at *
    generalize hB0 : O.isNone = B at *
    obtain ⟨n1, n2⟩ := hmb
    have HRat := fun V => ratio_any M.n M.d V (by omega) (by omega)
    obtain ⟨R, hR⟩ : ∃ R, rat M.n M.d = R := ⟨_, rfl⟩
    rw [hR] at HRat HW
    unfold rtV at HRat
    obtain ⟨hr1, hb1, hq1', hbel⟩ := h1
    rw [hM] at hq1'
    rw [hB0] at hb1
    have D0 : Below X.heap.size X X.drew := (Below.refl _ _).drew
    have hrD := hr1.below D0 hr1.lt
    have hbD := hb1.below D0 hb1.lt
    have hqD := hq1'.below D0 hq1'.lt
    have hbelD := hbel.trans (D0.mono hbel.size)
    have hDW : D < X.heap.size := (Array.getElem?_eq_some_iff.1 hKD).1
    have hKDD : X.drew.heap[D]? = some (.deferred (some [])) := (D0.block D hDW).trans hKD
    have hDWD : D < X.drew.heap.size := Nat.lt_of_lt_of_le hDW D0.size
    clear hr1 hb1 hq1' hbel D0 hKD hDW hM hB0 hR
    have HKD := Lib.hid hKDD
    have HrD := Lib.hid hrD
    have HbD := Lib.hid hbD
    have HqD := Lib.hid hqD
    have HbelD := Lib.hid hbelD
    clear hKDD hrD hbelD
    gi_wp2_with fail
    refine reg_norm ?_
    refine wpIn_region_till (fun w' : World => w'.cell? ⟨Q, 0, none⟩ = some (.int .i64 M.n) ∧ w'.cell? ⟨Q, 1, none⟩ = some (.int .i64 M.d) ∧ w'.cell? ⟨w.heap.size + 1, 0, none⟩ = some (.bool B)) 5 (by kernel_rfl) (by kernel_rfl) (fun ⟨_, _, h⟩ => h) ⟨hqD.cell 0 _ rfl, hqD.cell 1 _ rfl, hbD.cell 0 _ rfl⟩ (fun hHeld => ?_)
    clear hqD hbD
    generalize X.drew = wd at *
    refine Till.take 0 (some 51) (v := ?_) rfl rfl (by kernel_rfl) (by kernel_rfl) (by kernel_rfl) (by kernel_rfl) (fun _ _ _ h => h) (Or.inl ⟨by rfl, ?_⟩) (by assumption) ?_
    rotate_left
    · (intro w hSw; (try dsimp only at hSw); go_simp; try with_reducible rfl)
    try simp only [Act.put, List.setIfInBounds_toArray, List.set_cons_zero, List.set_cons_succ]
    refine Till.take 2 (some 53) (v := ?_) rfl rfl (by kernel_rfl) (by kernel_rfl) (by kernel_rfl) (by kernel_rfl) (fun _ _ _ h => h) (Or.inl ⟨by rfl, ?_⟩) (by assumption) ?_
    rotate_left
    · (intro w hSw; (try dsimp only at hSw); go_simp; try with_reducible rfl)
    try simp only [Act.put, List.setIfInBounds_toArray, List.set_cons_zero, List.set_cons_succ]
    refine Till.one 1 rfl (by kernel_rfl) (fun K hK => ?_)
    go_simp
    go_at_call 38
    refine (HRat _).mono ?_
    rintro e v1 ⟨rfl, hb⟩
    have hr3 := HrD.out.below hb HrD.out.lt
    have hb3 := HbD.out.below hb HbD.out.lt
    have hq3' := HqD.out.below hb HqD.out.lt
    have hbel3 := HbelD.out.trans (hb.mono HbelD.out.size)
    have hK3 := (hb.block D hDWD).trans HKD.out
    refine hK.out _ _ (fun _ => ⟨hq3'.cell 0 _ rfl, hq3'.cell 1 _ rfl, hb3.cell 0 _ rfl⟩) (fun hHeld1 => ?_)
    clear hK K hb HrD HbD HqD HbelD HKD HRat
    try simp only [Act.put, List.setIfInBounds_toArray, List.set_cons_zero, List.set_cons_succ]
    obtain ⟨r0, r1, f0, f1, r9, f9, HE, C0, C9⟩ := store3 hbel3 hr3 hb3 (Nat.le_refl _) (.int .i64 R.n) (.int .i64 R.d) (.bool B)
    have HK3 : Hid ((((v1.setCell ⟨w.heap.size, 0, none⟩ (.int .i64 R.n)).setCell ⟨w.heap.size, 1, none⟩ (.int .i64 R.d)).setCell ⟨w.heap.size + 1, 0, none⟩ (.bool B)).heap[D]? = some (.deferred (some []))) := Lib.hid ((Below.heap_setCell _ _ _ _ (by simp only; omega)).trans ((Below.heap_setCell _ _ _ _ (by simp only; omega)).trans ((Below.heap_setCell _ _ _ _ (by simp only; omega)).trans hK3)))
    have hqA := (hq3'.other ⟨w.heap.size, 0, none⟩ (.int .i64 R.n) (by simp only; omega)).other ⟨w.heap.size, 1, none⟩ (.int .i64 R.d) (by simp only; omega)
    have hbA := (hb3.other ⟨w.heap.size, 0, none⟩ (.int .i64 R.n) (by simp only; omega)).other ⟨w.heap.size, 1, none⟩ (.int .i64 R.d) (by simp only; omega)
    have hS4 : Hid ((fun w' : World => w'.cell? ⟨Q, 0, none⟩ = some (.int .i64 M.n) ∧ w'.cell? ⟨Q, 1, none⟩ = some (.int .i64 M.d) ∧ w'.cell? ⟨w.heap.size + 1, 0, none⟩ = some (.bool B)) ((v1.setCell ⟨w.heap.size, 0, none⟩ (.int .i64 R.n)).setCell ⟨w.heap.size, 1, none⟩ (.int .i64 R.d))) := Lib.hid ⟨hqA.cell 0 _ rfl, hqA.cell 1 _ rfl, hbA.cell 0 _ rfl⟩
    have hqB := hqA.other ⟨w.heap.size + 1, 0, none⟩ (.bool B) (by simp only; omega)
    have hS5 : Hid ((fun w' : World => w'.cell? ⟨Q, 0, none⟩ = some (.int .i64 M.n) ∧ w'.cell? ⟨Q, 1, none⟩ = some (.int .i64 M.d) ∧ w'.cell? ⟨w.heap.size + 1, 0, none⟩ = some (.bool B)) (((v1.setCell ⟨w.heap.size, 0, none⟩ (.int .i64 R.n)).setCell ⟨w.heap.size, 1, none⟩ (.int .i64 R.d)).setCell ⟨w.heap.size + 1, 0, none⟩ (.bool B))) := Lib.hid ⟨hqB.cell 0 _ rfl, hqB.cell 1 _ rfl, C9.out.cell 0 _ rfl⟩
    clear hr3 hb3 hq3' hbel3 hK3 hqA hbA hqB hHeld1 hHeld
    refine Till.one 3 rfl (by kernel_rfl) (fun K hK => ?_)
    go_simp
    refine hK.out _ _ (fun _ => hS4.out) (fun hHeld2 => ?_)
    clear hK K hHeld2
    try simp only [Act.put, List.setIfInBounds_toArray, List.set_cons_zero, List.set_cons_succ]
    refine Till.one 4 rfl (by kernel_rfl) (fun K hK => ?_)
    go_simp
    refine hK.out _ _ (fun _ => hS5.out) (fun hHeld3 => ?_)
    clear hK K hHeld3
    try simp only [Act.put, List.setIfInBounds_toArray, List.set_cons_zero, List.set_cons_succ]
    refine Till.one 5 rfl (by kernel_rfl) (fun K hK => ?_)
    go_simp
    refine hK.out _ _ (fun h => absurd rfl h) (fun _ => ?_)
    clear hK K
    try simp only [Act.put, List.setIfInBounds_toArray, List.set_cons_zero, List.set_cons_succ]
    refine Till.done (by kernel_rfl) ?_ _
    have c0 := C0.out.cell 0 _ rfl
    have c1 := C0.out.cell 1 _ rfl
    have c9 := C9.out.cell 0 _ rfl
    have hE := HE.out
    have hK := HK3.out
    clear C0 C9 HE HK3 r0 r1 f0 f1 r9 f9 hS4 hS5
    generalize (((v1.setCell ⟨w.heap.size, 0, none⟩ (.int .i64 R.n)).setCell ⟨w.heap.size, 1, none⟩ (.int .i64 R.d)).setCell ⟨w.heap.size + 1, 0, none⟩ (.bool B)) = WE at *
    dsimp only [NormOf]
    gi_wp2
    have hPD := hE.trans (belowK_b (w := w) (Nat.le_refl _) WE D _ (.deferred none) (by omega) hK rfl rfl)
    refine ⟨by simp, .inl ⟨_, _, rfl, run_takeDeferred hK, ?_⟩⟩
    refine ⟨.tuple #[rtV R, .bool B, .int .i64 0], ?_, HW.out, hPD⟩
    have e0 : (WE.putObj D (Obj.deferred none)).cell? ⟨w.heap.size, 0, none⟩ = some (.int .i64 R.n) := by
      simp only [World.cell?, World.putObj_heap_other (show w.heap.size ≠ D by omega)]
      exact c0
    have e1 : (WE.putObj D (Obj.deferred none)).cell? ⟨w.heap.size, 1, none⟩ = some (.int .i64 R.d) := by
      simp only [World.cell?, World.putObj_heap_other (show w.heap.size ≠ D by omega)]
      exact c1
    have e9 : (WE.putObj D (Obj.deferred none)).cell? ⟨w.heap.size + 1, 0, none⟩ = some (.bool B) := by
      simp only [World.cell?, World.putObj_heap_other (show w.heap.size + 1 ≠ D by omega)]
      exact c9
    clear c0 c1 c9 hK hE hPD
    generalize WE.putObj D (Obj.deferred none) = WF at *
    simp [results, Try.results14, go_sem, e0, e1, e9, rtV]

end Go.Proofs.Ytnldenjdbgfgmaa
