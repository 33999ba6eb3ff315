/- gap of the specification; no statement is proved here. -/
import Derived.Test.YtnldenjdbgfgmaaFmRa
import Derived.Test.YtnldenjdbgfgmaaFmDIt
import Derived.Deep.DeepCutAuto
namespace Go.Proofs.Ytnldenjdbgfgmaa
open Go.RowKit Go.PlainAid
set_option linter.unusedVariables false
set_option linter.unusedSimpArgs false

def apY (c sh : Int) (x y : St) : List Rt := (List.range 5).map fun (u : Nat) => apartQ x (shiftS y (sh + ((u : Int) - 2) * c))
def apX (c sh : Int) (lb : List St) (x : St) : List Rt := lb.flatMap (apY c sh x)
def apL (c sh : Int) (la lb : List St) : List Rt := la.flatMap (apX c sh lb)
theorem apY_len (c sh : Int) (x y : St) : (apY c sh x y).length = 5 := by simp [apY]
theorem apX_len (c sh : Int) (lb : List St) (x : St) : (apX c sh lb x).length = lb.length * 5 := flatL_len _ 5 (apY_len c sh x) lb
theorem apL_len (c sh : Int) (la lb : List St) : (apL c sh la lb).length = la.length * (lb.length * 5) := flatL_len _ _ (apX_len c sh lb) la
theorem apL_at (c sh : Int) (la lb : List St) (k j u : Nat) (hk : k < la.length) (hj : j < lb.length) (hu : u < 5) : (apL c sh la lb)[k * (lb.length * 5) + (j * 5 + u)]? = some (apartQ (la[k]'hk) (shiftS (lb[j]'hj) (sh + ((u : Int) - 2) * c))) := by
  unfold apL
  rw [flatL_at _ _ (apX_len c sh lb) la k (j * 5 + u) hk (by omega)]
  unfold apX
  rw [flatL_at _ _ (apY_len c sh _) lb j u hj hu]
  unfold apY
  rw [List.getElem?_map, List.getElem?_range hu]; rfl
/-- the least so far. -/
def stepR (o : Option Rt) (g : Rt) : Option Rt := match o with
  | none => some g
  | some m => if g.n * m.d < m.n * g.d then some g else some m
def leastR (l : List Rt) : Option Rt := l.foldl stepR none
theorem leastR_take {l : List Rt} {k : Nat} {r : Rt} (h : l[k]? = some r) : leastR (l.take (k + 1)) = stepR (leastR (l.take k)) r := by
  unfold leastR
  rw [List.take_add_one, h, List.foldl_append]; rfl
theorem leastR_mem : ∀ (l : List Rt) (o : Option Rt) (m : Rt), l.foldl stepR o = some m → o = some m ∨ m ∈ l
  | [], o, m, h => .inl h
  | d :: l, o, m, h => by
    rcases leastR_mem l _ m h with h1 | h1
    · cases o with
      | none => simp only [stepR, Option.some.injEq] at h1; subst h1; exact .inr (List.mem_cons_self ..)
      | some q =>
        simp only [stepR] at h1
        split at h1
        · simp only [Option.some.injEq] at h1; subst h1; exact .inr (List.mem_cons_self ..)
        · exact .inl h1
    · exact .inr (List.mem_cons_of_mem _ h1)
theorem StS.b {s : St} (h : StS s) : RtB s.a ∧ RtB s.b := by
  obtain ⟨⟨h1, h2⟩, h3, h4⟩ := h
  exact ⟨⟨by omega, h2⟩, by omega, h4⟩
theorem shift_b {s : St} (h : StS s) {t : Int} (ht : -20000 ≤ t ∧ t ≤ 20000) : RtB (shiftS s t).a ∧ RtB (shiftS s t).b := by
  have h1 := sz_plus h.1 ht
  have h2 := sz_plus h.2 ht
  exact ⟨⟨by simp only [shiftS]; omega, h.1.2⟩, by simp only [shiftS]; omega, h.2.2⟩
theorem apartQ_bd {x y : St} (hxa : RtB x.a) (hxb : RtB x.b) (hya : RtB y.a) (hyb : RtB y.b) : Num4 (apartQ x y).n ∧ Den4 (apartQ x y).d := by
  have k1 := rt_cross hya hxb
  have k2 := rt_cross hxb hya
  have k3 := rt_cross hxa hyb
  have k4 := rt_cross hyb hxa
  have m1 := mkQ_bd (y.a.n * x.b.d - x.b.n * y.a.d) (b := y.a.d * x.b.d) (by omega) (by omega)
  have m2 := mkQ_bd (x.a.n * y.b.d - y.b.n * x.a.d) (b := x.a.d * y.b.d) (by omega) (by omega)
  have n1 := mk_nabs (y.a.n * x.b.d - x.b.n * y.a.d) (d := y.a.d * x.b.d) (by omega) 200000000000000000 (by omega)
  have n2 := mk_nabs (x.a.n * y.b.d - y.b.n * x.a.d) (d := x.a.d * y.b.d) (by omega) 200000000000000000 (by omega)
  unfold apartQ Num4 Den4
  split
  · omega
  · split
    · omega
    · dsimp only; omega
theorem apL_bd {c sh : Int} {la lb : List St} (hoa : ∀ s, s ∈ la → StS s) (hob : ∀ s, s ∈ lb → StS s) (hc : 1 ≤ c ∧ c ≤ 3600) (hsh : 0 ≤ sh ∧ sh ≤ c) : ∀ r, r ∈ apL c sh la lb → Num4 r.n ∧ Den4 r.d := by
  intro r hr
  simp only [apL, apX, apY, List.mem_flatMap, List.mem_map, List.mem_range] at hr
  obtain ⟨x, hx, y, hy, u, hu, rfl⟩ := hr
  have m1 := bd_mul (a := (u : Int) - 2) (b := c) (A := 2) (B := 3600) (by omega) (by omega) (by omega)
  have h1 := (hoa x hx).b
  have h2 := shift_b (hob y hy) (t := sh + ((u : Int) - 2) * c) (by omega)
  exact apartQ_bd h1.1 h1.2 h2.1 h2.2
def bsR (o : Option Rt) : Rt := o.getD ⟨0, 0⟩
structure GapR (w : World) (o : Option Rt) (X : World) : Prop where
  r : Blk X w.heap.size #[.int .i64 0, .int .i64 0] 24
  b : Blk X (w.heap.size + 1) #[.int .i64 (bsR o).n, .int .i64 (bsR o).d] 24
  bel : Below w.heap.size w X
theorem GapR.below {w : World} {o : Option Rt} {X Y : World} (h : GapR w o X) (hb : Below X.heap.size X Y) : GapR w o Y := ⟨h.r.below hb h.r.lt, h.b.below hb h.b.lt, h.bel.trans (hb.mono h.bel.size)⟩
theorem GapR.put {w : World} {o : Option Rt} {X : World} (h : GapR w o X) (d : Rt) :
    Hid (GapR w (some d) ((X.setCell ⟨w.heap.size + 1, 0, none⟩ (.int .i64 d.n)).setCell ⟨w.heap.size + 1, 1, none⟩ (.int .i64 d.d))) := Lib.hid ⟨
  (h.r.other _ _ (by simp only; omega)).other _ _ (by simp only; omega),
  by simpa [bsR] using (h.b.set 0 (.int .i64 d.n)).set 1 (.int .i64 d.d),
  (h.bel.setCell (by simp only; omega) _).setCell (by simp only; omega) _⟩

set_option maxHeartbeats 8000000 in
set_option maxRecDepth 100000 in
theorem gapR_any (c sh : Int) (aa ab : Option Addr) (ca cb : Nat) (la lb : List St) (w : World) (hra : RSts w (.slice aa la.length ca) la) (hrb : RSts w (.slice ab lb.length cb) lb)
    (hoa : ∀ s, s ∈ la → StS s) (hob : ∀ s, s ∈ lb → StS s) (hc : 1 ≤ c ∧ c ≤ 3600) (hsh : 0 ≤ sh ∧ sh ≤ c) :
    Calls Try.prog 40 #[.int .i64 c, .slice aa la.length ca, .slice ab lb.length cb, .int .i64 sh] w fun e w' => e = .returned (.tuple #[rtV (bsR (leastR (apL c sh la lb))), .bool (leastR (apL c sh la lb)).isSome]) ∧ Below w.heap.size w w' := by
  have hG : GapR w (leastR ((apL c sh la lb).take 0)) ((w.alloc (.cells #[.int .i64 0, .int .i64 0] 24)).alloc (.cells #[.int .i64 0, .int .i64 0] 24)) := ⟨(Blk.new w #[.int .i64 0, .int .i64 0] 24).alloc (.cells #[.int .i64 0, .int .i64 0] 24), by have := Blk.new (w.alloc (.cells #[.int .i64 0, .int .i64 0] 24)) #[.int .i64 0, .int .i64 0] 24; simp only [World.size_alloc] at this; exact this, (below_box w _).alloc (by simp) _⟩
  have HBD := apL_bd hoa hob hc hsh
  have hLG : ∀ k m, leastR ((apL c sh la lb).take k) = some m → Num4 m.n ∧ Den4 m.d := fun k m h => by
    rcases leastR_mem _ _ _ h with h1 | h1
    · cases h1
    · exact HBD m (List.mem_of_mem_take h1)
  obtain ⟨aa', capa, he, -, ⟨-, hma⟩, hla⟩ := hra
  simp only [Value.slice.injEq, true_and] at he
  obtain ⟨rfl, rfl⟩ := he
  obtain ⟨ab', capb, he, -, ⟨-, hmb⟩, hlb⟩ := hrb
  simp only [Value.slice.injEq, true_and] at he
  obtain ⟨rfl, rfl⟩ := he
  have HLA := Lib.hid hla
  have HLB := Lib.hid hlb
  have HOA := Lib.hid hoa
  have HOB := Lib.hid hob
  clear hla hlb hoa hob
  have HEnd : Hid (∀ X, GapR w (leastR ((apL c sh la lb).take (la.length * (lb.length * 5)))) X → GapR w (leastR (apL c sh la lb)) X) := Lib.hid (fun X h => by rw [← apL_len c sh la lb, List.take_length] at h; exact h)
  have HES : Hid ((leastR ((apL c sh la lb).take (la.length * (lb.length * 5)))).isSome = (leastR (apL c sh la lb)).isSome) := Lib.hid (by rw [← apL_len c sh la lb, List.take_length])
  obtain ⟨O, hO⟩ : ∃ O, leastR (apL c sh la lb) = O := ⟨_, rfl⟩
  rw [hO] at HEnd HES ⊢
  obtain ⟨R, hRb⟩ : ∃ R, bsR O = R := ⟨_, rfl⟩
  rw [hRb]
  have HRb := Lib.hid hRb
  clear hRb hO
  have hz2 : ((w.alloc (.cells #[.int .i64 0, .int .i64 0] 24)).alloc (.cells #[.int .i64 0, .int .i64 0] 24)).heap.size = w.heap.size + 2 := by simp
  replace hz2 := And.intro (Nat.le_of_eq hz2) (Nat.le_of_eq hz2.symm)
  go_enter Try.func40, Try.ntmps40
  go_wp2
  generalize ((w.alloc (.cells #[.int .i64 0, .int .i64 0] 24)).alloc (.cells #[.int .i64 0, .int .i64 0] 24)) = w2 at *
  go_loopw [11, 12] (fun z i wr => ∃ (k : Nat), k ≤ la.length ∧ i = .int .i64 k ∧ z = .bool (leastR ((apL c sh la lb).take (k * (lb.length * 5)))).isSome ∧ GapR w (leastR ((apL c sh la lb).take (k * (lb.length * 5)))) wr ∧ w.heap.size + 2 ≤ wr.heap.size) (fun _ i _ => la.length - (intOf i).toNat)
  case atStart => exact ⟨0, Nat.zero_le _, rfl, by simp [leastR], by rw [Nat.zero_mul]; exact hG, by omega⟩
  case round =>
    obtain ⟨k, hk, rfl, rfl, hGk, hsk⟩ := hrel
    clear hG hz2
    by_cases hlt : k < la.length
    · obtain ⟨b1, o1, rfl, ⟨q0, q1, q2, q3⟩, -, -⟩ := HLA.out k hlt
      have e1 := cell_lt q0
      simp only at e1
      have hxo := HOA.out _ (List.getElem_mem hlt)
      have HDX : Hid (∀ j u (hj : j < lb.length) (hu : u < 5), (apL c sh la lb)[k * (lb.length * 5) + (j * 5 + u)]? = some (apartQ (la[k]'hlt) (shiftS (lb[j]'hj) (sh + ((u : Int) - 2) * c)))) := Lib.hid (fun j u hj hu => apL_at c sh la lb k j u hlt hj hu)
      generalize la[k] = x at *
      have i1 : (0 : Int) ≤ (k : Int) := Int.natCast_nonneg _
      have i2 : (k : Int) < (la.length : Int) := by omega
      have HKP : Hid (k * (lb.length * 5) + lb.length * 5 = (k + 1) * (lb.length * 5)) := Lib.hid (by rw [Nat.succ_mul])
      generalize k * (lb.length * 5) = P at *
      go_wp2_with fail
      go_loopw [11, 13] (fun z i wr => ∃ (j : Nat), j ≤ lb.length ∧ i = .int .i64 j ∧ z = .bool (leastR ((apL c sh la lb).take (P + j * 5))).isSome ∧ GapR w (leastR ((apL c sh la lb).take (P + j * 5))) wr ∧ w.heap.size + 2 ≤ wr.heap.size) (fun _ i _ => lb.length - (intOf i).toNat)
      case atStart => exact ⟨0, Nat.zero_le _, rfl, by simp, by simpa using hGk, hsk⟩
      case round =>
        obtain ⟨j, hj, rfl, rfl, hGj, hsj⟩ := hrel
        clear hGk hsk
        by_cases hlt2 : j < lb.length
        · obtain ⟨b2, o2, rfl, ⟨p0, p1, p2, p3⟩, -, -⟩ := HLB.out j hlt2
          have e2 := cell_lt p0
          simp only at e2
          have hyo := HOB.out _ (List.getElem_mem hlt2)
          have HDY : Hid (∀ u (hu : u < 5), (apL c sh la lb)[P + (j * 5 + u)]? = some (apartQ x (shiftS (lb[j]'hlt2) (sh + ((u : Int) - 2) * c)))) := Lib.hid (fun u hu => HDX.out j u hlt2 hu)
          generalize lb[j] = y at *
          have i3 : (0 : Int) ≤ (j : Int) := Int.natCast_nonneg _
          have i4 : (j : Int) < (lb.length : Int) := by omega
          go_wp2_with fail
          go_loopw [11, 14] (fun z i wr => ∃ (u : Nat), u ≤ 5 ∧ i = .int .i64 ((u : Int) - 2) ∧ z = .bool (leastR ((apL c sh la lb).take (P + (j * 5 + u)))).isSome ∧ GapR w (leastR ((apL c sh la lb).take (P + (j * 5 + u)))) wr ∧ w.heap.size + 2 ≤ wr.heap.size) (fun _ i _ => (3 - intOf i).toNat)
          case atStart => exact ⟨0, by omega, by simp, by simp, by simpa using hGj, hsj⟩
          case round =>
            obtain ⟨u, hu, rfl, rfl, hGu, hsu⟩ := hrel
            clear hGj hsj
            obtain ⟨t, ht⟩ : ∃ t : Int, (u : Int) - 2 = t := ⟨_, rfl⟩
            have HT := Lib.hid ht
            by_cases hlt3 : u < 5
            · have hd := HDY.out u hlt3
              rw [ht] at hd ⊢
              have t1 : t ≤ 2 := by omega
              have t2 : -2 ≤ t := by omega
              have m1 := bd_mul (a := t) (b := c) (A := 2) (B := 3600) (by omega) (by omega) (by omega)
              have z1 := wrap_id (t * c) (by unfold I64; omega)
              have z2 := wrap_id (sh + t * c) (by unfold I64; omega)
              have z3 := wrap_id (t + 1) (by unfold I64; omega)
              have zz1 := IntWalk.i64_in (t * c) (by omega)
              have zz2 := IntWalk.i64_in (sh + t * c) (by omega)
              have hst := leastR_take hd
              have hdb := HBD _ (List.mem_of_getElem? hd)
              have hlg := hLG (P + (j * 5 + u))
              have hsb := shift_b hyo (t := sh + t * c) (by omega)
              have sp1 := sz_plus hyo.1 (t := sh + t * c) (by omega)
              have sp2 := sz_plus hyo.2 (t := sh + t * c) (by omega)
              have HC1 := fun V => shifted_any y (sh + t * c) V (by unfold I64; omega) (by unfold I64; omega) (by unfold I64; omega) (by unfold I64; omega)
              have HC2 := fun V => apart_any x (shiftS y (sh + t * c)) V hxo.b.1 hxo.b.2 hsb.1 hsb.2
              unfold stV at HC1
              clear hd m1 ht sp1 sp2 hsb
              have HST := Lib.hid hst
              clear hst
              generalize shiftS y (sh + t * c) = ys at *
              generalize apartQ x ys = g at *
              obtain ⟨U, hU⟩ : ∃ U, g.n = U := ⟨_, rfl⟩
              obtain ⟨V, hV⟩ : ∃ V, g.d = V := ⟨_, rfl⟩
              unfold rtV at HC2
              rw [hU, hV] at HC2
              have HU := Lib.hid hU
              have HV := Lib.hid hV
              clear hU hV
              generalize hOu : leastR ((apL c sh la lb).take (P + (j * 5 + u))) = Ou at *
              clear hOu
              have eB := hGu.bel
              have x0 := ext_of_below eB _ _ q0
              have x1 := ext_of_below eB _ _ q1
              have x2 := ext_of_below eB _ _ q2
              have x3 := ext_of_below eB _ _ q3
              have y0 := ext_of_below eB _ _ p0
              have y1 := ext_of_below eB _ _ p1
              have y2 := ext_of_below eB _ _ p2
              have y3 := ext_of_below eB _ _ p3
              clear eB
              go_upto_region 12 with fail
              go_cut [15] (fun sv wx => ∃ p, sv = .pointer (some ⟨p, 0, none⟩) ∧ w.heap.size + 2 ≤ p ∧ Blk wx p #[.int .i64 U, .int .i64 V] 24 ∧ Below wr.heap.size wr wx)
              case first =>
                have D0 : Below wr.heap.size wr wr.drew := (Below.refl _ _).drew
                have HSV : Hid (∀ V, Below wr.heap.size wr V → (fun w' : World => w'.cell? ⟨b1, o1 + k * 4, none⟩ = some (.int .i64 x.a.n) ∧ w'.cell? ⟨b1, o1 + k * 4 + 1, none⟩ = some (.int .i64 x.a.d) ∧ w'.cell? ⟨b1, o1 + k * 4 + 2, none⟩ = some (.int .i64 x.b.n) ∧ w'.cell? ⟨b1, o1 + k * 4 + 3, none⟩ = some (.int .i64 x.b.d) ∧ w'.cell? ⟨b2, o2 + j * 4, none⟩ = some (.int .i64 y.a.n) ∧ w'.cell? ⟨b2, o2 + j * 4 + 1, none⟩ = some (.int .i64 y.a.d) ∧ w'.cell? ⟨b2, o2 + j * 4 + 2, none⟩ = some (.int .i64 y.b.n) ∧ w'.cell? ⟨b2, o2 + j * 4 + 3, none⟩ = some (.int .i64 y.b.d)) V) := Lib.hid (fun V hV => ⟨ext_of_below hV _ _ x0, ext_of_below hV _ _ x1, ext_of_below hV _ _ x2, ext_of_below hV _ _ x3, ext_of_below hV _ _ y0, ext_of_below hV _ _ y1, ext_of_below hV _ _ y2, ext_of_below hV _ _ y3⟩)
                clear x0 x1 x2 x3 y0 y1 y2 y3 hGu HST hdb hlg HU HV
                go_wp2_with fail
                refine wp_region_till (fun w' : World => w'.cell? ⟨b1, o1 + k * 4, none⟩ = some (.int .i64 x.a.n) ∧ w'.cell? ⟨b1, o1 + k * 4 + 1, none⟩ = some (.int .i64 x.a.d) ∧ w'.cell? ⟨b1, o1 + k * 4 + 2, none⟩ = some (.int .i64 x.b.n) ∧ w'.cell? ⟨b1, o1 + k * 4 + 3, none⟩ = some (.int .i64 x.b.d) ∧ w'.cell? ⟨b2, o2 + j * 4, none⟩ = some (.int .i64 y.a.n) ∧ w'.cell? ⟨b2, o2 + j * 4 + 1, none⟩ = some (.int .i64 y.a.d) ∧ w'.cell? ⟨b2, o2 + j * 4 + 2, none⟩ = some (.int .i64 y.b.n) ∧ w'.cell? ⟨b2, o2 + j * 4 + 3, none⟩ = some (.int .i64 y.b.d)) 16 (by kernel_rfl) (HSV.out _ D0) (fun hHeld => ?_)
                generalize wr.drew = wd at *
                refine Till.take 0 (some 32) (v := ?_) rfl rfl (by kernel_rfl) (by kernel_rfl) (by kernel_rfl) (by kernel_rfl) (fun _ _ _ h => h) (Or.inl ⟨by rfl, ?_⟩) (by assumption) ?_
                rotate_left
                · (intro w hSw; (try dsimp only at hSw); go_simp; try with_reducible rfl)
                try simp only [Act.put, List.setIfInBounds_toArray, List.set_cons_zero, List.set_cons_succ]
                refine Till.take 1 (some 33) (v := ?_) rfl rfl (by kernel_rfl) (by kernel_rfl) (by kernel_rfl) (by kernel_rfl) (fun _ _ _ h => h) (Or.inl ⟨by rfl, ?_⟩) (by assumption) ?_
                rotate_left
                · (intro w hSw; (try dsimp only at hSw); go_simp; try with_reducible rfl)
                try simp only [Act.put, List.setIfInBounds_toArray, List.set_cons_zero, List.set_cons_succ]
                refine Till.take 2 (some 34) (v := ?_) rfl rfl (by kernel_rfl) (by kernel_rfl) (by kernel_rfl) (by kernel_rfl) (fun _ _ _ h => h) (Or.inl ⟨by rfl, ?_⟩) (by assumption) ?_
                rotate_left
                · (intro w hSw; (try dsimp only at hSw); go_simp; try with_reducible rfl)
                try simp only [Act.put, List.setIfInBounds_toArray, List.set_cons_zero, List.set_cons_succ]
                refine Till.take 3 (some 35) (v := ?_) rfl rfl (by kernel_rfl) (by kernel_rfl) (by kernel_rfl) (by kernel_rfl) (fun _ _ _ h => h) (Or.inl ⟨by rfl, ?_⟩) (by assumption) ?_
                rotate_left
                · (intro w hSw; (try dsimp only at hSw); go_simp; try with_reducible rfl)
                try simp only [Act.put, List.setIfInBounds_toArray, List.set_cons_zero, List.set_cons_succ]
                refine Till.take 4 (some 36) (v := ?_) rfl rfl (by kernel_rfl) (by kernel_rfl) (by kernel_rfl) (by kernel_rfl) (fun _ _ _ h => h) (Or.inl ⟨by rfl, ?_⟩) (by assumption) ?_
                rotate_left
                · (intro w hSw; (try dsimp only at hSw); go_simp; try with_reducible rfl)
                try simp only [Act.put, List.setIfInBounds_toArray, List.set_cons_zero, List.set_cons_succ]
                refine Till.take 5 (some 37) (v := ?_) rfl rfl (by kernel_rfl) (by kernel_rfl) (by kernel_rfl) (by kernel_rfl) (fun _ _ _ h => h) (Or.inl ⟨by rfl, ?_⟩) (by assumption) ?_
                rotate_left
                · (intro w hSw; (try dsimp only at hSw); go_simp; try with_reducible rfl)
                try simp only [Act.put, List.setIfInBounds_toArray, List.set_cons_zero, List.set_cons_succ]
                refine Till.take 6 (some 38) (v := ?_) rfl rfl (by kernel_rfl) (by kernel_rfl) (by kernel_rfl) (by kernel_rfl) (fun _ _ _ h => h) (Or.inl ⟨by rfl, ?_⟩) (by assumption) ?_
                rotate_left
                · (intro w hSw; (try dsimp only at hSw); go_simp; try with_reducible rfl)
                try simp only [Act.put, List.setIfInBounds_toArray, List.set_cons_zero, List.set_cons_succ]
                refine Till.take 7 (some 39) (v := ?_) rfl rfl (by kernel_rfl) (by kernel_rfl) (by kernel_rfl) (by kernel_rfl) (fun _ _ _ h => h) (Or.inl ⟨by rfl, ?_⟩) (by assumption) ?_
                rotate_left
                · (intro w hSw; (try dsimp only at hSw); go_simp; try with_reducible rfl)
                try simp only [Act.put, List.setIfInBounds_toArray, List.set_cons_zero, List.set_cons_succ]
                refine Till.take 8 (some 40) (v := ?_) rfl rfl (by kernel_rfl) (by kernel_rfl) (by kernel_rfl) (by kernel_rfl) (fun _ _ _ h => h) (Or.inl ⟨by rfl, ?_⟩) (by assumption) ?_
                rotate_left
                · (intro w hSw; (try dsimp only at hSw); go_simp; try with_reducible rfl)
                try simp only [Act.put, List.setIfInBounds_toArray, List.set_cons_zero, List.set_cons_succ]
                refine Till.take 9 (some 41) (v := ?_) rfl rfl (by kernel_rfl) (by kernel_rfl) (by kernel_rfl) (by kernel_rfl) (fun _ _ _ h => h) (Or.inl ⟨by rfl, ?_⟩) (by assumption) ?_
                rotate_left
                · (intro w hSw; (try dsimp only at hSw); go_simp; try with_reducible rfl)
                try simp only [Act.put, List.setIfInBounds_toArray, List.set_cons_zero, List.set_cons_succ]
                refine Till.take 10 (some 42) (v := ?_) rfl rfl (by kernel_rfl) (by kernel_rfl) (by kernel_rfl) (by kernel_rfl) (fun _ _ _ h => h) (Or.inl ⟨by rfl, ?_⟩) (by assumption) ?_
                rotate_left
                · (intro w hSw; (try dsimp only at hSw); go_simp; try with_reducible rfl)
                try simp only [Act.put, List.setIfInBounds_toArray, List.set_cons_zero, List.set_cons_succ]
                refine Till.take 11 (some 43) (v := ?_) rfl rfl (by kernel_rfl) (by kernel_rfl) (by kernel_rfl) (by kernel_rfl) (fun _ _ _ h => h) (Or.inl ⟨by rfl, ?_⟩) (by assumption) ?_
                rotate_left
                · (intro w hSw; (try dsimp only at hSw); go_simp; try with_reducible rfl)
                try simp only [Act.put, List.setIfInBounds_toArray, List.set_cons_zero, List.set_cons_succ]
                refine Till.take 12 (some 44) (v := ?_) rfl rfl (by kernel_rfl) (by kernel_rfl) (by kernel_rfl) (by kernel_rfl) (fun _ _ _ h => h) (Or.inl ⟨by rfl, ?_⟩) (by assumption) ?_
                rotate_left
                · (intro w hSw; (try dsimp only at hSw); go_simp; try with_reducible rfl)
                try simp only [Act.put, List.setIfInBounds_toArray, List.set_cons_zero, List.set_cons_succ]
                refine Till.two 13 15 rfl rfl (by kernel_rfl) (fun K hK => ?_) (fun K hK => ?_)
                · go_simp
                  go_at_call 60
                  try rw [zz1, zz2]
                  refine (HC1 _).mono ?_
                  rintro e v2 ⟨rfl, hb⟩
                  have E2 := D0.trans (hb.mono D0.size)
                  have hh := HSV.out _ E2
                  refine hK.out _ _ (fun _ => hh) (fun hHeld2 => ?_)
                  clear hK K hb hh
                  try simp only [Act.put, List.setIfInBounds_toArray, List.set_cons_zero, List.set_cons_succ]
                  refine Till.two 14 15 rfl rfl (by kernel_rfl) (fun K hK => ?_) (fun K hK => ?_)
                  · go_simp
                    go_at_call 59
                    try rw [zz1, zz2]
                    refine (HC2 _).mono ?_
                    rintro e v4 ⟨rfl, hb⟩
                    have E4 := E2.trans (hb.mono E2.size)
                    have hh := HSV.out _ E4
                    refine hK.out _ _ (fun _ => hh) (fun hHeld4 => ?_)
                    clear hK K hb hh
                    try simp only [Act.put, List.setIfInBounds_toArray, List.set_cons_zero, List.set_cons_succ]
                    refine Till.one 15 rfl (by kernel_rfl) (fun K hK => ?_)
                    go_simp
                    have E6 := E4.alloc E4.size (.cells #[.int .i64 0, .int .i64 0] 24)
                    have A6 := Blk.new v4 #[.int .i64 0, .int .i64 0] 24
                    have P6 := E4.size
                    have hh := HSV.out _ E6
                    refine hK.out _ _ (fun _ => hh) (fun hHeld6 => ?_)
                    clear hK K hh
                    try simp only [Act.put, List.setIfInBounds_toArray, List.set_cons_zero, List.set_cons_succ]
                    generalize hp6 : v4.heap.size = p at *
                    generalize (v4.alloc (.cells #[.int .i64 0, .int .i64 0] 24)) = v6 at *
                    have g0 := A6.cell 0 _ rfl
                    have g1 := A6.cell 1 _ rfl
                    have g2 := A6.frozen 0
                    have g3 := A6.frozen 1
                    have hR : Hid (Blk ((v6.setCell ⟨p, 0, none⟩ (.int .i64 U)).setCell ⟨p, 1, none⟩ (.int .i64 V)) p #[.int .i64 U, .int .i64 V] 24) := Lib.hid (by simpa using (A6.set 0 (.int .i64 U)).set 1 (.int .i64 V))
                    have hD : Hid (Below wr.heap.size wr ((v6.setCell ⟨p, 0, none⟩ (.int .i64 U)).setCell ⟨p, 1, none⟩ (.int .i64 V))) := Lib.hid ((E6.setCell (by simp only; omega) _).setCell (by simp only; omega) _)
                    refine Till.one 16 rfl (by kernel_rfl) (fun K hK => ?_)
                    go_simp
                    refine hK.out _ _ (fun h => absurd rfl h) (fun _ => ?_)
                    clear hK K g0 g1 g2 g3
                    refine Till.done (by kernel_rfl) ?_ _
                    go_wp2_with fail
                    go_meet
                    exact ⟨p, rfl, by omega, hR.out, hD.out⟩
                  · go_simp
                    have E8 := E2.alloc E2.size (.cells #[.int .i64 0, .int .i64 0] 24)
                    have A8 := Blk.new v2 #[.int .i64 0, .int .i64 0] 24
                    have P8 := E2.size
                    have hh := HSV.out _ E8
                    refine hK.out _ _ (fun _ => hh) (fun hHeld8 => ?_)
                    clear hK K hh
                    try simp only [Act.put, List.setIfInBounds_toArray, List.set_cons_zero, List.set_cons_succ]
                    generalize hp8 : v2.heap.size = p at *
                    generalize (v2.alloc (.cells #[.int .i64 0, .int .i64 0] 24)) = v8 at *
                    refine Till.one 14 rfl (by kernel_rfl) (fun K hK => ?_)
                    go_simp
                    go_at_call 59
                    try rw [zz1, zz2]
                    refine (HC2 _).mono ?_
                    rintro e v10 ⟨rfl, hb⟩
                    have E10 := E8.trans (hb.mono E8.size)
                    have A10 := A8.below hb A8.lt
                    have hh := HSV.out _ E10
                    refine hK.out _ _ (fun _ => hh) (fun hHeld10 => ?_)
                    clear hK K hb hh
                    try simp only [Act.put, List.setIfInBounds_toArray, List.set_cons_zero, List.set_cons_succ]
                    have g0 := A10.cell 0 _ rfl
                    have g1 := A10.cell 1 _ rfl
                    have g2 := A10.frozen 0
                    have g3 := A10.frozen 1
                    have hR : Hid (Blk ((v10.setCell ⟨p, 0, none⟩ (.int .i64 U)).setCell ⟨p, 1, none⟩ (.int .i64 V)) p #[.int .i64 U, .int .i64 V] 24) := Lib.hid (by simpa using (A10.set 0 (.int .i64 U)).set 1 (.int .i64 V))
                    have hD : Hid (Below wr.heap.size wr ((v10.setCell ⟨p, 0, none⟩ (.int .i64 U)).setCell ⟨p, 1, none⟩ (.int .i64 V))) := Lib.hid ((E10.setCell (by simp only; omega) _).setCell (by simp only; omega) _)
                    refine Till.one 16 rfl (by kernel_rfl) (fun K hK => ?_)
                    go_simp
                    refine hK.out _ _ (fun h => absurd rfl h) (fun _ => ?_)
                    clear hK K g0 g1 g2 g3
                    refine Till.done (by kernel_rfl) ?_ _
                    go_wp2_with fail
                    go_meet
                    exact ⟨p, rfl, by omega, hR.out, hD.out⟩
                · go_simp
                  have E12 := D0.alloc D0.size (.cells #[.int .i64 0, .int .i64 0] 24)
                  have A12 := Blk.new wd #[.int .i64 0, .int .i64 0] 24
                  have P12 := D0.size
                  have hh := HSV.out _ E12
                  refine hK.out _ _ (fun _ => hh) (fun hHeld12 => ?_)
                  clear hK K hh
                  try simp only [Act.put, List.setIfInBounds_toArray, List.set_cons_zero, List.set_cons_succ]
                  generalize hp12 : wd.heap.size = p at *
                  generalize (wd.alloc (.cells #[.int .i64 0, .int .i64 0] 24)) = v12 at *
                  refine Till.one 13 rfl (by kernel_rfl) (fun K hK => ?_)
                  go_simp
                  go_at_call 60
                  try rw [zz1, zz2]
                  refine (HC1 _).mono ?_
                  rintro e v14 ⟨rfl, hb⟩
                  have E14 := E12.trans (hb.mono E12.size)
                  have A14 := A12.below hb A12.lt
                  have hh := HSV.out _ E14
                  refine hK.out _ _ (fun _ => hh) (fun hHeld14 => ?_)
                  clear hK K hb hh
                  try simp only [Act.put, List.setIfInBounds_toArray, List.set_cons_zero, List.set_cons_succ]
                  refine Till.one 14 rfl (by kernel_rfl) (fun K hK => ?_)
                  go_simp
                  go_at_call 59
                  try rw [zz1, zz2]
                  refine (HC2 _).mono ?_
                  rintro e v16 ⟨rfl, hb⟩
                  have E16 := E14.trans (hb.mono E14.size)
                  have A16 := A14.below hb A14.lt
                  have hh := HSV.out _ E16
                  refine hK.out _ _ (fun _ => hh) (fun hHeld16 => ?_)
                  clear hK K hb hh
                  try simp only [Act.put, List.setIfInBounds_toArray, List.set_cons_zero, List.set_cons_succ]
                  have g0 := A16.cell 0 _ rfl
                  have g1 := A16.cell 1 _ rfl
                  have g2 := A16.frozen 0
                  have g3 := A16.frozen 1
                  have hR : Hid (Blk ((v16.setCell ⟨p, 0, none⟩ (.int .i64 U)).setCell ⟨p, 1, none⟩ (.int .i64 V)) p #[.int .i64 U, .int .i64 V] 24) := Lib.hid (by simpa using (A16.set 0 (.int .i64 U)).set 1 (.int .i64 V))
                  have hD : Hid (Below wr.heap.size wr ((v16.setCell ⟨p, 0, none⟩ (.int .i64 U)).setCell ⟨p, 1, none⟩ (.int .i64 V))) := Lib.hid ((E16.setCell (by simp only; omega) _).setCell (by simp only; omega) _)
                  refine Till.one 16 rfl (by kernel_rfl) (fun K hK => ?_)
                  go_simp
                  refine hK.out _ _ (fun h => absurd rfl h) (fun _ => ?_)
                  clear hK K g0 g1 g2 g3
                  refine Till.done (by kernel_rfl) ?_ _
                  go_wp2_with fail
                  go_meet
                  exact ⟨p, rfl, by omega, hR.out, hD.out⟩
              case rest =>
              obtain ⟨p, rfl, hp, hB, hD⟩ := hcut
              have hG2 := hGu.below hD
              have b0 := hG2.b.cell 0 _ rfl
              have b1' := hG2.b.cell 1 _ rfl
              have b2' := hG2.b.frozen 0
              have b3' := hG2.b.frozen 1
              have g0 := hB.cell 0 _ rfl
              have g1 := hB.cell 1 _ rfl
              have hsw : w.heap.size + 2 ≤ wc.heap.size := Nat.le_trans hsu hD.size
              clear hGu hD x0 x1 x2 x3 y0 y1 y2 y3 HC1 HC2
              rw [HU.out, HV.out] at hdb
              cases Ou with
              | none =>
                have hst : leastR ((apL c sh la lb).take (P + (j * 5 + (u + 1)))) = some g := HST.out
                have HP := hG2.put g
                rw [HU.out, HV.out] at HP
                clear hG2 hB HST HU HV
                go_wp2
                go_roundw
                case rel =>
                  refine ⟨u + 1, by omega, ?_, by rw [hst]; rfl, by rw [hst]; exact HP.out, by simp; omega⟩
                  rw [show (((u + 1 : Nat) : Int) - 2) = t + 1 by have := HT.out; omega]
                case measure => simp [intOf]; omega
              | some m =>
                have hmb := hlg m rfl
                simp only [bsR, Option.getD_some] at b0 b1'
                have HL := fun V' => rl_any U V m.n m.d V' hdb.1 hdb.2 hmb.1 hmb.2
                clear hlg
                go_wp2_with fail
                refine (HL _).mono ?_
                rintro e w9 ⟨rfl, hb9⟩
                have hG9 := hG2.below hb9
                have hB9 := hB.below hb9 hB.lt
                have hs9 := Nat.le_trans hsw hb9.size
                clear hG2 hB hb9 b0 b1' b2' b3' g0 g1 HL
                by_cases hcv : U * m.d < m.n * V
                · have hst : leastR ((apL c sh la lb).take (P + (j * 5 + (u + 1)))) = some g := HST.out.trans (by simp only [stepR]; rw [HU.out, HV.out, if_pos hcv])
                  rw [decide_eq_true hcv]
                  have HP := hG9.put g
                  rw [HU.out, HV.out] at HP
                  have b0 := hG9.b.cell 0 _ rfl
                  have b1' := hG9.b.cell 1 _ rfl
                  have b2' := hG9.b.frozen 0
                  have b3' := hG9.b.frozen 1
                  have g0 := hB9.cell 0 _ rfl
                  have g1 := hB9.cell 1 _ rfl
                  clear hG9 hB9 HST HU HV hcv
                  go_wp2
                  go_roundw
                  case rel =>
                    refine ⟨u + 1, by omega, ?_, by rw [hst]; rfl, by rw [hst]; exact HP.out, by simp; omega⟩
                    rw [show (((u + 1 : Nat) : Int) - 2) = t + 1 by have := HT.out; omega]
                  case measure => simp [intOf]; omega
                · have hst : leastR ((apL c sh la lb).take (P + (j * 5 + (u + 1)))) = some m := HST.out.trans (by simp only [stepR]; rw [HU.out, HV.out, if_neg hcv])
                  rw [decide_eq_false hcv]
                  clear HST HU HV hcv hB9
                  go_wp2
                  go_roundw
                  case rel =>
                    refine ⟨u + 1, by omega, ?_, by rw [hst]; rfl, by rw [hst]; exact hG9, hs9⟩
                    rw [show (((u + 1 : Nat) : Int) - 2) = t + 1 by have := HT.out; omega]
                  case measure => simp [intOf]; omega
            · have hue : u = 5 := by omega
              subst hue
              have ht2 : ¬ t ≤ 2 := by omega
              rw [ht]
              clear ht HT
              go_wp2
              go_roundw
              case rel => exact ⟨j + 1, by omega, by go_num, by rw [Nat.succ_mul], by rw [Nat.succ_mul]; exact hGu, hsu⟩
              case measure => simp [intOf]; omega
        · have hje : j = lb.length := by omega
          subst hje
          go_wp2
          go_roundw
          case rel => exact ⟨k + 1, by omega, by go_num, by rw [HKP.out], by rw [← HKP.out]; exact hGj, hsj⟩
          case measure => simp [intOf]; omega
    · have hke : k = la.length := by omega
      subst hke
      have hge := HEnd.out _ hGk
      rw [HES.out]
      obtain ⟨hr1, hb1, hbel⟩ := hge
      rw [HRb.out] at hb1
      have b0 := hb1.cell 0 _ rfl
      have b1' := hb1.cell 1 _ rfl
      obtain ⟨r0, r1, f0, f1, HE, C0, C1⟩ := store2 hbel hr1 (Nat.le_refl _) (Below.refl _ _) (.int .i64 R.n) (.int .i64 R.d)
      clear hr1 hb1 hbel hGk HEnd HES HRb HBD hLG hsk
      go_wp2
      have c0 := C0.out
      have c1 := C1.out
      have hE := HE.out
      clear C0 C1 HE r0 r1 f0 f1 b0 b1'
      generalize ((wr.setCell ⟨w.heap.size, 0, none⟩ (.int .i64 R.n)).setCell ⟨w.heap.size, 1, none⟩ (.int .i64 R.d)) = WE at c0 c1 hE ⊢
      refine ⟨rfl, .tuple #[rtV R, .bool O.isSome], ?_, rfl, hE⟩
      simp [results, Try.results40, go_sem, c0, c1, rtV]

end Go.Proofs.Ytnldenjdbgfgmaa
