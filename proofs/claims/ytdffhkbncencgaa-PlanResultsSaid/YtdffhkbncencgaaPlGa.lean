/- All shifts by the specification: gathered, All; no statement is proved here. -/
import Derived.Test.YtdffhkbncencgaaPlGaM
import Derived.Maps.AppendAt
import Derived.Deep.Upon
import Derived.Deep.AppendSrc
namespace Go.Proofs.Ytdffhkbncencgaa
open Go.RowKit Go.PlainAid
set_option linter.unusedVariables false
set_option linter.unusedSimpArgs false

theorem own_base8 {w : World} {base base' : Nat} {e : TypeId} {size : Nat} {v : Value} {n : Nat} {xs : List Value} (h : w.ownsRow base e size v n xs) (hb : base' ≤ base) : w.ownsRow base' e size v n xs := by
  obtain ⟨h1, h2⟩ := h
  refine ⟨h1, ?_⟩
  rcases h2 with h2 | ⟨g, cap, cur, hv, hg, hh, r⟩
  · exact Or.inl h2
  · exact Or.inr ⟨g, cap, cur, hv, Nat.le_trans hb hg, hh, r⟩
theorem own_grown2 {X Y : World} {row : Option Nat} {base : Nat} {e : TypeId} {size : Nat} {v : Value} {n : Nat} {xs : List Value} (h : X.ownsRow base e size v n xs) (hg : X.grownBy Y row) (hr : ∀ g, v.ownBlock = some g → row ≠ some g) : Y.ownsRow base e size v n xs := by
  obtain ⟨h1, h2⟩ := h
  refine ⟨h1, ?_⟩
  rcases h2 with h2 | ⟨g, cap, cur, hv, hg', hh, r⟩
  · exact Or.inl h2
  · refine Or.inr ⟨g, cap, cur, hv, hg', ?_, r⟩
    rw [hg.block g (Array.getElem?_eq_some_iff.1 hh).1 (fun e => hr g (by rw [hv]; rfl) e.symm)]
    exact hh
theorem own_types {X : World} {b1 b2 : Nat} {e1 e2 : TypeId} {s1 s2 : Nat} {v1 v2 : Value} {n1 n2 : Nat} {xs1 xs2 : List Value} (h1 : X.ownsRow b1 e1 s1 v1 n1 xs1) (h2 : X.ownsRow b2 e2 s2 v2 n2 xs2) (he : e1 ≠ e2) : ∀ g, v1.ownBlock = some g → v2.ownBlock ≠ some g := fun g hg hg2 => by
  rcases h1.2 with ⟨hv, -⟩ | ⟨g1, cap, cur, hv, -, hh, -⟩
  · rw [hv] at hg; cases hg
  rcases h2.2 with ⟨hv2, -⟩ | ⟨g2, cap2, cur2, hv2, -, hh2, -⟩
  · rw [hv2] at hg2; cases hg2
  rw [hv] at hg
  rw [hv2] at hg2
  obtain rfl : g1 = g := by injection hg
  obtain rfl : g2 = g1 := by injection hg2
  rw [hh] at hh2
  injection hh2 with hh2
  injection hh2 with _ hh2 _
  exact he hh2
theorem grown_trans {X Y Z : World} {r r' : Option Nat} (h : X.grownBy Y r) (h' : Y.grownBy Z r') (hr : ∀ g, r' = some g → r = some g ∨ X.heap.size ≤ g) : X.grownBy Z r :=
  ⟨h'.os.trans h.os, h'.tape.trans h.tape, h'.output.trans h.output, Nat.le_trans h.size h'.size, fun k hk hne => by
    rw [h'.block k (Nat.lt_of_lt_of_le hk h.size) (fun e => by
      rcases hr k e.symm with h1 | h1
      · exact hne h1.symm
      · omega), h.block k hk hne]⟩
theorem below_grown8 {X Y : World} (h : Below X.heap.size X Y) (r : Option Nat) : X.grownBy Y r := ⟨h.os, h.tape, h.output, h.size, fun k hk _ => h.block k hk⟩
/-- rows that were gathered, in an own row. -/
structure OutR (base : Nat) (W : World) (v : Value) (vs : List Value) (L : List (List Int)) : Prop where
  own : W.ownsRow base 30 1 v vs.length vs
  len : vs.length = L.length
  rows : ∀ i (h1 : i < vs.length) (h2 : i < L.length), W.ownsRow base 3 1 vs[i] L[i].length (L[i].map (Value.int .i64))
theorem ty_ne : (3 : TypeId) ≠ 30 := by decide
theorem OutR.below {base : Nat} {W W' : World} {v : Value} {vs : List Value} {L : List (List Int)} (h : OutR base W v vs L) (hb : Below W.heap.size W W') : OutR base W' v vs L :=
  ⟨own_grown2 h.own (below_grown8 hb none) (fun g _ e => by cases e), h.len, fun i h1 h2 => own_grown2 (h.rows i h1 h2) (below_grown8 hb none) (fun g _ e => by cases e)⟩
theorem OutR.add {base : Nat} {W W' : World} {v v' : Value} {vs : List Value} {L : List (List Int)} (h : OutR base W v vs L) {x : Value} {l : List Int} (hx : W.ownsRow base 3 1 x l.length (l.map (Value.int .i64))) (hown : W'.ownsRow base 30 1 v' (vs.length + 1) (vs ++ [x])) (hg : W.grownBy W' v.ownBlock) : OutR base W' v' (vs ++ [x]) (L ++ [l]) := by
  refine ⟨by rw [List.length_append]; exact hown, by simp [h.len], fun i h1 h2 => ?_⟩
  by_cases hi : i < vs.length
  · rw [List.getElem_append_left hi]
    have e2 : (L ++ [l])[i]'h2 = L[i]'(by rw [← h.len]; exact hi) := List.getElem_append_left (by rw [← h.len]; exact hi)
    rw [e2]
    have hr := h.rows i hi (by rw [← h.len]; exact hi)
    exact own_grown2 hr hg (own_types hr h.own ty_ne)
  · have e1 : i = vs.length := by rw [List.length_append, List.length_singleton] at h1; omega
    subst e1
    have e2 : (vs ++ [x])[vs.length]'h1 = x := List.getElem_concat_length rfl h1
    have e3 : (L ++ [l])[vs.length]'h2 = l := List.getElem_concat_length h.len h2
    rw [e2, e3]
    exact own_grown2 hx hg (own_types hx h.own ty_ne)
theorem ints_news {W : World} {ad : Addr} {n c : Nat} {l : List Int} (h : RInts W (.slice (some ad) n c) l) : ∀ j u, (l.map (Value.int .i64))[j]? = some u → W.cell? (ad.add j) = some u := fun j u hu => by
  rw [List.getElem?_map] at hu
  obtain ⟨z, hz, rfl⟩ := Option.map_eq_some_iff.1 hu
  obtain ⟨hj, rfl⟩ := List.getElem?_eq_some_iff.1 hz
  obtain ⟨b, o, he, q, -⟩ := ints_at h hj
  injection he with he
  subst he
  rw [plain_add]
  exact q
theorem run_append_ints8 (ty : TypeId) (a : Option Addr) (n c : Nat) (l : List Int) (W : World) (h : RInts W (.slice a n c) l) (hn : n ≤ 100) : ∃ v' w', (Builtin.append_ #[30, 30] ty #[.slice none 0 0, .slice a n c]).run Try.prog W = .ok v' w' ∧ w'.ownsRow W.heap.size 3 1 v' l.length (l.map (Value.int .i64)) ∧ Below W.heap.size W w' := by
  obtain ⟨ii, hi, hzz⟩ := Option.map_eq_some_iff.1 info_int
  obtain ⟨hz0, hz1⟩ := Prod.mk.inj hzz
  obtain ⟨hz1, hz2⟩ := Prod.mk.inj hz1
  have hln : l.length = n := by
    obtain ⟨a1, c1, hv, -⟩ := h
    simp only [Value.slice.injEq] at hv
    exact hv.2.1.symm
  cases a with
  | none =>
    have h0 : n = 0 := by
      rcases Nat.eq_zero_or_pos n with h1 | h1
      · exact h1
      · obtain ⟨b, o, he, -⟩ := rsl_at h (i := 0) (by omega)
        cases he
    subst h0
    have hl0 : l = [] := List.eq_nil_of_length_eq_zero hln
    subst hl0
    exact ⟨.slice none 0 0, W, run_append_nothing W _ _ ty 3 ii Try.underlying30 hi none 0 0 (Nat.le_refl _) _ (Src.ofNil W Try.underlying30 c), World.ownsRow_nil _ _ _ _, Below.refl _ _⟩
  | some ad =>
    obtain ⟨v', w', hr, h2, h3, -, -⟩ := run_append_own_at (P := Try.prog) W W.heap.size 30 ty 3 ii _ 1 8 Try.underlying30 hi hz0 hz1 hz2 rfl (by decide) (.slice none 0 0) 0 [] (World.ownsRow_nil _ _ _ _) ad n c (l.map (Value.int .i64)) (by simp [hln]) (ints_news h) (fun u hu => by obtain ⟨z, -, rfl⟩ := List.mem_map.1 hu; rfl) (by unfold maxLen; omega) (by omega) (Nat.le_refl _)
    rw [Nat.zero_add, List.nil_append] at h2
    rw [hln]
    exact ⟨v', w', hr, h2, ⟨h3.os, h3.tape, h3.output, h3.size, fun k hk => h3.block k hk (fun e => by cases e)⟩⟩
theorem step_nil_ints8 {ops : Array Oper} {o : Oper} {a : Act} {K : Act → World → Prop} {Q : Exit → Act → World → Prop} {E : Prop} {w : World} (hgd : o.guard = none) (s x : Operand)
    (ho : o.op = .call { callee := .builtin .append, args := #[s, x], argTypes := #[30, 30] }) (hs : a.eval s = .slice none 0 0) (ad : Option Addr) (n c : Nat) (l : List Int) (hx : a.eval x = .slice ad n c) (hl : RInts w (.slice ad n c) l) (hn : n ≤ 100)
    (h : ∀ v' w', w'.ownsRow w.heap.size 3 1 v' l.length (l.map (Value.int .i64)) → Below w.heap.size w w' → K (a.put o.dst v') w') :
    if Region.wanted o (yielded ops a.tmps) = true then Oper.wp Try.prog o a w K Q else E := by
  have hw : Region.wanted o (yielded ops a.tmps) = true := by simp [Region.wanted, hgd]
  rw [if_pos hw]
  obtain ⟨v', w', hr, h2, h3⟩ := run_append_ints8 o.type ad n c l w hl hn
  unfold Oper.wp execOp
  simp only [ho, resolve, invoke, builtin, Sem.run_bind, Sem.run_pure, Result.andThen_ok, List.map_toArray, List.map_cons, List.map_nil, hs, hx, hr]
  exact h _ _ h2 h3
theorem gat_len {s : Sn} (hna : s.arts.length ≤ 8) (k : Nat) : ∀ (r : Nat) (l : List Int), (gatL s k r l).length ≤ 9 ^ r
  | 0, l => by rw [gatL_zero]; split <;> simp
  | r + 1, l => by
    rw [gatL_succ]
    have h : ∀ (xs : List Int), (xs.flatMap fun a => gatL s k r (l ++ [a])).length ≤ xs.length * 9 ^ r := fun xs => by
      induction xs with
      | nil => simp
      | cons a xs ih =>
        rw [List.flatMap_cons, List.length_append, List.length_cons, Nat.succ_mul]
        have := gat_len hna k r (l ++ [a])
        omega
    refine Nat.le_trans (h _) ?_
    rw [artsI_len, Nat.pow_succ, Nat.mul_comm]
    exact Nat.mul_le_mul_left _ (by omega)
/-- what gathered answers. -/
def GatP (base : Nat) (W : World) (v : Value) (L : List (List Int)) (e : Ending) (w' : World) : Prop := ∃ v' vs', e = .returned v' ∧ OutR base w' v' vs' L ∧ W.grownBy w' v.ownBlock ∧ (∀ g, v'.ownBlock = some g → v.ownBlock = some g ∨ W.heap.size ≤ g)
end Go.Proofs.Ytdffhkbncencgaa

namespace Go.Proofs.Ytdffhkbncencgaa
open Go.RowKit Go.PlainAid
set_option linter.unusedVariables false
set_option linter.unusedSimpArgs false

theorem ty_neS : (30 : TypeId) ≠ 28 := by decide
theorem own_form8 {w : World} {base : Nat} {e : TypeId} {v : Value} {n : Nat} {xs : List Value} {size : Nat} (h : w.ownsRow base e size v n xs) : ∃ a c, v = .slice a n c := by
  rcases h.2 with ⟨h1, h2⟩ | ⟨g, cap, cur, h1, -⟩
  · exact ⟨none, 0, by rw [h1, h2]⟩
  · exact ⟨_, _, h1⟩
theorem ext_visb {base : Nat} {w V : World} (h : Below base w V) : Ext (vis (· < base) w) V := fun p x hp => by
  obtain ⟨h1, h2⟩ := vis_cell.1 hp
  rw [World.cell?_of_block (h.block p.block h1)]
  exact h2
theorem visb_up {base : Nat} {w V : World} (h : Below base w V) : Ext (vis (· < base) w) (vis (· < base) V) := fun p x hp => vis_cell.2 ⟨(vis_cell.1 hp).1, ext_visb h _ _ hp⟩
theorem visb_all (w : World) : Ext w (vis (· < w.heap.size) w) := fun p x hp => vis_cell.2 ⟨cell_lt hp, hp⟩
theorem grown_belowb {base : Nat} {X Y : World} {r : Option Nat} (h : X.grownBy Y r) (hr : ∀ g, r = some g → base ≤ g) (hb : base ≤ X.heap.size) : Below base X Y := ⟨h.os, h.tape, h.output, h.size, fun k hk => h.block k (by omega) (fun e => by have := hr k e.symm; omega)⟩
theorem flat_takeA {α β : Type} {l : List α} {f : α → List β} {j : Nat} {a : α} (h : l[j]? = some a) : (l.take (j + 1)).flatMap f = (l.take j).flatMap f ++ f a := by
  obtain ⟨hj, rfl⟩ := List.getElem?_eq_some_iff.1 h
  rw [List.take_succ_eq_append_getElem hj, List.flatMap_append]; simp

set_option maxHeartbeats 16000000 in
set_option maxRecDepth 100000 in
theorem gathered_any (s : Sn) (d : SA) (k : Nat) (ok : OkS s) (hk : k < s.ovens.length) : ∀ (r : Nat) (l : List Int) (al : Option Addr) (cl base : Nat) (w : World) (v : Value) (vs : List Value) (L : List (List Int)),
    SnD (vis (· < base) w) s d → w.ownsRow base 3 1 (.slice al l.length cl) l.length (l.map (Value.int .i64)) → ShOk s l → l.length + r = (mksAt s k).length → OutR base w v vs L → base ≤ w.heap.size → L.length + 9 ^ r ≤ 1000000 →
    Calls Try.prog 59 #[.agg #[.int .i64 s.days, .slice d.a1 s.arts.length d.c1, .slice d.a2 s.ovens.length d.c2, .slice d.a3 s.mks.length d.c3, .slice d.a4 s.jobs.length d.c4, .slice d.a5 s.cols.length d.c5, .slice d.a6 s.ods.length d.c6], .int .i64 k, .slice al l.length cl, v] w (GatP base w v (L ++ gatL s k r l)) := by
  have hnm := ok.nm
  have hna := ok.na
  obtain ⟨ij, hi, hzz⟩ := Option.map_eq_some_iff.1 info_ints
  obtain ⟨hz0, hz1⟩ := Prod.mk.inj hzz
  obtain ⟨hz1, hz2⟩ := Prod.mk.inj hz1
  clear hzz
  obtain ⟨ii, gi, hzz⟩ := Option.map_eq_some_iff.1 info_int
  obtain ⟨gz0, gz1⟩ := Prod.mk.inj hzz
  obtain ⟨gz1, gz2⟩ := Prod.mk.inj gz1
  clear hzz
  intro r
  induction r with
  | zero =>
    intro l al cl base w v vs L h hown hs hlen hout hbase hbn
    have HS := Lib.hid (fun V (hV : Below base w V) => SnD.mono (ext_visb hV) h)
    have hA := below_box w (.cells #[.int .i64 s.days, .slice d.a1 s.arts.length d.c1, .slice d.a2 s.ovens.length d.c2, .slice d.a3 s.mks.length d.c3, .slice d.a4 s.jobs.length d.c4, .slice d.a5 s.cols.length d.c5, .slice d.a6 s.ods.length d.c6] 28)
    have hB := Blk.new w #[.int .i64 s.days, .slice d.a1 s.arts.length d.c1, .slice d.a2 s.ovens.length d.c2, .slice d.a3 s.mks.length d.c3, .slice d.a4 s.jobs.length d.c4, .slice d.a5 s.cols.length d.c5, .slice d.a6 s.ods.length d.c6] 28
    have hl6 : l.length ≤ 6 := by have := mksAt_len s k; omega
    have h64 : ∀ y ∈ l, I64 y := fun y hy => by have := hs y hy; unfold I64; omega
    go_enter Try.func59, Try.ntmps59
    go_upto_region 1 with (fail)
    generalize w.alloc (.cells #[.int .i64 s.days, .slice d.a1 s.arts.length d.c1, .slice d.a2 s.ovens.length d.c2, .slice d.a3 s.mks.length d.c3, .slice d.a4 s.jobs.length d.c4, .slice d.a5 s.cols.length d.c5, .slice d.a6 s.ods.length d.c6] 28) = W at *
    have x0 := hB.cell 0 _ rfl
    have x1 := hB.cell 1 _ rfl
    have x2 := hB.cell 2 _ rfl
    have x3 := hB.cell 3 _ rfl
    have x4 := hB.cell 4 _ rfl
    have x5 := hB.cell 5 _ rfl
    have x6 := hB.cell 6 _ rfl
    go_wp2_with fail
    refine (rAt_any s d (k : Int) W (HS.out _ (hA.mono hbase)) hnm).mono ?_
    rintro e w1 ⟨⟨vm, rfl, hv⟩, hb⟩
    replace hv := hv.mono vis_out
    obtain ⟨am, cm, rfl⟩ := hv.shape
    clear hv
    clear x0 x1 x2 x3 x4 x5 x6
    replace hB := hB.below hb hB.lt
    replace hA := hA.trans (hb.mono hA.size)
    clear hb
    have hq : ((l.length : Int) == ((mksAt s k).length : Int)) = true := by simp; omega
    have hll : l.length = (mksAt s k).length := by omega
    have HLL := Lib.hid hll
    clear hlen hll
    generalize hmn : (mksAt s (k : Int)).length = mn at *
    have HMN := Lib.hid hmn
    clear hmn
    have x0 := hB.cell 0 _ rfl
    have x1 := hB.cell 1 _ rfl
    have x2 := hB.cell 2 _ rfl
    have x3 := hB.cell 3 _ rfl
    have x4 := hB.cell 4 _ rfl
    have x5 := hB.cell 5 _ rfl
    have x6 := hB.cell 6 _ rfl
    have hownA := own_grown2 hown (below_grown8 hA none) (fun q _ e => by cases e)
    have hRI : RInts w1 (.slice al l.length cl) l := own_RInts hownA (by omega) h64
    go_wp2_with fail
    refine (rmay_any s d k l al cl w1 (HS.out _ (hA.mono hbase)) ok hk hRI hs (by rw [HMN.out]; exact HLL.out)).mono ?_
    rintro e w2 ⟨rfl, hb⟩
    clear x0 x1 x2 x3 x4 x5 x6
    replace hA := hA.trans (hb.mono hA.size)
    clear hb hownA hRI hB
    have hout2 := hout.below hA
    have hown2 := own_grown2 hown (below_grown8 hA none) (fun q _ e => by cases e)
    cases hm : mayL s k l with
    | false =>
      have HX : Hid (GatP base w v (L ++ gatL s k 0 l) (.returned v) w2) := Lib.hid ⟨v, vs, rfl, by rw [gatL_zero, hm]; simpa using hout2, below_grown8 hA _, fun g hg => .inl hg⟩
      clear hout hown hout2 hown2 hA hm h
      go_wp2
      go_ret
      exact HX.out
    | true =>
      have hownX := hout2.own.alloc (.cells #[.slice al l.length cl] 30)
      have houtX := hout2.below (below_box w2 (.cells #[.slice al l.length cl] 30))
      have hownL := hown2.alloc (.cells #[.slice al l.length cl] 30)
      have hAX := hA.alloc hA.size (.cells #[.slice al l.length cl] 30)
      have hvl : vs.length ≤ 1000000 := by rw [hout.len]; omega
      have hvlow : ∀ q, v.ownBlock = some q → q < w.heap.size := own_lt hout.own
      have HM := Lib.hid hm
      have HOX := Lib.hid houtX
      have HOL := Lib.hid hownL
      have HAX := Lib.hid hAX
      have hw2 : base ≤ w2.heap.size := Nat.le_trans hbase hA.size
      clear hout hown hout2 hown2 hA hm h houtX hownL hAX
      go_wp2_with (at_builtin; refine wpList_append_lies _ rfl _ _ 29 rfl base 30 ij (.slice none 0 0) 1 24 Try.underlying29 hi hz0 hz1 hz2 rfl (by decide) _ vs.length _ rfl hownX ⟨w2.heap.size, 0, none⟩ 1 1 [.slice al l.length cl] rfl rfl (by have := cell_one_new w2 (.slice al l.length cl) 30; simpa using this) (by simp [Value.oneCell']) (by omega) (by unfold maxLen; omega) (by omega) (by simp; omega) _ rfl ?_; intro g6 k6 w6 hown6 hgrow6 hat6 hlt6)
      have HX : Hid (GatP base w v (L ++ gatL s k 0 l) (.returned (.slice (some ⟨g6, 0, none⟩) (vs.length + 1) k6)) w6) := Lib.hid ⟨_, vs ++ [.slice al l.length cl], rfl, by rw [gatL_zero, HM.out]; exact HOX.out.add HOL.out hown6 hgrow6, grown_trans (below_grown8 HAX.out _) hgrow6 (fun q e => .inl e), fun q hq => by
        have hgq : g6 = q := by injection hq
        rcases hat6 with h1 | h1
        · exact .inl ((show v.ownBlock = some g6 from h1).trans (by rw [hgq]))
        · refine .inr ?_
          have := HAX.out.size
          omega⟩
      clear hown6 hgrow6 hat6 hlt6 hownX
      go_wp2
      go_ret
      exact HX.out
  | succ r ih =>
    intro l al cl base w v vs L h hown hs hlen hout hbase hbn
    have HS := Lib.hid (fun V (hV : Below base w V) => SnD.mono (ext_visb hV) h)
    have hA := below_box w (.cells #[.int .i64 s.days, .slice d.a1 s.arts.length d.c1, .slice d.a2 s.ovens.length d.c2, .slice d.a3 s.mks.length d.c3, .slice d.a4 s.jobs.length d.c4, .slice d.a5 s.cols.length d.c5, .slice d.a6 s.ods.length d.c6] 28)
    have hB := Blk.new w #[.int .i64 s.days, .slice d.a1 s.arts.length d.c1, .slice d.a2 s.ovens.length d.c2, .slice d.a3 s.mks.length d.c3, .slice d.a4 s.jobs.length d.c4, .slice d.a5 s.cols.length d.c5, .slice d.a6 s.ods.length d.c6] 28
    have hl6 : l.length ≤ 6 := by have := mksAt_len s k; omega
    have h64 : ∀ y ∈ l, I64 y := fun y hy => by have := hs y hy; unfold I64; omega
    go_enter Try.func59, Try.ntmps59
    go_upto_region 1 with (fail)
    generalize w.alloc (.cells #[.int .i64 s.days, .slice d.a1 s.arts.length d.c1, .slice d.a2 s.ovens.length d.c2, .slice d.a3 s.mks.length d.c3, .slice d.a4 s.jobs.length d.c4, .slice d.a5 s.cols.length d.c5, .slice d.a6 s.ods.length d.c6] 28) = W at *
    have x0 := hB.cell 0 _ rfl
    have x1 := hB.cell 1 _ rfl
    have x2 := hB.cell 2 _ rfl
    have x3 := hB.cell 3 _ rfl
    have x4 := hB.cell 4 _ rfl
    have x5 := hB.cell 5 _ rfl
    have x6 := hB.cell 6 _ rfl
    go_wp2_with fail
    refine (rAt_any s d (k : Int) W (HS.out _ (hA.mono hbase)) hnm).mono ?_
    rintro e w1 ⟨⟨vm, rfl, hv⟩, hb⟩
    replace hv := hv.mono vis_out
    obtain ⟨am, cm, rfl⟩ := hv.shape
    clear hv
    clear x0 x1 x2 x3 x4 x5 x6
    replace hB := hB.below hb hB.lt
    replace hA := hA.trans (hb.mono hA.size)
    clear hb
    have hq : ((l.length : Int) == ((mksAt s k).length : Int)) = false := by rw [beq_eq_false_iff_ne]; omega
    have h0 := h
    go_upto_region 6 with (fail)
    have hA0 := hA
    have hownA := own_grown2 hown (below_grown8 hA none) (fun q _ e => by cases e)
    have houtA := hout.below hA
    have hAr := h
    clear h
    go_loopw [3, 9] (fun u i wr => ∃ (j : Nat) (vs' : List Value) (L' : List (List Int)), j ≤ s.arts.length + 1 ∧ i = .int .i64 ((j : Int) - 1) ∧ Hid (L' = L ++ ((artsI s).take j).flatMap fun a => gatL s k r (l ++ [a])) ∧ Hid (OutR base wr u vs' L') ∧ Hid (w.grownBy wr v.ownBlock) ∧ Hid (∀ g, u.ownBlock = some g → v.ownBlock = some g ∨ w.heap.size ≤ g) ∧ Hid (L'.length ≤ L.length + j * 9 ^ r) ∧ Blk wr w.heap.size #[.int .i64 s.days, .slice d.a1 s.arts.length d.c1, .slice d.a2 s.ovens.length d.c2, .slice d.a3 s.mks.length d.c3, .slice d.a4 s.jobs.length d.c4, .slice d.a5 s.cols.length d.c5, .slice d.a6 s.ods.length d.c6] 28 ∧ Hid (wr.ownsRow base 3 1 (.slice al l.length cl) l.length (l.map (Value.int .i64)))) (fun _ i _ => (s.arts.length - intOf i).toNat)
    case atStart => exact ⟨0, vs, L, by omega, rfl, Lib.hid (by simp), Lib.hid houtA, Lib.hid (below_grown8 hA _), Lib.hid (fun g hg => .inl hg), Lib.hid (by omega), hB, Lib.hid hownA⟩
    case round =>
      obtain ⟨j, vs', L', hj, rfl, hx, HOUT, HG, HAT, hln, hBr, HOX⟩ := hrel
      clear hB hownA houtA hA hA0 hAr
      have hbv : ∀ g, v.ownBlock = some g → base ≤ g := fun g hg => (hout.own.lt g hg).1
      have HBB : Hid (Below base w wr) := Lib.hid (grown_belowb HG.out hbv hbase)
      have HBZ : Hid (base ≤ wr.heap.size) := Lib.hid (Nat.le_trans hbase HG.out.size)
      have x1 := hBr.cell 1 _ rfl
      by_cases hlt : j < s.arts.length + 1
      · have hcond : ((j : Int) - 1 < (s.arts.length : Int)) := by omega
        have hat := artsI_at (s := s) hlt
        have HMEM : Hid ((j : Int) - 1 ∈ artsI s) := Lib.hid (List.mem_of_getElem? hat)
        have HLX : Hid (L' ++ gatL s k r (l ++ [(j : Int) - 1]) = L ++ ((artsI s).take (j + 1)).flatMap fun a => gatL s k r (l ++ [a])) := Lib.hid (by rw [flat_takeA hat, hx.out, List.append_assoc])
        have hgl8 := gat_len hna k r (l ++ [(j : Int) - 1])
        have hln0 := hln.out
        have hpow : 9 ^ (r + 1) = 9 ^ r * 9 := Nat.pow_succ ..
        have hjm : (j + 1) * 9 ^ r ≤ 9 * 9 ^ r := Nat.mul_le_mul_right _ (by omega)
        have hjs : (j + 1) * 9 ^ r = j * 9 ^ r + 9 ^ r := Nat.succ_mul ..
        have HLN : Hid ((L' ++ gatL s k r (l ++ [(j : Int) - 1])).length ≤ L.length + (j + 1) * 9 ^ r) := Lib.hid (by rw [List.length_append, hjs]; omega)
        have HBN : Hid (L'.length + 9 ^ r ≤ 1000000) := Lib.hid (by omega)
        clear hx hln hln0 hpow hjm hjs hgl8 hat hbn
        have zj : wrap64 ((j : Int) - 1 + 1) = (j : Int) := by rw [wrap_id _ (by unfold I64; omega)]; omega
        have hh : ∀ V, Below wr.heap.size wr V → RInts V (.slice al l.length cl) l := fun V hV => own_RInts (own_grown2 HOX.out (below_grown8 hV none) (fun q _ e => by cases e)) (by omega) h64
        go_upto_region 8 with (fail)
        clear x1
        have D0 : Below wr.heap.size wr wr.drew := (Below.refl _ _).drew
        have hsv : ∀ V, Below wr.heap.size wr V → (fun w' : World => w'.rangeAt w.heap.size 0 (#[.int .i64 s.days, .slice d.a1 s.arts.length d.c1, .slice d.a2 s.ovens.length d.c2, .slice d.a3 s.mks.length d.c3, .slice d.a4 s.jobs.length d.c4, .slice d.a5 s.cols.length d.c5, .slice d.a6 s.ods.length d.c6]).toList) V := fun V hV => (hBr.below hV hBr.lt).range
        refine wp_region_till (fun w' : World => w'.rangeAt w.heap.size 0 (#[.int .i64 s.days, .slice d.a1 s.arts.length d.c1, .slice d.a2 s.ovens.length d.c2, .slice d.a3 s.mks.length d.c3, .slice d.a4 s.jobs.length d.c4, .slice d.a5 s.cols.length d.c5, .slice d.a6 s.ods.length d.c6]).toList) 10 (by kernel_rfl) (hsv _ D0) (fun hHeld => ?_)
        refine Till.take 0 (some 33) (v := .agg #[.int .i64 s.days, .slice d.a1 s.arts.length d.c1, .slice d.a2 s.ovens.length d.c2, .slice d.a3 s.mks.length d.c3, .slice d.a4 s.jobs.length d.c4, .slice d.a5 s.cols.length d.c5, .slice d.a6 s.ods.length d.c6]) rfl rfl (by kernel_rfl) (by kernel_rfl) (by kernel_rfl) (by kernel_rfl) (fun _ _ _ h => h) (yieldsIf_load_mid rfl 28 (Operand.tmp 4) rfl (w.heap.size) 0 rfl (#[.int .i64 s.days, .slice d.a1 s.arts.length d.c1, .slice d.a2 s.ovens.length d.c2, .slice d.a3 s.mks.length d.c3, .slice d.a4 s.jobs.length d.c4, .slice d.a5 s.cols.length d.c5, .slice d.a6 s.ods.length d.c6]).toList _ (fun _ h => h) Try.underlying28 rfl (by rw [sz_season]; rfl)) (by assumption) ?_
        try simp only [Act.put, List.setIfInBounds_toArray, List.set_cons_zero, List.set_cons_succ]
        refine Till.take 1 (some 34) (v := ?_) rfl rfl (by kernel_rfl) (by kernel_rfl) (by kernel_rfl) (by kernel_rfl) (fun _ _ _ h => h) (Or.inl ⟨by rfl, ?_⟩) (by assumption) ?_
        rotate_left
        · (intro w hSw; (try dsimp only at hSw); go_simp; try with_reducible rfl)
        try simp only [Act.put, List.setIfInBounds_toArray, List.set_cons_zero, List.set_cons_succ]
        refine Till.take 2 (some 35) (v := ?_) rfl rfl (by kernel_rfl) (by kernel_rfl) (by kernel_rfl) (by kernel_rfl) (fun _ _ _ h => h) (Or.inl ⟨by rfl, ?_⟩) (by assumption) ?_
        rotate_left
        · (intro w hSw; (try dsimp only at hSw); go_simp; try with_reducible rfl)
        try simp only [Act.put, List.setIfInBounds_toArray, List.set_cons_zero, List.set_cons_succ]
        refine Till.take 4 (some 37) (v := ?_) rfl rfl (by kernel_rfl) (by kernel_rfl) (by kernel_rfl) (by kernel_rfl) (fun _ _ _ h => h) (Or.inl ⟨by rfl, ?_⟩) (by assumption) ?_
        rotate_left
        · (intro w hSw; (try dsimp only at hSw); go_simp; try with_reducible rfl)
        try simp only [Act.put, List.setIfInBounds_toArray, List.set_cons_zero, List.set_cons_succ]
        refine Till.take 7 (some 40) (v := ?_) rfl rfl (by kernel_rfl) (by kernel_rfl) (by kernel_rfl) (by kernel_rfl) (fun _ _ _ h => h) (Or.inl ⟨by rfl, ?_⟩) (by assumption) ?_
        rotate_left
        · (intro w hSw; (try dsimp only at hSw); go_simp; try with_reducible rfl)
        try simp only [Act.put, List.setIfInBounds_toArray, List.set_cons_zero, List.set_cons_succ]
        refine Till.two 3 5 rfl rfl (by kernel_rfl) (fun K hK => ?_) (fun K hK => ?_)
        · refine step_nil_ints8 rfl _ _ rfl rfl al l.length cl l rfl (hh _ D0) (by omega) (fun va wa hoa hba => ?_)
          have D1 := D0.trans (hba.mono D0.size)
          obtain ⟨pa, qa, rfl⟩ := own_form8 hoa
          refine hK.out _ _ (fun _ => hsv _ D1) (fun hHeld => ?_)
          clear hK K
          try simp only [Act.put, List.setIfInBounds_toArray]
          refine Till.one 5 rfl (by kernel_rfl) (fun K hK => ?_)
          go_simp
          have BK := Blk.new wa #[.int .i64 ((j : Int) - 1)] 3
          have D2 := D1.alloc D1.size (.cells #[.int .i64 ((j : Int) - 1)] 3)
          have hoa2 : (wa.alloc (.cells #[.int .i64 ((j : Int) - 1)] 3)).ownsRow wr.heap.size 3 1 (.slice pa l.length qa) l.length (l.map (Value.int .i64)) := hoa.alloc (.cells #[.int .i64 ((j : Int) - 1)] 3)
          refine hK.out _ _ (fun _ => hsv _ D2) (fun hHeld => ?_)
          clear hK K
          try simp only [Act.put, List.setIfInBounds_toArray]
          refine Till.one 6 rfl (by kernel_rfl) (fun K hK => ?_)
          refine step_append_lies _ rfl _ _ 30 rfl wr.heap.size 3 ii (.int .i64 0) 1 8 Try.underlying30 gi gz0 gz1 gz2 rfl (by decide) _ l.length (l.map (Value.int .i64)) rfl hoa2 ⟨wa.heap.size, 0, none⟩ 1 1 [.int .i64 ((j : Int) - 1)] rfl rfl (World.news_of_block BK) (by simp [Value.oneCell']) (by decide) (by unfold maxLen; omega) (by omega) D2.size _ rfl (fun g cap wb hob hgb hgg hgl => ?_)
          have D3 : Below wr.heap.size wr wb := D2.grown hgb D2.size (fun q e => (hoa2.lt q e).1)
          refine hK.out _ _ (fun _ => hsv _ D3) (fun hHeld => ?_)
          clear hK K
          try simp only [Act.put, List.setIfInBounds_toArray, List.set_cons_zero, List.set_cons_succ]
          refine Till.one 8 rfl (by kernel_rfl) (fun K hK => ?_)
          go_simp
          go_at_call 59
          have hob2 : wb.ownsRow base 3 1 (.slice (some ⟨g, 0, none⟩) (l ++ [(j : Int) - 1]).length cap) (l ++ [(j : Int) - 1]).length ((l ++ [(j : Int) - 1]).map (Value.int .i64)) := by
            rw [List.length_append, List.length_singleton, List.map_append]
            exact own_base8 hob HBZ.out
          have hbwb : Below base w wb := HBB.out.trans (D3.mono HBZ.out)
          have houtb := HOUT.out.below D3
          have hih := ih (l ++ [(j : Int) - 1]) (some ⟨g, 0, none⟩) cap base wb u3 vs' L' (h0.mono (visb_up hbwb)) hob2 (hs.app HMEM.out) (by rw [List.length_append, List.length_singleton]; omega) houtb (Nat.le_trans HBZ.out D3.size) HBN.out
          rw [List.length_append, List.length_singleton] at hih
          refine hih.mono ?_
          rintro e wf ⟨vf, vsf, rfl, houtf, hgf, hatf⟩
          have hneq := own_neq houtb.own (hBr.below D3 hBr.lt) ty_neS
          have hBf := (hBr.below D3 hBr.lt).grown hgf hneq
          have hsf : (fun w' : World => w'.rangeAt w.heap.size 0 (#[.int .i64 s.days, .slice d.a1 s.arts.length d.c1, .slice d.a2 s.ovens.length d.c2, .slice d.a3 s.mks.length d.c3, .slice d.a4 s.jobs.length d.c4, .slice d.a5 s.cols.length d.c5, .slice d.a6 s.ods.length d.c6]).toList) wf := hBf.range
          refine hK.out _ _ (fun _ => hsf) (fun hHeld => ?_)
          clear hK K
          try simp only [Act.put, List.setIfInBounds_toArray, List.set_cons_zero, List.set_cons_succ]
          refine Till.take 9 (some 3) (v := ?_) rfl rfl (by kernel_rfl) (by kernel_rfl) (by kernel_rfl) (by kernel_rfl) (fun _ _ _ h => h) (Or.inl ⟨by rfl, ?_⟩) (by assumption) ?_
          rotate_left
          · (intro w hSw; (try dsimp only at hSw); go_simp; try with_reducible rfl)
          try simp only [Act.put, List.setIfInBounds_toArray, List.set_cons_zero, List.set_cons_succ]
          refine Till.done (by kernel_rfl) ?_ _
          have hoxb := own_grown2 HOX.out (below_grown8 D3 none) (fun q _ e => by cases e)
          have HOXF := Lib.hid (own_grown2 hoxb hgf (own_types hoxb houtb.own ty_ne))
          have HGF : Hid (w.grownBy wf v.ownBlock) := Lib.hid (grown_trans (grown_trans HG.out (below_grown8 D3 none) (fun q e => by cases e)) hgf (fun q e => HAT.out q e))
          have HATF : Hid (∀ g, vf.ownBlock = some g → v.ownBlock = some g ∨ w.heap.size ≤ g) := Lib.hid (fun q e => by
            rcases hatf q e with h1 | h1
            · exact HAT.out q h1
            · exact .inr (Nat.le_trans (Nat.le_trans HG.out.size D3.size) h1))
          have HOUTF := Lib.hid houtf
          have HBF := Lib.hid hBf
          clear hsf hHeld hih hob2 hob hgb hgg hgl hgf hatf hoa2 houtf hBf hoxb houtb hneq hbwb D3 D2 D1 D0 hba hsv hBr
          go_wp2
          go_roundw
          case rel => exact ⟨j + 1, vsf, L' ++ gatL s k r (l ++ [(j : Int) - 1]), by omega, by go_num, HLX, HOUTF, HGF, HATF, HLN, HBF.out, HOXF⟩
          case measure => simp [intOf]; omega
        · go_simp
          have BK0 := Blk.new wr.drew #[.int .i64 ((j : Int) - 1)] 3
          have D1 := D0.alloc D0.size (.cells #[.int .i64 ((j : Int) - 1)] 3)
          refine hK.out _ _ (fun _ => hsv _ D1) (fun hHeld => ?_)
          clear hK K
          try simp only [Act.put, List.setIfInBounds_toArray]
          refine Till.one 3 rfl (by kernel_rfl) (fun K hK => ?_)
          refine step_nil_ints8 rfl _ _ rfl rfl al l.length cl l rfl (hh _ D1) (by omega) (fun va wa hoa hba => ?_)
          have D2 := D1.trans (hba.mono D1.size)
          have hoa2 := own_base8 hoa D1.size
          have BK := BK0.below hba BK0.lt
          obtain ⟨pa, qa, rfl⟩ := own_form8 hoa2
          refine hK.out _ _ (fun _ => hsv _ D2) (fun hHeld => ?_)
          clear hK K
          try simp only [Act.put, List.setIfInBounds_toArray]
          refine Till.one 6 rfl (by kernel_rfl) (fun K hK => ?_)
          refine step_append_lies _ rfl _ _ 30 rfl wr.heap.size 3 ii (.int .i64 0) 1 8 Try.underlying30 gi gz0 gz1 gz2 rfl (by decide) _ l.length (l.map (Value.int .i64)) rfl hoa2 ⟨wr.drew.heap.size, 0, none⟩ 1 1 [.int .i64 ((j : Int) - 1)] rfl rfl (World.news_of_block BK) (by simp [Value.oneCell']) (by decide) (by unfold maxLen; omega) (by omega) D2.size _ rfl (fun g cap wb hob hgb hgg hgl => ?_)
          have D3 : Below wr.heap.size wr wb := D2.grown hgb D2.size (fun q e => (hoa2.lt q e).1)
          refine hK.out _ _ (fun _ => hsv _ D3) (fun hHeld => ?_)
          clear hK K
          try simp only [Act.put, List.setIfInBounds_toArray, List.set_cons_zero, List.set_cons_succ]
          refine Till.one 8 rfl (by kernel_rfl) (fun K hK => ?_)
          go_simp
          go_at_call 59
          have hob2 : wb.ownsRow base 3 1 (.slice (some ⟨g, 0, none⟩) (l ++ [(j : Int) - 1]).length cap) (l ++ [(j : Int) - 1]).length ((l ++ [(j : Int) - 1]).map (Value.int .i64)) := by
            rw [List.length_append, List.length_singleton, List.map_append]
            exact own_base8 hob HBZ.out
          have hbwb : Below base w wb := HBB.out.trans (D3.mono HBZ.out)
          have houtb := HOUT.out.below D3
          have hih := ih (l ++ [(j : Int) - 1]) (some ⟨g, 0, none⟩) cap base wb u3 vs' L' (h0.mono (visb_up hbwb)) hob2 (hs.app HMEM.out) (by rw [List.length_append, List.length_singleton]; omega) houtb (Nat.le_trans HBZ.out D3.size) HBN.out
          rw [List.length_append, List.length_singleton] at hih
          refine hih.mono ?_
          rintro e wf ⟨vf, vsf, rfl, houtf, hgf, hatf⟩
          have hneq := own_neq houtb.own (hBr.below D3 hBr.lt) ty_neS
          have hBf := (hBr.below D3 hBr.lt).grown hgf hneq
          have hsf : (fun w' : World => w'.rangeAt w.heap.size 0 (#[.int .i64 s.days, .slice d.a1 s.arts.length d.c1, .slice d.a2 s.ovens.length d.c2, .slice d.a3 s.mks.length d.c3, .slice d.a4 s.jobs.length d.c4, .slice d.a5 s.cols.length d.c5, .slice d.a6 s.ods.length d.c6]).toList) wf := hBf.range
          refine hK.out _ _ (fun _ => hsf) (fun hHeld => ?_)
          clear hK K
          try simp only [Act.put, List.setIfInBounds_toArray, List.set_cons_zero, List.set_cons_succ]
          refine Till.take 9 (some 3) (v := ?_) rfl rfl (by kernel_rfl) (by kernel_rfl) (by kernel_rfl) (by kernel_rfl) (fun _ _ _ h => h) (Or.inl ⟨by rfl, ?_⟩) (by assumption) ?_
          rotate_left
          · (intro w hSw; (try dsimp only at hSw); go_simp; try with_reducible rfl)
          try simp only [Act.put, List.setIfInBounds_toArray, List.set_cons_zero, List.set_cons_succ]
          refine Till.done (by kernel_rfl) ?_ _
          have hoxb := own_grown2 HOX.out (below_grown8 D3 none) (fun q _ e => by cases e)
          have HOXF := Lib.hid (own_grown2 hoxb hgf (own_types hoxb houtb.own ty_ne))
          have HGF : Hid (w.grownBy wf v.ownBlock) := Lib.hid (grown_trans (grown_trans HG.out (below_grown8 D3 none) (fun q e => by cases e)) hgf (fun q e => HAT.out q e))
          have HATF : Hid (∀ g, vf.ownBlock = some g → v.ownBlock = some g ∨ w.heap.size ≤ g) := Lib.hid (fun q e => by
            rcases hatf q e with h1 | h1
            · exact HAT.out q h1
            · exact .inr (Nat.le_trans (Nat.le_trans HG.out.size D3.size) h1))
          have HOUTF := Lib.hid houtf
          have HBF := Lib.hid hBf
          clear hsf hHeld hih hob2 hob hgb hgg hgl hgf hatf hoa2 houtf hBf hoxb houtb hneq hbwb D3 D2 D1 D0 hba hsv hBr
          go_wp2
          go_roundw
          case rel => exact ⟨j + 1, vsf, L' ++ gatL s k r (l ++ [(j : Int) - 1]), by omega, by go_num, HLX, HOUTF, HGF, HATF, HLN, HBF.out, HOXF⟩
          case measure => simp [intOf]; omega
      · have hcond : ¬ ((j : Int) - 1 < (s.arts.length : Int)) := by omega
        have hjn : j = s.arts.length + 1 := by omega
        have HX : Hid (GatP base w v (L ++ gatL s k (r + 1) l) (.returned u3) wr) := Lib.hid ⟨u3, vs', rfl, by
          have := HOUT.out
          rw [hx.out, hjn, List.take_of_length_le (by rw [artsI_len]; omega)] at this
          rw [gatL_succ]
          exact this, HG.out, HAT.out⟩
        clear hx HOUT HG HAT hln hBr HOX HBB HBZ
        go_wp2
        go_ret
        exact HX.out
end Go.Proofs.Ytdffhkbncencgaa
