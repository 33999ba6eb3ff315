/- The stretches of a path, as a list that grows at its end: mathematics and the store of an element's end; no statement is proved here. -/
import Derived.Test.YtnldenjdbgfgmaaFmAm
import Derived.Test.YtnldenjdbgfgmaaFmStr
import Derived.Laws.OwnMore
import Derived.Test.YtnldenjdbgfgmaaFmRiF
import Derived.Test.YtnldenjdbgfgmaaFmRo
namespace Go.Proofs.Ytnldenjdbgfgmaa
open Go.RowKit Go.PlainAid
set_option linter.unusedVariables false
set_option linter.unusedSimpArgs false

/-- the stretches after some legs. -/
def cur (c h : Int) (l : List Sp) (s : Sp) (k : Nat) : List St := (runS c h l s k).1 ++ (runS c h l s k).2.toList
theorem cur_strE (c h : Int) (l : List Sp) (s : Sp) : cur c h l s (nL l) = strE c h l s := rfl
theorem cur_zero (c h : Int) (l : List Sp) (s : Sp) : cur c h l s 0 = [] := rfl
theorem cur_none {c h : Int} {l : List Sp} {s : Sp} {k : Nat} (hn : insF (lgA h l k) (lgB c h l k) s = none) : cur c h l s (k + 1) = cur c h l s k := by
  unfold cur
  rw [runS_none hn]
theorem cur_first {c h : Int} {l : List Sp} {s : Sp} {k : Nat} {n : St} (H : chkM c h l = 0) (hk : k < nL l) (h0 : cur c h l s k = []) (hn : insF (lgA h l k) (lgB c h l k) s = some n) : cur c h l s (k + 1) = [n] := by
  unfold cur at h0
  obtain ⟨h1, h2⟩ := List.append_eq_nil_iff.1 h0
  have h3 : (runS c h l s k).2 = none := by
    cases hp : (runS c h l s k).2 with
    | none => rfl
    | some p => rw [hp] at h2; simp at h2
  unfold cur
  rw [runS_first h3 hn]
  simp [h1]
theorem cur_last {c h : Int} {l : List Sp} {s : Sp} {k : Nat} (H : chkM c h l = 0) (hk : k < nL l) (h0 : cur c h l s k ≠ []) : ∃ D p, cur c h l s k = D ++ [p] ∧ runS c h l s k = (D, some p) := by
  obtain ⟨-, -, -, nil⟩ := run_ok (s := s) H k (by omega)
  cases hp : (runS c h l s k).2 with
  | none =>
    exfalso
    apply h0
    unfold cur
    rw [nil hp, hp]; rfl
  | some p =>
    refine ⟨(runS c h l s k).1, p, ?_, ?_⟩
    · unfold cur; rw [hp]; rfl
    · rw [← hp]
theorem cur_join {c h : Int} {l : List Sp} {s : Sp} {k : Nat} {D : List St} {p n : St} (hr : runS c h l s k = (D, some p)) (hn : insF (lgA h l k) (lgB c h l k) s = some n) (he : p.b = n.a) : cur c h l s (k + 1) = D ++ [⟨p.a, n.b⟩] := by
  unfold cur
  rw [runS_join (by rw [hr]) hn he, hr]
  rfl
theorem cur_more {c h : Int} {l : List Sp} {s : Sp} {k : Nat} {D : List St} {p n : St} (hk : k < nL l) (hr : runS c h l s k = (D, some p)) (hn : insF (lgA h l k) (lgB c h l k) s = some n) (he : p.b ≠ n.a) : cur c h l s (k + 1) = D ++ [p] ++ [n] := by
  unfold cur
  rw [(runS_yield hk (by rw [hr]) hn he).2, hr]
  rfl
theorem cur_ok {c h : Int} {l : List Sp} {s : Sp} {k : Nat} (H : chkM c h l = 0) (hk : k ≤ nL l) {x : St} (hx : x ∈ cur c h l s k) : EndOk x.a ∧ EndOk x.b := by
  have h1 := ((run_ok (s := s) H k hk).iv x hx).1
  exact ⟨h1.a, h1.b⟩
theorem cur_len {c h : Int} {l : List Sp} {s : Sp} (H : chkM c h l = 0) {k : Nat} (hk : k ≤ nL l) : (cur c h l s k).length ≤ k := by
  unfold cur
  rw [List.length_append]
  exact (runS_I64 H k hk).2.2
theorem cur_len16 {c h : Int} {l : List Sp} {s : Sp} (H : chkM c h l = 0) {k : Nat} (hk : k ≤ nL l) {L : List St} (hL : L = cur c h l s k) : L.length ≤ 16 := by
  have h1 := cur_len (s := s) H hk
  have h4 := (chkM_zero H).2.2.1
  rw [hL]
  unfold nL at hk
  omega
theorem if_max {k n : Nat} (h : k < max n 1) : (k : Int) < (if (n : Int) < 1 then 1 else (n : Int)) := by split <;> omega
theorem if_nmax {k n : Nat} (h : max n 1 ≤ k) : ¬ (k : Int) < (if (n : Int) < 1 then 1 else (n : Int)) := by split <;> omega
theorem end_cmp {p n : Rt} (hp : EndOk p) (hn : EndOk n) : cmpI (p.n * n.d) (n.n * p.d) = 0 ↔ p = n := by
  unfold cmpI
  constructor
  · intro h
    refine low_eq hp.d.1 hn.d.1 hp.g hn.g ?_
    split at h
    · omega
    · split at h <;> omega
  · rintro rfl
    rw [if_neg (by omega), if_neg (by omega)]
theorem ins_ends {x y s : Sp} (h : LegOk x y) {n : St} (hn : insF x y s = some n) : EndOk n.a ∧ EndOk n.b := (ins_some h hn).1
theorem ins_empty {x y s : Sp} (h : s.hi < s.lo) : insF x y s = none := by
  unfold insF
  rw [if_pos (by unfold highF lowF; omega)]
theorem strE_empty {c h : Int} {l : List Sp} {s : Sp} (hs : s.hi < s.lo) : strE c h l s = [] := by
  have h1 : ∀ k, runS c h l s k = ([], none) := by
    intro k
    induction k with
    | zero => rfl
    | succ k ih => rw [runS_none (ins_empty hs), ih]
  unfold strE
  rw [h1]; rfl
theorem flatS_len (L : List St) : (L.flatMap stC).length = L.length * 4 := by
  induction L with
  | nil => rfl
  | cons a L ih => simp only [List.flatMap_cons, List.length_append, ih, List.length_cons]; simp [stC]; omega
/-- the end of the last stretch is stored anew. -/
theorem own_join {w : World} {base g cap : Nat} {e : TypeId} {D : List St} {p : St} (q : Rt) (h : w.ownsRow base e 4 (.slice (some ⟨g, 0, none⟩) (D.length + 1) cap) (D.length + 1) ((D ++ [p]).flatMap stC)) :
    ((w.setCell ⟨g, D.length * 4 + 2, none⟩ (.int .i64 q.n)).setCell ⟨g, D.length * 4 + 3, none⟩ (.int .i64 q.d)).ownsRow base e 4 (.slice (some ⟨g, 0, none⟩) (D.length + 1) cap) (D.length + 1) ((D ++ [(⟨p.a, q⟩ : St)]).flatMap stC) := by
  have h1 := ((h.stored (D.length * 4 + 2) (.int .i64 q.n)).1.stored (D.length * 4 + 3) (.int .i64 q.d)).1
  have hfl := flatS_len D
  have e1 : (((D ++ [p]).flatMap stC).set (D.length * 4 + 2) (.int .i64 q.n)).set (D.length * 4 + 3) (.int .i64 q.d) = (D ++ [(⟨p.a, q⟩ : St)]).flatMap stC := by
    rw [List.flatMap_append, List.flatMap_append]
    generalize D.flatMap stC = F at *
    rw [List.set_append_right _ _ (by omega), List.set_append_right _ _ (by omega), show D.length * 4 + 2 - F.length = 2 by omega, show D.length * 4 + 3 - F.length = 3 by omega]
    rfl
  rw [e1] at h1
  exact h1
theorem own_end {w : World} {base g cap : Nat} {e : TypeId} {D : List St} {p : St} (h : w.ownsRow base e 4 (.slice (some ⟨g, 0, none⟩) (D.length + 1) cap) (D.length + 1) ((D ++ [p]).flatMap stC)) :
    w.cell? ⟨g, D.length * 4 + 2, none⟩ = some (.int .i64 p.b.n) ∧ w.cell? ⟨g, D.length * 4 + 3, none⟩ = some (.int .i64 p.b.d) := by
  have hfl := flatS_len D
  rw [h.cellAt (D.length * 4 + 2) (by omega), h.cellAt (D.length * 4 + 3) (by omega), List.flatMap_append, List.getElem?_append_right (by omega), List.getElem?_append_right (by omega), hfl, show D.length * 4 + 2 - D.length * 4 = 2 by omega, show D.length * 4 + 3 - D.length * 4 = 3 by omega]
  exact ⟨rfl, rfl⟩
end Go.Proofs.Ytnldenjdbgfgmaa

namespace Go.Proofs.Ytnldenjdbgfgmaa
open Go.RowKit Go.PlainAid
set_option linter.unusedVariables false
set_option linter.unusedSimpArgs false

/-- what the loop of stretches keeps. -/
structure RS (w : World) (L : List St) (s : Sp) (v : Value) (X : World) : Prop where
  s : Blk X w.heap.size #[.int .i64 s.lo, .int .i64 s.hi] 26
  own : X.ownsRow (w.heap.size + 1) 41 4 v L.length (L.flatMap stC)
  bel : Below w.heap.size w X
theorem RS.below {w X Y : World} {L : List St} {s : Sp} {v : Value} (h : RS w L s v X) (hb : Below X.heap.size X Y) : RS w L s v Y :=
  ⟨h.s.below hb h.s.lt, own_below h.own hb (fun g e => (h.own.lt g e).2), h.bel.trans (hb.mono h.bel.size)⟩

theorem ord_ends {p q : Rt} (hp : EndOk p) (hq : EndOk q) (V : World) : Calls Try.prog 42 #[.agg #[.int .i64 p.n, .int .i64 p.d], .agg #[.int .i64 q.n, .int .i64 q.d]] V fun e w' => e = .returned (.int .i64 (cmpI (p.n * q.d) (q.n * p.d))) ∧ Below V.heap.size V w' := by
  have h1 := hp.n; have h2 := hp.d; have h3 := hq.n; have h4 := hq.d
  exact order_any (p.d + q.d).toNat p.n p.d q.n q.d V (by unfold Num4; omega) (by unfold Den4; omega) (by unfold Num4; omega) (by unfold Den4; omega) (by omega)
theorem wrapK (n : Nat) (h : n ≤ 16) : IntKind.i64.wrap (n : Int) = n := by rw [IntKind.wrap_i64]; omega

set_option maxHeartbeats 8000000 in
set_option maxRecDepth 100000 in
theorem rstretches_any (c h : Int) (a : Option Addr) (cap : Nat) (l : List Sp) (s : Sp) (w : World) (hr : RSps w (.slice a l.length cap) l) (H : chkM c h l = 0)
    (hpi : ∀ (i : Nat) (V : World), RSps V (.slice a l.length cap) l → i < nL l → Calls Try.prog 49 #[.int .i64 c, .int .i64 h, .slice a l.length cap, .int .i64 i] V fun e w' => e = .returned (pcV (lgA h l i) (lgB c h l i)) ∧ Below V.heap.size V w')
    (hwi : s.lo ≤ s.hi → ∀ (x y : Sp) (V : World), LegOk x y → Calls Try.prog 52 #[.agg #[.int .i64 x.lo, .int .i64 x.hi], .agg #[.int .i64 y.lo, .int .i64 y.hi], .agg #[.int .i64 s.lo, .int .i64 s.hi]] V fun e w' => WithA x y s e ∧ Below V.heap.size V w') :
    Calls Try.prog 32 #[.int .i64 c, .int .i64 h, .slice a l.length cap, .agg #[.int .i64 s.lo, .int .i64 s.hi]] w fun e w' => (∃ v, e = .returned v ∧ RSts (vis (w.heap.size ≤ ·) w') v (strE c h l s)) ∧ Below w.heap.size w w' := by
  have hA := below_box w (.cells #[.int .i64 s.lo, .int .i64 s.hi] 26)
  have hB := Blk.new w #[.int .i64 s.lo, .int .i64 s.hi] 26
  have hml := (chkM_zero H).2.2.1
  have hnl : nL l ≤ 16 := by unfold nL; omega
  obtain ⟨i0, hi0, hzz⟩ := Option.map_eq_some_iff.1 info_stretch
  simp only [Prod.mk.injEq] at hzz
  obtain ⟨hz0, hz1, hz2⟩ := hzz
  have t0 := hB.cell 0 _ rfl
  have t1 := hB.cell 1 _ rfl
  have hw1 : (w.alloc (.cells #[.int .i64 s.lo, .int .i64 s.hi] 26)).heap.size = w.heap.size + 1 := by simp
  replace hw1 := And.intro (Nat.le_of_eq hw1) (Nat.le_of_eq hw1.symm)
  have HMX := Lib.hid (show max (l.length : Int) 1 = (nL l : Int) by unfold nL; omega)
  go_enter Try.func32, Try.ntmps32
  go_upto_region 2 with fail
  generalize w.alloc (.cells #[.int .i64 s.lo, .int .i64 s.hi] 26) = W at *
  by_cases hs : s.hi < s.lo
  · have hE := strE_empty (c := c) (h := h) (l := l) hs
    have HRS : Hid (RSts (vis (w.heap.size ≤ ·) W) (.slice none 0 0) (strE c h l s)) := Lib.hid (by rw [hE]; exact own_RSts (World.ownsRow_nil _ 0 41 4) (by simp) (fun x hx => by simp at hx))
    clear hB
    have HA := Lib.hid hA
    clear hA hE
    go_wp2
    refine ⟨rfl, .slice none 0 0, ?_, ⟨_, rfl, HRS.out⟩, HA.out⟩
    simp [results, Try.results32, go_sem]
  have hs' : s.lo ≤ s.hi := by omega
  have HPI := Lib.hid hpi
  have HWI := Lib.hid (hwi hs')
  have HR := Lib.hid hr
  have HH := Lib.hid H
  clear hpi hwi hr
  go_wp2_with fail
  clear t0 t1
  have hG : RS w [] s (.slice none 0 0) W := ⟨hB, World.ownsRow_nil _ _ _ _, hA⟩
  clear hA hB
  go_loopw [9, 10] (fun v i X => ∃ (k : Nat) (L : List St), k ≤ nL l ∧ i = .int .i64 k ∧ Hid (L = cur c h l s k) ∧ RS w L s v X) (fun _ i _ => nL l - (intOf i).toNat)
  case atStart => exact ⟨0, [], by omega, rfl, Lib.hid (cur_zero c h l s).symm, hG⟩
  case round =>
    obtain ⟨k, L, hk, rfl, HL, hGk⟩ := hrel
    clear hG
    by_cases hlt : k < nL l
    · have hok := legOk_of H hlt
      have zk := wrap_id ((k : Int) + 1) (by unfold I64; omega)
      have hlen : L.length ≤ 16 := cur_len16 H hk HL.out
      have HPC := Lib.hid (HPI.out k wr (HR.out.mono (ext_of_below hGk.bel)) hlt)
      have HOK := Lib.hid hok
      have HN0 : Hid (insF (lgA h l k) (lgB c h l k) s = none → L = cur c h l s (k + 1)) := Lib.hid (fun e => by rw [cur_none e]; exact HL.out)
      have HE0 : Hid (∀ n, insF (lgA h l k) (lgB c h l k) s = some n → EndOk n.a ∧ EndOk n.b) := Lib.hid (fun n e => ins_ends hok e)
      have HE1 : Hid (∀ x, x ∈ L → EndOk x.a ∧ EndOk x.b) := Lib.hid (fun x hx => cur_ok (s := s) H (show k ≤ nL l by omega) (by rw [← HL.out]; exact hx))
      have HN1 : Hid (∀ n, insF (lgA h l k) (lgB c h l k) s = some n → L = [] → [n] = cur c h l s (k + 1)) := Lib.hid (fun n e e0 => (cur_first H hlt (by rw [← HL.out]; exact e0) e).symm)
      have HN2 : Hid (∀ n, insF (lgA h l k) (lgB c h l k) s = some n → L ≠ [] → ∃ D p, L = D ++ [p] ∧ (p.b = n.a → D ++ [(⟨p.a, n.b⟩ : St)] = cur c h l s (k + 1)) ∧ (p.b ≠ n.a → D ++ [p] ++ [n] = cur c h l s (k + 1))) := Lib.hid (fun n e e0 => by
        obtain ⟨D, p, e1, e2⟩ := cur_last H hlt (by rw [← HL.out]; exact e0)
        exact ⟨D, p, HL.out.trans e1, fun e3 => (cur_join e2 e e3).symm, fun e3 => (cur_more hlt e2 e e3).symm⟩)
      clear hok HL H
      generalize lgA h l k = x at *
      generalize lgB c h l k = y at *
      have hmx : (if (l.length : Int) < 1 then 1 else (l.length : Int)) = (nL l : Int) := by unfold nL; split <;> omega
      have hmx2 : max (l.length : Int) 1 = (nL l : Int) := by unfold nL; omega
      go_wp2_with fail
      refine HPC.out.mono ?_
      rintro e w3 ⟨rfl, hb3⟩
      have hG3 := hGk.below hb3
      clear HPC hb3 hGk
      unfold pcV
      have hx : Below w3.heap.size w3 ((w3.alloc (.cells #[.int .i64 x.lo, .int .i64 x.hi] 47)).alloc (.cells #[.int .i64 y.lo, .int .i64 y.hi] 47)) := (below_box w3 _).alloc (by simp) _
      have hB1 := (Blk.new w3 #[.int .i64 x.lo, .int .i64 x.hi] 47).alloc (.cells #[.int .i64 y.lo, .int .i64 y.hi] 47)
      have hB2 := Blk.new (w3.alloc (.cells #[.int .i64 x.lo, .int .i64 x.hi] 47)) #[.int .i64 y.lo, .int .i64 y.hi] 47
      simp only [World.size_alloc] at hB2
      have hG4 := hG3.below hx
      clear hG3 hx
      go_upto_region 8 with fail
      generalize ((w3.alloc (.cells #[.int .i64 x.lo, .int .i64 x.hi] 47)).alloc (.cells #[.int .i64 y.lo, .int .i64 y.hi] 47)) = W4 at *
      have x0 := hB1.cell 0 _ rfl
      have x1 := hB1.cell 1 _ rfl
      have y0 := hB2.cell 0 _ rfl
      have y1 := hB2.cell 1 _ rfl
      have s0 := hG4.s.cell 0 _ rfl
      have s1 := hG4.s.cell 1 _ rfl
      have HWI' := Lib.hid (fun V => HWI.out x y V HOK.out)
      clear hB1 hB2 HOK HWI HPI hmx hmx2
      go_wp2_with fail
      refine (HWI'.out _).mono ?_
      rintro e w5 ⟨⟨S, b, rfl, hW⟩, hb5⟩
      have hG5 := hG4.below hb5
      have HWR := Lib.hid hW
      clear HWI' hb5 hG4 x0 x1 y0 y1 s0 s1 hW
      unfold stV
      have hN := Blk.new w5 (cSt S) 41
      have hG6 := hG5.below (below_box w5 (.cells (cSt S) 41))
      unfold cSt at hN hG6
      cases b with
      | false =>
        have HNX : Hid (L = cur c h l s (k + 1)) := Lib.hid (HN0.out (by rcases HWR.out with ⟨h1, h2⟩ | ⟨h1, h2⟩; exact absurd h1 (by simp); exact h2))
        clear hG5 hN HN0 HN1 HN2 HE0 HE1 HWR
        go_wp2_with fail
        go_roundw
        case rel => exact ⟨k + 1, L, hlt, by go_num, HNX, hG6⟩
        case measure => simp [intOf]; omega
      | true =>
        have hins : insF x y s = some S := by
          rcases HWR.out with ⟨h1, h2⟩ | ⟨h1, h2⟩
          · exact h2
          · exact absurd h1 (by simp)
        have HN1' := Lib.hid (HN1.out S hins)
        have HN2' := Lib.hid (HN2.out S hins)
        have hES := HE0.out S hins
        clear HN0 HN1 HN2 HE0 HWR hins hG5
        have hklt := hlt
        clear hlt
        by_cases h0 : L = []
        · have HNX : Hid ([S] = cur c h l s (k + 1)) := Lib.hid (HN1'.out h0)
          subst h0
          clear HN1' HN2' HE1
          obtain ⟨A9, c9, rfl⟩ : ∃ A9 c9, u9 = .slice A9 0 c9 := by
            rcases own_cells hG6.own with ⟨h1, -⟩ | ⟨g, cp, h1, -⟩
            · exact ⟨none, 0, h1⟩
            · exact ⟨some ⟨g, 0, none⟩, cp, h1⟩
          go_upto_region 11 with fail
          generalize w5.alloc (.cells #[.int .i64 S.a.n, .int .i64 S.a.d, .int .i64 S.b.n, .int .i64 S.b.d] 41) = W6 at *
          have D0 : Below W6.heap.size W6 W6.drew := (Below.refl _ _).drew
          go_cut [60] (fun sv wx => sv = .bool false ∧ Below W6.heap.size W6 wx)
          case first =>
            clear hG6 hN HNX hi0 hz0 hz1 hz2
            go_wp2_with fail
            refine wp_region_till (fun _ : World => True) 14 (by kernel_rfl) trivial (fun hHeld => ?_)
            generalize W6.drew = wd at *
            refine Till.take 0 (some 47) (v := ?_) rfl rfl (by kernel_rfl) (by kernel_rfl) (by kernel_rfl) (by kernel_rfl) (fun _ _ _ h => h) (Or.inl ⟨by rfl, ?_⟩) (by assumption) ?_
            rotate_left
            · (intro w hSw; (try dsimp only at hSw); go_simp; try with_reducible rfl)
            try simp only [Act.put, List.setIfInBounds_toArray, List.set_cons_zero, List.set_cons_succ]
            refine Till.take 1 (some 48) (v := ?_) rfl rfl (by kernel_rfl) (by kernel_rfl) (by kernel_rfl) (by kernel_rfl) (fun _ _ _ h => h) (Or.inl ⟨by rfl, ?_⟩) (by assumption) ?_
            rotate_left
            · (intro w hSw; (try dsimp only at hSw); go_simp; try with_reducible rfl)
            try simp only [Act.put, List.setIfInBounds_toArray, List.set_cons_zero, List.set_cons_succ]
            refine Till.take 2 (some 49) (v := ?_) rfl rfl (by kernel_rfl) (by kernel_rfl) (by kernel_rfl) (by kernel_rfl) (fun _ _ _ h => h) (Or.inl ⟨by rfl, ?_⟩) (by assumption) ?_
            rotate_left
            · (intro w hSw; (try dsimp only at hSw); go_simp; try with_reducible rfl)
            try simp only [Act.put, List.setIfInBounds_toArray, List.set_cons_zero, List.set_cons_succ]
            refine Till.take 3 (some 50) (v := undef) rfl rfl (by kernel_rfl) (by kernel_rfl) (by kernel_rfl) (by kernel_rfl) (fun _ _ _ h => h) (Or.inr ⟨by rfl, rfl⟩) (by assumption) ?_
            try simp only [Act.put, List.setIfInBounds_toArray, List.set_cons_zero, List.set_cons_succ]
            refine Till.take 4 (some 51) (v := undef) rfl rfl (by kernel_rfl) (by kernel_rfl) (by kernel_rfl) (by kernel_rfl) (fun _ _ _ h => h) (Or.inr ⟨by rfl, rfl⟩) (by assumption) ?_
            try simp only [Act.put, List.setIfInBounds_toArray, List.set_cons_zero, List.set_cons_succ]
            refine Till.take 5 (some 52) (v := undef) rfl rfl (by kernel_rfl) (by kernel_rfl) (by kernel_rfl) (by kernel_rfl) (fun _ _ _ h => h) (Or.inr ⟨by rfl, rfl⟩) (by assumption) ?_
            try simp only [Act.put, List.setIfInBounds_toArray, List.set_cons_zero, List.set_cons_succ]
            refine Till.take 6 (some 53) (v := undef) rfl rfl (by kernel_rfl) (by kernel_rfl) (by kernel_rfl) (by kernel_rfl) (fun _ _ _ h => h) (Or.inr ⟨by rfl, rfl⟩) (by assumption) ?_
            try simp only [Act.put, List.setIfInBounds_toArray, List.set_cons_zero, List.set_cons_succ]
            refine Till.take 7 (some 54) (v := undef) rfl rfl (by kernel_rfl) (by kernel_rfl) (by kernel_rfl) (by kernel_rfl) (fun _ _ _ h => h) (Or.inr ⟨by rfl, rfl⟩) (by assumption) ?_
            try simp only [Act.put, List.setIfInBounds_toArray, List.set_cons_zero, List.set_cons_succ]
            refine Till.take 8 (some 55) (v := undef) rfl rfl (by kernel_rfl) (by kernel_rfl) (by kernel_rfl) (by kernel_rfl) (fun _ _ _ h => h) (Or.inr ⟨by rfl, rfl⟩) (by assumption) ?_
            try simp only [Act.put, List.setIfInBounds_toArray, List.set_cons_zero, List.set_cons_succ]
            refine Till.take 9 (some 56) (v := undef) rfl rfl (by kernel_rfl) (by kernel_rfl) (by kernel_rfl) (by kernel_rfl) (fun _ _ _ h => h) (Or.inr ⟨by rfl, rfl⟩) (by assumption) ?_
            try simp only [Act.put, List.setIfInBounds_toArray, List.set_cons_zero, List.set_cons_succ]
            refine Till.take 10 (some 57) (v := undef) rfl rfl (by kernel_rfl) (by kernel_rfl) (by kernel_rfl) (by kernel_rfl) (fun _ _ _ h => h) (Or.inr ⟨by rfl, rfl⟩) (by assumption) ?_
            try simp only [Act.put, List.setIfInBounds_toArray, List.set_cons_zero, List.set_cons_succ]
            refine Till.take 11 (some 58) (v := undef) rfl rfl (by kernel_rfl) (by kernel_rfl) (by kernel_rfl) (by kernel_rfl) (fun _ _ _ h => h) (Or.inr ⟨by rfl, rfl⟩) (by assumption) ?_
            try simp only [Act.put, List.setIfInBounds_toArray, List.set_cons_zero, List.set_cons_succ]
            refine Till.take 12 (some 59) (v := undef) rfl rfl (by kernel_rfl) (by kernel_rfl) (by kernel_rfl) (by kernel_rfl) (fun _ _ _ h => h) (Or.inr ⟨by rfl, rfl⟩) (by assumption) ?_
            try simp only [Act.put, List.setIfInBounds_toArray, List.set_cons_zero, List.set_cons_succ]
            refine Till.take 13 (some 60) (v := ?_) rfl rfl (by kernel_rfl) (by kernel_rfl) (by kernel_rfl) (by kernel_rfl) (fun _ _ _ h => h) (Or.inl ⟨by rfl, ?_⟩) (by assumption) ?_
            rotate_left
            · (intro w hSw; (try dsimp only at hSw); go_simp; try with_reducible rfl)
            try simp only [Act.put, List.setIfInBounds_toArray, List.set_cons_zero, List.set_cons_succ]
            refine Till.done (by kernel_rfl) ?_ _
            go_wp2_with fail
            go_meet
            exact ⟨rfl, D0⟩
          case rest =>
          obtain ⟨rfl, hbc⟩ := hcut
          rename World => W7
          have hGX := hG6.below hbc
          have hNX := hN.below hbc hN.lt
          have hown : W7.ownsRow (w.heap.size + 1) 41 4 (.slice A9 0 c9) 0 [] := hGX.own
          clear hbc hG6 hN D0
          have hsX := hGX.s
          have hbX := hGX.bel
          have hownA := own_below hown (below_box W7 (.cells (cSt S) 41)) (fun g e => (hown.lt g e).2)
          have hSA := hsX.alloc (.cells (cSt S) 41)
          have hnews : ∀ q u, (stC S)[q]? = some u → (W7.alloc (.cells (cSt S) 41)).cell? ((⟨W7.heap.size, 0, none⟩ : Addr).add q) = some u := World.news_of_block (w := W7.alloc (.cells (cSt S) 41)) (Blk.new W7 (cSt S) 41)
          have hlt : ∀ q, (Value.slice A9 0 c9).ownBlock = some q → w.heap.size + 1 ≤ q ∧ q < W7.heap.size := fun q e => hown.lt q e
          have hbA := hbX.alloc hbX.size (.cells (cSt S) 41)
          have hXs := hbX.size
          have hX1 : w.heap.size + 1 ≤ W7.heap.size := hsX.lt
          have e0 := hNX.cell 0 _ rfl
          have e1 := hNX.cell 1 _ rfl
          have e2 := hNX.cell 2 _ rfl
          have e3 := hNX.cell 3 _ rfl
          have HSA := Lib.hid hSA
          have HBA := Lib.hid hbA
          clear hSA hbA hsX hbX hNX hGX hown
          unfold cSt at hownA hnews HSA HBA
          go_wp2_with (at_builtin; refine wpList_append_lies _ rfl _ _ 31 rfl (w.heap.size + 1) 41 i0 _ 4 32 Try.underlying31 hi0 hz0 hz1 hz2 rfl (by decide) _ 0 _ rfl hownA ⟨W7.heap.size, 0, none⟩ 1 1 (stC S) rfl rfl hnews (by simp [stC, Value.oneCell']) (by omega) (by unfold maxLen; omega) (by omega) (by simp; omega) _ rfl ?_; intro g8 c8 w8 hown8 hgrow8 hat8 hlt8; have hS8 := HSA.out.grown hgrow8 (fun e => by have := (hlt _ e).1; omega); have hB8 := HBA.out.grown hgrow8 (by simp; omega) (fun q e => by have := (hlt _ e).1; omega))
          have hRS : RS w ([S]) s (.slice (some ⟨g8, 0, none⟩) (0 + 1) c8) w8 := ⟨hS8, by simpa using hown8, hB8⟩
          clear hown8 hgrow8 hS8 hB8 hnews hownA HSA HBA e0 e1 e2 e3
          go_roundw
          case rel => exact ⟨k + 1, _, hklt, by go_num, HNX, hRS⟩
          case measure => simp [intOf]; omega
        obtain ⟨D, p, rfl, HJ, HM⟩ := HN2'.out h0
        have hep := HE1.out p (by simp)
        replace HJ := Lib.hid HJ
        replace HM := Lib.hid HM
        obtain ⟨g, cp, rfl, -⟩ := World.ownsRow.form hG6.own (by simp)
        have hown := hG6.own
        rw [List.length_append, List.length_singleton] at hown hlen
        simp only [List.length_append, List.length_singleton]
        clear HN1' HN2' HE1 h0
        have hgg := (hown.lt g rfl).1
        obtain ⟨r0, r1⟩ := own_end hown
        have HCMP := Lib.hid (end_cmp hep.2 hES.1)
        have HO := Lib.hid (fun V => ord_ends hep.2 hES.1 V)
        have z2 := wrapK D.length (by omega)
        obtain ⟨C, hC⟩ : ∃ C, cmpI (p.b.n * S.a.d) (S.a.n * p.b.d) = C := ⟨_, rfl⟩
        rw [hC] at HCMP HO
        clear hC hep
        go_upto_region 11 with fail
        generalize w5.alloc (.cells #[.int .i64 S.a.n, .int .i64 S.a.d, .int .i64 S.b.n, .int .i64 S.b.d] 41) = W6 at *
        have D0 : Below W6.heap.size W6 W6.drew := (Below.refl _ _).drew
        have t0 := hN.cell 0 _ rfl
        have t1 := hN.cell 1 _ rfl
        have HSV : Hid (∀ V, Below W6.heap.size W6 V → (fun w' : World => w'.cell? ⟨g, D.length * 4 + 2, none⟩ = some (.int .i64 p.b.n) ∧ w'.cell? ⟨g, D.length * 4 + 3, none⟩ = some (.int .i64 p.b.d) ∧ w'.cell? ⟨w5.heap.size, 0, none⟩ = some (.int .i64 S.a.n) ∧ w'.cell? ⟨w5.heap.size, 1, none⟩ = some (.int .i64 S.a.d)) V) := Lib.hid (fun V hV => ⟨ext_of_below hV _ _ r0, ext_of_below hV _ _ r1, ext_of_below hV _ _ t0, ext_of_below hV _ _ t1⟩)
        obtain ⟨B, hB⟩ : ∃ B, decide (C = 0) = B := ⟨_, rfl⟩
        have HB := Lib.hid hB
        clear t0 t1 r0 r1
        go_cut [60] (fun sv wx => sv = .bool B ∧ Below W6.heap.size W6 wx)
        case first =>
          clear hG6 hN hi0 hz0 hz1 hz2 hown HCMP HJ HM
          have hbq : ((C == (0 : Int)) : Bool) = B := by rw [← hB]; rfl
          have z4 : (D.length : Int) < (D.length : Int) + 1 := Int.lt_succ _
          have z5 : decide ((0 : Int) < (D.length : Int) + 1) = true := decide_eq_true (by omega)
          go_wp2_with fail
          refine wp_region_till (fun w' : World => w'.cell? ⟨g, D.length * 4 + 2, none⟩ = some (.int .i64 p.b.n) ∧ w'.cell? ⟨g, D.length * 4 + 3, none⟩ = some (.int .i64 p.b.d) ∧ w'.cell? ⟨w5.heap.size, 0, none⟩ = some (.int .i64 S.a.n) ∧ w'.cell? ⟨w5.heap.size, 1, none⟩ = some (.int .i64 S.a.d)) 14 (by kernel_rfl) (HSV.out _ D0) (fun hHeld => ?_)
          generalize W6.drew = wd at *
          refine Till.take 0 (some 47) (v := ?_) rfl rfl (by kernel_rfl) (by kernel_rfl) (by kernel_rfl) (by kernel_rfl) (fun _ _ _ h => h) (Or.inl ⟨by rfl, ?_⟩) (by assumption) ?_
          rotate_left
          · (intro w hSw; (try dsimp only at hSw); go_simp; try with_reducible rfl)
          try simp only [Act.put, List.setIfInBounds_toArray, List.set_cons_zero, List.set_cons_succ]
          refine Till.take 1 (some 48) (v := ?_) rfl rfl (by kernel_rfl) (by kernel_rfl) (by kernel_rfl) (by kernel_rfl) (fun _ _ _ h => h) (Or.inl ⟨by rfl, ?_⟩) (by assumption) ?_
          rotate_left
          · (intro w hSw; (try dsimp only at hSw); go_simp; try with_reducible rfl)
          try simp only [Act.put, List.setIfInBounds_toArray, List.set_cons_zero, List.set_cons_succ]
          refine Till.take 2 (some 49) (v := ?_) rfl rfl (by kernel_rfl) (by kernel_rfl) (by kernel_rfl) (by kernel_rfl) (fun _ _ _ h => h) (Or.inl ⟨by rfl, ?_⟩) (by assumption) ?_
          rotate_left
          · (intro w hSw; (try dsimp only at hSw); go_simp; try with_reducible rfl)
          try simp only [Act.put, List.setIfInBounds_toArray, List.set_cons_zero, List.set_cons_succ]
          refine Till.take 3 (some 50) (v := ?_) rfl rfl (by kernel_rfl) (by kernel_rfl) (by kernel_rfl) (by kernel_rfl) (fun _ _ _ h => h) (Or.inl ⟨by rfl, ?_⟩) (by assumption) ?_
          rotate_left
          · (intro w hSw; (try dsimp only at hSw); go_simp; try with_reducible rfl)
          try simp only [Act.put, List.setIfInBounds_toArray, List.set_cons_zero, List.set_cons_succ]
          refine Till.take 4 (some 51) (v := ?_) rfl rfl (by kernel_rfl) (by kernel_rfl) (by kernel_rfl) (by kernel_rfl) (fun _ _ _ h => h) (Or.inl ⟨by rfl, ?_⟩) (by assumption) ?_
          rotate_left
          · (intro w hSw; (try dsimp only at hSw); go_simp; try with_reducible rfl)
          try simp only [Act.put, List.setIfInBounds_toArray, List.set_cons_zero, List.set_cons_succ]
          refine Till.take 5 (some 52) (v := ?_) rfl rfl (by kernel_rfl) (by kernel_rfl) (by kernel_rfl) (by kernel_rfl) (fun _ _ _ h => h) (Or.inl ⟨by rfl, ?_⟩) (by assumption) ?_
          rotate_left
          · (intro w hSw; (try dsimp only at hSw); go_simp; try with_reducible rfl)
          try simp only [Act.put, List.setIfInBounds_toArray, List.set_cons_zero, List.set_cons_succ]
          refine Till.take 6 (some 53) (v := ?_) rfl rfl (by kernel_rfl) (by kernel_rfl) (by kernel_rfl) (by kernel_rfl) (fun _ _ _ h => h) (Or.inl ⟨by rfl, ?_⟩) (by assumption) ?_
          rotate_left
          · (intro w hSw; (try dsimp only at hSw); go_simp; try with_reducible rfl)
          try simp only [Act.put, List.setIfInBounds_toArray, List.set_cons_zero, List.set_cons_succ]
          refine Till.take 7 (some 54) (v := ?_) rfl rfl (by kernel_rfl) (by kernel_rfl) (by kernel_rfl) (by kernel_rfl) (fun _ _ _ h => h) (Or.inl ⟨by rfl, ?_⟩) (by assumption) ?_
          rotate_left
          · (intro w hSw; (try dsimp only at hSw); go_simp; try with_reducible rfl)
          try simp only [Act.put, List.setIfInBounds_toArray, List.set_cons_zero, List.set_cons_succ]
          refine Till.take 8 (some 55) (v := ?_) rfl rfl (by kernel_rfl) (by kernel_rfl) (by kernel_rfl) (by kernel_rfl) (fun _ _ _ h => h) (Or.inl ⟨by rfl, ?_⟩) (by assumption) ?_
          rotate_left
          · (intro w hSw; (try dsimp only at hSw); go_simp; try with_reducible rfl)
          try simp only [Act.put, List.setIfInBounds_toArray, List.set_cons_zero, List.set_cons_succ]
          refine Till.take 9 (some 56) (v := ?_) rfl rfl (by kernel_rfl) (by kernel_rfl) (by kernel_rfl) (by kernel_rfl) (fun _ _ _ h => h) (Or.inl ⟨by rfl, ?_⟩) (by assumption) ?_
          rotate_left
          · (intro w hSw; (try dsimp only at hSw); go_simp; try with_reducible rfl)
          try simp only [Act.put, List.setIfInBounds_toArray, List.set_cons_zero, List.set_cons_succ]
          refine Till.take 10 (some 57) (v := ?_) rfl rfl (by kernel_rfl) (by kernel_rfl) (by kernel_rfl) (by kernel_rfl) (fun _ _ _ h => h) (Or.inl ⟨by rfl, ?_⟩) (by assumption) ?_
          rotate_left
          · (intro w hSw; (try dsimp only at hSw); go_simp; try with_reducible rfl)
          try simp only [Act.put, List.setIfInBounds_toArray, List.set_cons_zero, List.set_cons_succ]
          refine Till.one 11 rfl (by kernel_rfl) (fun K hK => ?_)
          go_simp
          go_at_call 42
          refine (HO.out _).mono ?_
          rintro e v1 ⟨rfl, hb1⟩
          have D1 := D0.trans (hb1.mono D0.size)
          have hh1 := HSV.out _ D1
          refine hK.out _ _ (fun _ => hh1) (fun hHeld1 => ?_)
          clear hK K hb1
          try simp only [Act.put, List.setIfInBounds_toArray, List.set_cons_zero, List.set_cons_succ]
          refine Till.take 12 (some 59) (v := ?_) rfl rfl (by kernel_rfl) (by kernel_rfl) (by kernel_rfl) (by kernel_rfl) (fun _ _ _ h => h) (Or.inl ⟨by rfl, ?_⟩) (by assumption) ?_
          rotate_left
          · (intro w hSw; (try dsimp only at hSw); go_simp; try with_reducible rfl)
          try simp only [Act.put, List.setIfInBounds_toArray, List.set_cons_zero, List.set_cons_succ]
          refine Till.take 13 (some 60) (v := ?_) rfl rfl (by kernel_rfl) (by kernel_rfl) (by kernel_rfl) (by kernel_rfl) (fun _ _ _ h => h) (Or.inl ⟨by rfl, ?_⟩) (by assumption) ?_
          rotate_left
          · (intro w hSw; (try dsimp only at hSw); go_simp; try with_reducible rfl)
          try simp only [Act.put, List.setIfInBounds_toArray, List.set_cons_zero, List.set_cons_succ]
          refine Till.done (by kernel_rfl) ?_ _
          go_wp2_with fail
          go_meet
          exact ⟨rfl, D1⟩
        case rest =>
        obtain ⟨rfl, hbc⟩ := hcut
        rename World => W7
        have hGX := hG6.below hbc
        have hNX := hN.below hbc hN.lt
        replace hown : W7.ownsRow (w.heap.size + 1) 41 4 (.slice (some ⟨g, 0, none⟩) (D.length + 1) cp) (D.length + 1) ((D ++ [p]).flatMap stC) := by have := hGX.own; rwa [List.length_append, List.length_singleton] at this
        clear hbc hG6 hN D0 HSV HO hB
        by_cases hj : p.b = S.a
        · have HNX : Hid (D ++ [(⟨p.a, S.b⟩ : St)] = cur c h l s (k + 1)) := Lib.hid (HJ.out hj)
          obtain rfl : B = true := HB.out.symm.trans (decide_eq_true (HCMP.out.2 hj))
          clear HJ HM HCMP HB hj
          have hsX := hGX.s
          have hbX := hGX.bel
          have hj2 := own_join S.b hown
          have e2 := hNX.cell 2 _ rfl
          have e3 := hNX.cell 3 _ rfl
          obtain ⟨r0, r1⟩ := own_end hown
          have f0 := hown.frozenAt (D.length * 4 + 2)
          have f1 := hown.frozenAt (D.length * 4 + 3)
          have HRS : Hid (RS w (D ++ [(⟨p.a, S.b⟩ : St)]) s (.slice (some ⟨g, 0, none⟩) (D.length + 1) cp) ((W7.setCell ⟨g, D.length * 4 + 2, none⟩ (.int .i64 S.b.n)).setCell ⟨g, D.length * 4 + 3, none⟩ (.int .i64 S.b.d))) := Lib.hid ⟨(hsX.other ⟨g, D.length * 4 + 2, none⟩ _ (by simp only; omega)).other ⟨g, D.length * 4 + 3, none⟩ _ (by simp only; omega), by simpa using hj2, (hbX.setCell (p := ⟨g, D.length * 4 + 2, none⟩) (by simp only; omega) _).setCell (p := ⟨g, D.length * 4 + 3, none⟩) (by simp only; omega) _⟩
          clear hsX hbX hj2 hGX hNX hown
          go_wp2_with fail
          go_roundw
          case rel => exact ⟨k + 1, _, hklt, by go_num, HNX, HRS.out⟩
          case measure => simp [intOf]; omega
        have HNX : Hid (D ++ [p] ++ [S] = cur c h l s (k + 1)) := Lib.hid (HM.out hj)
        obtain rfl : B = false := HB.out.symm.trans (decide_eq_false (fun e => hj (HCMP.out.1 e)))
        clear HJ HM HCMP HB hj z2 hgg
        have hsX := hGX.s
        have hbX := hGX.bel
        have hownA := own_below hown (below_box W7 (.cells (cSt S) 41)) (fun g e => (hown.lt g e).2)
        have hSA := hsX.alloc (.cells (cSt S) 41)
        have hnews : ∀ q u, (stC S)[q]? = some u → (W7.alloc (.cells (cSt S) 41)).cell? ((⟨W7.heap.size, 0, none⟩ : Addr).add q) = some u := World.news_of_block (w := W7.alloc (.cells (cSt S) 41)) (Blk.new W7 (cSt S) 41)
        have hlt : ∀ q, (Value.slice (some ⟨g, 0, none⟩) (D.length + 1) cp).ownBlock = some q → w.heap.size + 1 ≤ q ∧ q < W7.heap.size := fun q e => hown.lt q e
        have hbA := hbX.alloc hbX.size (.cells (cSt S) 41)
        have hXs := hbX.size
        have hX1 : w.heap.size + 1 ≤ W7.heap.size := hsX.lt
        have e0 := hNX.cell 0 _ rfl
        have e1 := hNX.cell 1 _ rfl
        have e2 := hNX.cell 2 _ rfl
        have e3 := hNX.cell 3 _ rfl
        have HSA := Lib.hid hSA
        have HBA := Lib.hid hbA
        clear hSA hbA hsX hbX hNX hGX hown
        unfold cSt at hownA hnews HSA HBA
        go_wp2_with (at_builtin; refine wpList_append_lies _ rfl _ _ 31 rfl (w.heap.size + 1) 41 i0 _ 4 32 Try.underlying31 hi0 hz0 hz1 hz2 rfl (by decide) _ (D.length + 1) _ rfl hownA ⟨W7.heap.size, 0, none⟩ 1 1 (stC S) rfl rfl hnews (by simp [stC, Value.oneCell']) (by omega) (by unfold maxLen; omega) (by omega) (by simp; omega) _ rfl ?_; intro g8 c8 w8 hown8 hgrow8 hat8 hlt8; have hS8 := HSA.out.grown hgrow8 (fun e => by have := (hlt _ e).1; omega); have hB8 := HBA.out.grown hgrow8 (by simp; omega) (fun q e => by have := (hlt _ e).1; omega))
        have hRS : RS w (D ++ [p] ++ [S]) s (.slice (some ⟨g8, 0, none⟩) (D.length + 1 + 1) c8) w8 := ⟨hS8, by simpa using hown8, hB8⟩
        clear hown8 hgrow8 hS8 hB8 hnews hownA HSA HBA e0 e1 e2 e3
        go_roundw
        case rel => exact ⟨k + 1, _, hklt, by go_num, HNX, hRS⟩
        case measure => simp [intOf]; omega
    · obtain rfl : k = nL l := by omega
      have HRS : Hid (RSts (vis (w.heap.size ≤ ·) wr) u9 (strE c h l s)) := Lib.hid (by
        have e1 : L = strE c h l s := HL.out
        have h1 := hGk.own
        have h2 := strE_I64 (s := s) H
        rw [e1] at h1
        exact own_RSts (own_vis h1 (fun g e => by have := (h1.lt g e).1; omega)) (by omega) h2.1)
      have HB := Lib.hid hGk.bel
      have hmx : (if (l.length : Int) < 1 then 1 else (l.length : Int)) = (nL l : Int) := by unfold nL; split <;> omega
      have hmx2 : max (l.length : Int) 1 = (nL l : Int) := by unfold nL; omega
      clear hGk HL H
      go_wp2
      refine ⟨rfl, u9, ?_, ⟨_, rfl, HRS.out⟩, HB.out⟩
      simp [results, Try.results32, go_sem]
end Go.Proofs.Ytnldenjdbgfgmaa
