/- Which seasons may be: checkArticles to checkParts by their contracts; no statement is proved here. -/
import Derived.Test.YtdffhkbncencgaaPlSmall
import Derived.Test.YtdffhkbncencgaaTill
namespace Go.Proofs.Ytdffhkbncencgaa
open Go.RowKit Go.PlainAid
set_option linter.unusedVariables false
set_option linter.unusedSimpArgs false

/-- where a season's lists lie. -/
structure SA where
  a1 : Option Addr
  a2 : Option Addr
  a3 : Option Addr
  a4 : Option Addr
  a5 : Option Addr
  a6 : Option Addr
  a7 : Option Addr
  c1 : Nat
  c2 : Nat
  c3 : Nat
  c4 : Nat
  c5 : Nat
  c6 : Nat
  c7 : Nat
def SnD (w : World) (s : Sn) (d : SA) : Prop := SnC w s (.slice d.a1 s.arts.length d.c1) (.slice d.a2 s.ovens.length d.c2) (.slice d.a3 s.mks.length d.c3) (.slice d.a4 s.jobs.length d.c4) (.slice d.a5 s.cols.length d.c5) (.slice d.a6 s.ods.length d.c6)
theorem SnD.mono {w w' : World} (e : Ext w w') {s : Sn} {d : SA} (h : SnD w s d) : SnD w' s d := SnC.mono e h
theorem RSl.shape {α : Type} {sz : Nat} {R : World → Addr → α → Prop} {w : World} {v : Value} {l : List α} (h : RSl sz R w v l) : ∃ a c, v = .slice a l.length c := by
  obtain ⟨a, c, h1, -⟩ := h
  exact ⟨a, c, h1⟩
theorem RSl.len {α : Type} {sz : Nat} {R : World → Addr → α → Prop} {w : World} {v : Value} {l : List α} (h : RSl sz R w v l) : l.length ≤ 140737488351232 := by
  obtain ⟨a, c, -, -, h1, -⟩ := h
  exact h1.2
theorem SnC.open {w : World} {s : Sn} {v1 v2 v3 v4 v5 v6 : Value} (h : SnC w s v1 v2 v3 v4 v5 v6) : ∃ d : SA, (v1 = .slice d.a1 s.arts.length d.c1 ∧ v2 = .slice d.a2 s.ovens.length d.c2 ∧ v3 = .slice d.a3 s.mks.length d.c3 ∧ v4 = .slice d.a4 s.jobs.length d.c4 ∧ v5 = .slice d.a5 s.cols.length d.c5 ∧ v6 = .slice d.a6 s.ods.length d.c6) ∧ SnD w s d := by
  obtain ⟨a1, c1, rfl⟩ := h.arts.shape
  obtain ⟨a2, c2, rfl⟩ := h.ovens.shape
  obtain ⟨a3, c3, rfl⟩ := h.mks.shape
  obtain ⟨a4, c4, rfl⟩ := h.jobs.shape
  obtain ⟨a5, c5, rfl⟩ := h.cols.shape
  obtain ⟨a6, c6, rfl⟩ := h.ods.shape
  exact ⟨⟨a1, a2, a3, a4, a5, a6, none, c1, c2, c3, c4, c5, c6, 0⟩, ⟨rfl, rfl, rfl, rfl, rfl, rfl⟩, h⟩

/-- the first error of n things, from number k on. -/
def fe (f : Nat → Int) : Nat → Nat → Int
  | _, 0 => 0
  | k, n + 1 => if f k = 0 then fe f (k + 1) n else f k
theorem fe_go {f : Nat → Int} {k l : Nat} (h : k < l) (h0 : f k = 0) : fe f k (l - k) = fe f (k + 1) (l - (k + 1)) := by
  obtain ⟨n, hn⟩ : ∃ n, l - k = n + 1 := ⟨l - k - 1, by omega⟩
  rw [hn, fe, if_pos h0, show l - (k + 1) = n by omega]
theorem fe_no {f : Nat → Int} {k l : Nat} (h : k < l) (h0 : f k ≠ 0) : fe f k (l - k) = f k := by
  obtain ⟨n, hn⟩ : ∃ n, l - k = n + 1 := ⟨l - k - 1, by omega⟩
  rw [hn, fe, if_neg h0]
theorem fe_zero {f : Nat → Int} : ∀ {n k : Nat}, fe f k n = 0 → ∀ i, k ≤ i → i < k + n → f i = 0
  | 0, k, _, i, h1, h2 => by omega
  | n + 1, k, h, i, h1, h2 => by
    rw [fe] at h
    split at h
    · by_cases e : i = k
      · subst e; assumption
      · exact fe_zero h i (by omega) (by omega)
    · exact absurd h (by assumption)
/-- what a loop knows of the first error. -/
theorem fe_rel {f : Nat → Int} {E : Int} {k l : Nat} (h : Hid (E = fe f k (l - k))) (hk : k < l) : Hid ((f k = 0 → Hid (E = fe f (k + 1) (l - (k + 1)))) ∧ ∀ r, f k = r → r ≠ 0 → E = r) :=
  Lib.hid ⟨fun h0 => Lib.hid (h.out.trans (fe_go hk h0)), fun r h0 h1 => (h.out.trans (fe_no hk (by rw [h0]; exact h1))).trans h0⟩
theorem fe_end {f : Nat → Int} {E : Int} {l : Nat} (h : Hid (E = fe f l (l - l))) : E = 0 := by rw [h.out, Nat.sub_self]; rfl

def arE (pre : List Art) (x : Art) (nc : Nat) : Int := if nameB x.name = false then 5 else if pre.any (fun y => eqS y.name x.name) = true then 6 else if btw x.col 0 ((nc : Int) - 1) = false then 7 else if btw x.wt 1 100000 = false then 1 else 0
def artF (s : Sn) (i : Nat) : Int := match s.arts[i]? with | some x => arE (s.arts.take i) x s.cols.length | none => 0
def artsE (s : Sn) : Int := if 8 < s.arts.length then 3 else fe (artF s) 0 s.arts.length
theorem artF_at {s : Sn} {k : Nat} (hk : k < s.arts.length) : artF s k = arE (s.arts.take k) s.arts[k] s.cols.length := by unfold artF; rw [List.getElem?_eq_getElem hk]

set_option maxHeartbeats 4000000 in
set_option maxRecDepth 100000 in
theorem checkArticles_any (s : Sn) (d : SA) (w : World) (h : SnD w s d) : Calls Try.prog 72 #[.agg #[.int .i64 s.days, .slice d.a1 s.arts.length d.c1, .slice d.a2 s.ovens.length d.c2, .slice d.a3 s.mks.length d.c3, .slice d.a4 s.jobs.length d.c4, .slice d.a5 s.cols.length d.c5, .slice d.a6 s.ods.length d.c6]] w fun e w' => e = .returned (.int .i64 (artsE s)) ∧ Below w.heap.size w w' := by
  have hra := h.arts
  have lc := h.cols.len
  have la := h.arts.len
  have hA := below_box w (.cells #[.int .i64 s.days, .slice d.a1 s.arts.length d.c1, .slice d.a2 s.ovens.length d.c2, .slice d.a3 s.mks.length d.c3, .slice d.a4 s.jobs.length d.c4, .slice d.a5 s.cols.length d.c5, .slice d.a6 s.ods.length d.c6] 28)
  have hB := Blk.new w #[.int .i64 s.days, .slice d.a1 s.arts.length d.c1, .slice d.a2 s.ovens.length d.c2, .slice d.a3 s.mks.length d.c3, .slice d.a4 s.jobs.length d.c4, .slice d.a5 s.cols.length d.c5, .slice d.a6 s.ods.length d.c6] 28
  clear h
  by_cases h8 : 8 < s.arts.length
  · have hq : (8 : Int) < (s.arts.length : Int) := by omega
    have HE : Hid (artsE s = 3) := Lib.hid (by simp [artsE, h8])
    clear h8
    go_enter Try.func72, Try.ntmps72
    go_wp2
    go_ret
    exact ⟨ret_int HE.out.symm, hA⟩
  have hq : ¬ (8 : Int) < (s.arts.length : Int) := by omega
  have HE0 : Hid (artsE s = fe (artF s) 0 (s.arts.length - 0)) := Lib.hid (by simp [artsE, h8])
  clear h8
  go_enter Try.func72, Try.ntmps72
  go_wp2
  clear hq
  generalize w.alloc (.cells #[.int .i64 s.days, .slice d.a1 s.arts.length d.c1, .slice d.a2 s.ovens.length d.c2, .slice d.a3 s.mks.length d.c3, .slice d.a4 s.jobs.length d.c4, .slice d.a5 s.cols.length d.c5, .slice d.a6 s.ods.length d.c6] 28) = W at *
  have hWs := hB.lt
  go_loopw [12] (fun i wr => ∃ k : Nat, k ≤ s.arts.length ∧ i = .int .i64 k ∧ Hid (artsE s = fe (artF s) k (s.arts.length - k)) ∧ Below W.heap.size W wr) (fun i _ => s.arts.length - (intOf i).toNat)
  case atStart => exact ⟨0, Nat.zero_le _, rfl, HE0, Below.refl _ _⟩
  case round =>
    obtain ⟨k, hk, rfl, hx, hb⟩ := hrel
    have hE := hA.trans (hb.mono (by omega))
    have hBr := hB.below hb hB.lt
    have hsz := hb.size
    by_cases hlt : k < s.arts.length
    · have HF := fe_rel hx hlt
      have HAt := Lib.hid (artF_at hlt)
      have hrk := fun V (hV : Below wr.heap.size wr V) => RSl.take (RArts.mono (ext_of_below (hE.trans (hV.mono hE.size))) hra) k hk
      have HRK := Lib.hid hrk
      obtain ⟨a', c', he, hcap, -, hl⟩ := id hra
      simp only [Value.slice.injEq, true_and] at he
      obtain ⟨rfl, rfl⟩ := he
      have hkc : k ≤ d.c1 := by omega
      clear hcap
      obtain ⟨b1, o1, he1, ⟨q0, q1, q2⟩, i0, i1, i2⟩ := hl k hlt
      have k0 := ext_of_below hE _ _ q0
      have k1 := ext_of_below hE _ _ q1
      have k2 := ext_of_below hE _ _ q2
      have l1 := cell_lt q0
      simp only at k0 k1 k2 l1
      have j1 : (0 : Int) ≤ (k : Int) := Int.natCast_nonneg _
      have j2 : (k : Int) < (s.arts.length : Int) := by omega
      have e1 := hBr.cell 1 _ rfl
      have e5 := hBr.cell 5 _ rfl
      have bl := hBr.lt
      clear hl q0 q1 q2 hx hA hB
      rw [he1] at e1 hBr HRK ⊢
      generalize s.arts[k] = x at *
      have ha := below_box wr (.cells #[.string x.name, .int .i64 x.col, .int .i64 x.wt] 57)
      have hBx := Blk.new wr #[.string x.name, .int .i64 x.col, .int .i64 x.wt] 57
      go_wp2_with fail
      refine (isName_any x.name _ i0).mono ?_
      rintro e w1 ⟨rfl, rfl⟩
      cases hn : nameB x.name with
      | false =>
        have HR := Lib.hid (HF.out.2 5 (by rw [HAt.out]; unfold arE; rw [if_pos hn]) (by decide))
        clear HF HAt HRK hn
        go_wp2
        go_ret
        exact ⟨ret_int HR.out.symm, hE.trans (ha.mono hE.size)⟩
      | true =>
      have hBr1 := hBr.below ha bl
      have e1 := hBr1.cell 1 _ rfl
      have x0 := hBx.cell 0 _ rfl
      have HSV : Hid (∀ V, Below wr.heap.size (wr.alloc (.cells #[.string x.name, .int .i64 x.col, .int .i64 x.wt] 57)) V → True) := Lib.hid (fun _ _ => trivial)
      go_wp2_with fail
      clear k0 k1 k2 e5
      generalize hwa : wr.alloc (.cells #[.string x.name, .int .i64 x.col, .int .i64 x.wt] 57) = wa at *
      have D0 : Below wa.heap.size wa wa.drew := (Below.refl _ _).drew
      have hza : wr.heap.size < wa.heap.size := hBx.lt
      clear hwa
      refine wp_region_till (fun w' : World => w'.cell? ⟨w.heap.size, 1, none⟩ = some (.slice (some ⟨b1, o1, none⟩) s.arts.length d.c1) ∧ w'.cell? ⟨wr.heap.size, 0, none⟩ = some (.string x.name)) 9 (by kernel_rfl) ⟨(hBr1.below D0 hBr1.lt).cell 1 _ rfl, (hBx.below D0 hBx.lt).cell 0 _ rfl⟩ (fun hHeld => ?_)
      have HD0 := Lib.hid D0
      clear D0 e1 x0
      generalize wa.drew = wd at *
      refine Till.take 0 (some 21) (v := ?_) rfl rfl (by kernel_rfl) (by kernel_rfl) (by kernel_rfl) (by kernel_rfl) (fun _ _ _ h => h) (Or.inl ⟨by rfl, ?_⟩) (by assumption) ?_
      rotate_left
      · (intro w hSw; (try dsimp only at hSw); go_simp; try with_reducible rfl)
      try simp only [Act.put, List.setIfInBounds_toArray, List.set_cons_zero, List.set_cons_succ]
      refine Till.take 1 (some 22) (v := ?_) rfl rfl (by kernel_rfl) (by kernel_rfl) (by kernel_rfl) (by kernel_rfl) (fun _ _ _ h => h) (Or.inl ⟨by rfl, ?_⟩) (by assumption) ?_
      rotate_left
      · (intro w hSw; (try dsimp only at hSw); go_simp; try with_reducible rfl)
      try simp only [Act.put, List.setIfInBounds_toArray, List.set_cons_zero, List.set_cons_succ]
      refine Till.take 2 (some 23) (v := ?_) rfl rfl (by kernel_rfl) (by kernel_rfl) (by kernel_rfl) (by kernel_rfl) (fun _ _ _ h => h) (Or.inl ⟨by rfl, ?_⟩) (by assumption) ?_
      rotate_left
      · (intro w hSw; (try dsimp only at hSw); go_simp; try with_reducible rfl)
      try simp only [Act.put, List.setIfInBounds_toArray, List.set_cons_zero, List.set_cons_succ]
      refine Till.take 3 (some 24) (v := ?_) rfl rfl (by kernel_rfl) (by kernel_rfl) (by kernel_rfl) (by kernel_rfl) (fun _ _ _ h => h) (Or.inl ⟨by rfl, ?_⟩) (by assumption) ?_
      rotate_left
      · (intro w hSw; (try dsimp only at hSw); go_simp; try with_reducible rfl)
      try simp only [Act.put, List.setIfInBounds_toArray, List.set_cons_zero, List.set_cons_succ]
      refine Till.take 4 (some 25) (v := ?_) rfl rfl (by kernel_rfl) (by kernel_rfl) (by kernel_rfl) (by kernel_rfl) (fun _ _ _ h => h) (Or.inl ⟨by rfl, ?_⟩) (by assumption) ?_
      rotate_left
      · (intro w hSw; (try dsimp only at hSw); go_simp; try with_reducible rfl)
      try simp only [Act.put, List.setIfInBounds_toArray, List.set_cons_zero, List.set_cons_succ]
      refine Till.take 5 (some 26) (v := ?_) rfl rfl (by kernel_rfl) (by kernel_rfl) (by kernel_rfl) (by kernel_rfl) (fun _ _ _ h => h) (Or.inl ⟨by rfl, ?_⟩) (by assumption) ?_
      rotate_left
      · (intro w hSw; (try dsimp only at hSw); go_simp; try with_reducible rfl)
      try simp only [Act.put, List.setIfInBounds_toArray, List.set_cons_zero, List.set_cons_succ]
      refine Till.one 6 rfl (by kernel_rfl) (fun K hK => ?_)
      go_simp
      go_at_call 87
      have hDw := ha.trans (HD0.out.mono ha.size)
      refine (findArticle_any _ (s.arts.take k) x.name _ (HRK.out _ hDw)).mono ?_
      rintro e w2 ⟨n, rfl, hn2, hnm, hb2⟩
      have HN2 := Lib.hid hn2
      clear hn2
      have hD2 := HD0.out.trans (hb2.mono HD0.out.size)
      have hh1 : w2.cell? ⟨w.heap.size, 1, none⟩ = some (.slice (some ⟨b1, o1, none⟩) s.arts.length d.c1) ∧ w2.cell? ⟨wr.heap.size, 0, none⟩ = some (.string x.name) := ⟨(hBr1.below hD2 hBr1.lt).cell 1 _ rfl, (hBx.below hD2 hBx.lt).cell 0 _ rfl⟩
      refine hK.out _ _ (fun _ => hh1) (fun hHeld1 => ?_)
      clear hK K hb2
      try simp only [Act.put, List.setIfInBounds_toArray, List.set_cons_zero, List.set_cons_succ]
      refine Till.take 7 (some 28) (v := ?_) rfl rfl (by kernel_rfl) (by kernel_rfl) (by kernel_rfl) (by kernel_rfl) (fun _ _ _ h => h) (Or.inl ⟨by rfl, ?_⟩) (by assumption) ?_
      rotate_left
      · (intro w hSw; (try dsimp only at hSw); go_simp; try with_reducible rfl)
      try simp only [Act.put, List.setIfInBounds_toArray, List.set_cons_zero, List.set_cons_succ]
      refine Till.done (by kernel_rfl) ?_ _
      have hBr2 := hBr1.below hD2 hBr1.lt
      have hBx2 := hBx.below hD2 hBx.lt
      have hE2 := hE.trans ((ha.trans (hD2.mono ha.size)).mono hE.size)
      have HW2 := Lib.hid (hb.trans ((ha.trans (hD2.mono ha.size)).mono hb.size))
      clear hb
      clear hh1 hHeld hHeld1 HD0 hDw hBr1 hBx HRK hBr hD2
      by_cases h0 : 0 ≤ n
      · have hq0 : decide (0 ≤ n) = true := decide_eq_true h0
        have HR := Lib.hid (HF.out.2 6 (by rw [HAt.out]; unfold arE; rw [if_neg (by rw [hn]; decide), if_pos (HN2.out.1 h0)]) (by decide))
        clear HF HAt HN2 hn
        go_wp2
        go_ret
        exact ⟨ret_int HR.out.symm, hE2⟩
      have hq0 : decide (0 ≤ n) = false := decide_eq_false h0
      have hp : (s.arts.take k).any (fun y => eqS y.name x.name) = false := by
        cases h : (s.arts.take k).any (fun y => eqS y.name x.name) with
        | false => rfl
        | true => exact absurd (HN2.out.2 h) h0
      have HP := Lib.hid hp
      have HNn := Lib.hid hn
      clear HN2 hp hn
      have e5 := hBr2.cell 5 _ rfl
      have x1 := hBx2.cell 1 _ rfl
      have x2 := hBx2.cell 2 _ rfl
      go_wp2_with fail
      refine (isIndex_any x.col s.cols.length lc _).mono ?_
      rintro e w3 ⟨rfl, rfl⟩
      cases hc : btw x.col 0 ((s.cols.length : Int) - 1) with
      | false =>
        have HR := Lib.hid (HF.out.2 7 (by rw [HAt.out]; unfold arE; rw [if_neg (by rw [HNn.out]; decide), if_neg (by rw [HP.out]; decide), if_pos hc]) (by decide))
        clear HF HAt HP HNn hc
        go_wp2
        go_ret
        exact ⟨ret_int HR.out.symm, hE2⟩
      | true =>
      go_wp2_with fail
      refine (between_any x.wt 1 100000 _).mono ?_
      rintro e w3 ⟨rfl, rfl⟩
      cases hwt : btw x.wt 1 100000 with
      | false =>
        have HR := Lib.hid (HF.out.2 1 (by rw [HAt.out]; unfold arE; rw [if_neg (by rw [HNn.out]; decide), if_neg (by rw [HP.out]; decide), if_neg (by rw [hc]; decide), if_pos hwt]) (by decide))
        clear HF HAt HP HNn hc hwt
        go_wp2
        go_ret
        exact ⟨ret_int HR.out.symm, hE2⟩
      | true =>
        have HR := HF.out.1 (by rw [HAt.out]; unfold arE; rw [if_neg (by rw [HNn.out]; decide), if_neg (by rw [HP.out]; decide), if_neg (by rw [hc]; decide), if_neg (by rw [hwt]; decide)])
        clear HF HAt HP HNn hc hwt
        go_wp2
        go_roundw
        case rel => exact ⟨k + 1, by omega, by go_num, HR, HW2.out⟩
        case measure => simp [intOf]; omega
    · obtain rfl : k = s.arts.length := by omega
      have HR := Lib.hid (fe_end hx)
      clear hx
      go_wp2
      go_ret
      exact ⟨ret_int HR.out.symm, hE⟩

def ovE (x : Sp) : Int := if btw x.hi 0 1000000 = false then 1 else if btw x.lo 0 x.hi = false then 1 else 0
def ovF (s : Sn) (i : Nat) : Int := match s.ovens[i]? with | some x => ovE x | none => 0
def ovsE (s : Sn) : Int := if 3 < s.ovens.length then 3 else fe (ovF s) 0 s.ovens.length
theorem ovF_at {s : Sn} {k : Nat} (hk : k < s.ovens.length) : ovF s k = ovE s.ovens[k] := by unfold ovF; rw [List.getElem?_eq_getElem hk]

set_option maxHeartbeats 4000000 in
set_option maxRecDepth 100000 in
theorem checkOvens_any (s : Sn) (d : SA) (w : World) (h : SnD w s d) : Calls Try.prog 73 #[.agg #[.int .i64 s.days, .slice d.a1 s.arts.length d.c1, .slice d.a2 s.ovens.length d.c2, .slice d.a3 s.mks.length d.c3, .slice d.a4 s.jobs.length d.c4, .slice d.a5 s.cols.length d.c5, .slice d.a6 s.ods.length d.c6]] w fun e w' => e = .returned (.int .i64 (ovsE s)) ∧ Below w.heap.size w w' := by
  have hra := h.ovens
  have la := h.ovens.len
  have hA := below_box w (.cells #[.int .i64 s.days, .slice d.a1 s.arts.length d.c1, .slice d.a2 s.ovens.length d.c2, .slice d.a3 s.mks.length d.c3, .slice d.a4 s.jobs.length d.c4, .slice d.a5 s.cols.length d.c5, .slice d.a6 s.ods.length d.c6] 28)
  have hB := Blk.new w #[.int .i64 s.days, .slice d.a1 s.arts.length d.c1, .slice d.a2 s.ovens.length d.c2, .slice d.a3 s.mks.length d.c3, .slice d.a4 s.jobs.length d.c4, .slice d.a5 s.cols.length d.c5, .slice d.a6 s.ods.length d.c6] 28
  clear h
  by_cases h8 : 3 < s.ovens.length
  · have hq : (3 : Int) < (s.ovens.length : Int) := by omega
    have HE : Hid (ovsE s = 3) := Lib.hid (by simp [ovsE, h8])
    clear h8
    go_enter Try.func73, Try.ntmps73
    go_wp2
    go_ret
    exact ⟨ret_int HE.out.symm, hA⟩
  have hq : ¬ (3 : Int) < (s.ovens.length : Int) := by omega
  have HE0 : Hid (ovsE s = fe (ovF s) 0 (s.ovens.length - 0)) := Lib.hid (by simp [ovsE, h8])
  clear h8
  go_enter Try.func73, Try.ntmps73
  go_wp2
  clear hq
  generalize w.alloc (.cells #[.int .i64 s.days, .slice d.a1 s.arts.length d.c1, .slice d.a2 s.ovens.length d.c2, .slice d.a3 s.mks.length d.c3, .slice d.a4 s.jobs.length d.c4, .slice d.a5 s.cols.length d.c5, .slice d.a6 s.ods.length d.c6] 28) = W at *
  have hWs := hB.lt
  go_loopw [12] (fun i wr => ∃ k : Nat, k ≤ s.ovens.length ∧ i = .int .i64 k ∧ Hid (ovsE s = fe (ovF s) k (s.ovens.length - k)) ∧ Below W.heap.size W wr) (fun i _ => s.ovens.length - (intOf i).toNat)
  case atStart => exact ⟨0, Nat.zero_le _, rfl, HE0, Below.refl _ _⟩
  case round =>
    obtain ⟨k, hk, rfl, hx, hb⟩ := hrel
    have hE := hA.trans (hb.mono (by omega))
    have hsz := hb.size
    by_cases hlt : k < s.ovens.length
    · have HF := fe_rel hx hlt
      have HAt := Lib.hid (ovF_at hlt)
      obtain ⟨a', c', he, -, -, hl⟩ := id hra
      simp only [Value.slice.injEq, true_and] at he
      obtain ⟨rfl, rfl⟩ := he
      obtain ⟨b1, o1, he1, q0, q1, i0, i1⟩ := hl k hlt
      have k0 := ext_of_below hE _ _ q0
      have k1 := ext_of_below hE _ _ q1
      have l1 := cell_lt q0
      simp only at k0 k1 l1
      have j1 : (0 : Int) ≤ (k : Int) := Int.natCast_nonneg _
      have j2 : (k : Int) < (s.ovens.length : Int) := by omega
      clear hl q0 q1 hx hA hB
      rw [he1] at ⊢
      generalize s.ovens[k] = x at *
      have ha := below_box wr (.cells #[.int .i64 x.lo, .int .i64 x.hi] 51)
      have HW2 := Lib.hid (hb.trans (ha.mono hb.size))
      go_wp2_with fail
      refine (between_any x.hi 0 1000000 _).mono ?_
      rintro e w1 ⟨rfl, rfl⟩
      cases hn : btw x.hi 0 1000000 with
      | false =>
        have HR := Lib.hid (HF.out.2 1 (by rw [HAt.out]; unfold ovE; rw [if_pos hn]) (by decide))
        clear HF HAt hn
        go_wp2
        go_ret
        exact ⟨ret_int HR.out.symm, hE.trans (ha.mono hE.size)⟩
      | true =>
      go_wp2_with fail
      refine (between_any x.lo 0 x.hi _).mono ?_
      rintro e w1 ⟨rfl, rfl⟩
      cases hm : btw x.lo 0 x.hi with
      | false =>
        have HR := Lib.hid (HF.out.2 1 (by rw [HAt.out]; unfold ovE; rw [if_neg (by rw [hn]; decide), if_pos hm]) (by decide))
        clear HF HAt hn hm
        go_wp2
        go_ret
        exact ⟨ret_int HR.out.symm, hE.trans (ha.mono hE.size)⟩
      | true =>
        have HR := HF.out.1 (by rw [HAt.out]; unfold ovE; rw [if_neg (by rw [hn]; decide), if_neg (by rw [hm]; decide)])
        clear HF HAt hn hm
        go_wp2
        go_roundw
        case rel => exact ⟨k + 1, by omega, by go_num, HR, HW2.out⟩
        case measure => simp [intOf]; omega
    · obtain rfl : k = s.ovens.length := by omega
      have HR := Lib.hid (fe_end hx)
      clear hx
      go_wp2
      go_ret
      exact ⟨ret_int HR.out.symm, hE⟩

def mkE (x : Mk) (no na : Nat) : Int := if btw x.oven 0 ((no : Int) - 1) = false then 7 else if allB x.rates na 0 1000000 = false then 1 else if btw x.idle 0 1000000 = false then 1 else if btw x.start (-1) ((na : Int) - 1) = false then 1 else 0
def mkF (s : Sn) (i : Nat) : Int := match s.mks[i]? with | some x => mkE x s.ovens.length s.arts.length | none => 0
def mksE (s : Sn) : Int := if 6 < s.mks.length then 3 else fe (mkF s) 0 s.mks.length
theorem mkF_at {s : Sn} {k : Nat} (hk : k < s.mks.length) : mkF s k = mkE s.mks[k] s.ovens.length s.arts.length := by unfold mkF; rw [List.getElem?_eq_getElem hk]

set_option maxHeartbeats 4000000 in
set_option maxRecDepth 100000 in
theorem checkMakers_any (s : Sn) (d : SA) (w : World) (h : SnD w s d) : Calls Try.prog 74 #[.agg #[.int .i64 s.days, .slice d.a1 s.arts.length d.c1, .slice d.a2 s.ovens.length d.c2, .slice d.a3 s.mks.length d.c3, .slice d.a4 s.jobs.length d.c4, .slice d.a5 s.cols.length d.c5, .slice d.a6 s.ods.length d.c6]] w fun e w' => e = .returned (.int .i64 (mksE s)) ∧ Below w.heap.size w w' := by
  have hra := h.mks
  have la := h.mks.len
  have lc := h.arts.len
  have lo := h.ovens.len
  have hA := below_box w (.cells #[.int .i64 s.days, .slice d.a1 s.arts.length d.c1, .slice d.a2 s.ovens.length d.c2, .slice d.a3 s.mks.length d.c3, .slice d.a4 s.jobs.length d.c4, .slice d.a5 s.cols.length d.c5, .slice d.a6 s.ods.length d.c6] 28)
  have hB := Blk.new w #[.int .i64 s.days, .slice d.a1 s.arts.length d.c1, .slice d.a2 s.ovens.length d.c2, .slice d.a3 s.mks.length d.c3, .slice d.a4 s.jobs.length d.c4, .slice d.a5 s.cols.length d.c5, .slice d.a6 s.ods.length d.c6] 28
  have zn : wrap64 ((s.arts.length : Int) - 1) = (s.arts.length : Int) - 1 := wrap_id _ (by unfold I64; omega)
  clear h
  by_cases h8 : 6 < s.mks.length
  · have hq : (6 : Int) < (s.mks.length : Int) := by omega
    have HE : Hid (mksE s = 3) := Lib.hid (by simp [mksE, h8])
    clear h8
    go_enter Try.func74, Try.ntmps74
    go_wp2
    go_ret
    exact ⟨ret_int HE.out.symm, hA⟩
  have hq : ¬ (6 : Int) < (s.mks.length : Int) := by omega
  have HE0 : Hid (mksE s = fe (mkF s) 0 (s.mks.length - 0)) := Lib.hid (by simp [mksE, h8])
  clear h8
  go_enter Try.func74, Try.ntmps74
  go_wp2
  clear hq
  generalize w.alloc (.cells #[.int .i64 s.days, .slice d.a1 s.arts.length d.c1, .slice d.a2 s.ovens.length d.c2, .slice d.a3 s.mks.length d.c3, .slice d.a4 s.jobs.length d.c4, .slice d.a5 s.cols.length d.c5, .slice d.a6 s.ods.length d.c6] 28) = W at *
  have hWs := hB.lt
  go_loopw [12] (fun i wr => ∃ k : Nat, k ≤ s.mks.length ∧ i = .int .i64 k ∧ Hid (mksE s = fe (mkF s) k (s.mks.length - k)) ∧ Below W.heap.size W wr) (fun i _ => s.mks.length - (intOf i).toNat)
  case atStart => exact ⟨0, Nat.zero_le _, rfl, HE0, Below.refl _ _⟩
  case round =>
    obtain ⟨k, hk, rfl, hx, hb⟩ := hrel
    have hE := hA.trans (hb.mono (by omega))
    have hBr := hB.below hb hB.lt
    have hsz := hb.size
    by_cases hlt : k < s.mks.length
    · have HF := fe_rel hx hlt
      have HAt := Lib.hid (mkF_at hlt)
      obtain ⟨a', c', he, -, -, hl⟩ := id hra
      simp only [Value.slice.injEq, true_and] at he
      obtain ⟨rfl, rfl⟩ := he
      obtain ⟨b1, o1, he1, v, ⟨q0, q1, q2, q3⟩, i0, i1, i2, i3⟩ := hl k hlt
      have k0 := ext_of_below hE _ _ q0
      have k1 := ext_of_below hE _ _ q1
      have k2 := ext_of_below hE _ _ q2
      have k3 := ext_of_below hE _ _ q3
      have l1 := cell_lt q0
      simp only at k0 k1 k2 k3 l1
      have j1 : (0 : Int) ≤ (k : Int) := Int.natCast_nonneg _
      have j2 : (k : Int) < (s.mks.length : Int) := by omega
      have e1 := hBr.cell 1 _ rfl
      have e2 := hBr.cell 2 _ rfl
      have bl := hBr.lt
      clear hl q0 q1 q2 q3 hx hA hB
      rw [he1] at e1 e2 hBr ⊢
      generalize s.mks[k] = x at *
      obtain ⟨ar, cr, rfl⟩ := i1.shape
      have ha := below_box wr (.cells #[.int .i64 x.oven, .slice ar x.rates.length cr, .int .i64 x.idle, .int .i64 x.start] 53)
      have hBx := Blk.new wr #[.int .i64 x.oven, .slice ar x.rates.length cr, .int .i64 x.idle, .int .i64 x.start] 53
      have HRX := Lib.hid (i1.mono (ext_of_below (hE.trans (ha.mono hE.size))))
      clear i1
      have hBr1 := hBr.below ha bl
      go_wp2_with fail
      refine (isIndex_any x.oven s.ovens.length lo _).mono ?_
      rintro e w1 ⟨rfl, rfl⟩
      cases hn : btw x.oven 0 ((s.ovens.length : Int) - 1) with
      | false =>
        have HR := Lib.hid (HF.out.2 7 (by rw [HAt.out]; unfold mkE; rw [if_pos hn]) (by decide))
        clear HF HAt HRX hn
        go_wp2
        go_ret
        exact ⟨ret_int HR.out.symm, hE.trans (ha.mono hE.size)⟩
      | true =>
      go_wp2_with fail
      refine (allBetween_any _ x.rates s.arts.length 0 1000000 _ HRX.out).mono ?_
      rintro e w2 ⟨rfl, hb2⟩
      have hD2 := ha.trans (hb2.mono ha.size)
      have hBr2 := hBr1.below hb2 hBr1.lt
      have hBx2 := hBx.below hb2 hBx.lt
      have hE2 := hE.trans (hD2.mono hE.size)
      have HW2 := Lib.hid (hb.trans (hD2.mono hb.size))
      clear hb hBr1 hBx HRX hb2 k0 k1 k2 k3 e1 e2 hBr ha hD2
      cases hm : allB x.rates s.arts.length 0 1000000 with
      | false =>
        have HR := Lib.hid (HF.out.2 1 (by rw [HAt.out]; unfold mkE; rw [if_neg (by rw [hn]; decide), if_pos hm]) (by decide))
        clear HF HAt hn hm
        go_wp2
        go_ret
        exact ⟨ret_int HR.out.symm, hE2⟩
      | true =>
      have HNn := Lib.hid hn
      have HM := Lib.hid hm
      clear hn hm
      have x2 := hBx2.cell 2 _ rfl
      have x3 := hBx2.cell 3 _ rfl
      have e1 := hBr2.cell 1 _ rfl
      go_wp2_with fail
      refine (between_any x.idle 0 1000000 _).mono ?_
      rintro e w3 ⟨rfl, rfl⟩
      cases hc : btw x.idle 0 1000000 with
      | false =>
        have HR := Lib.hid (HF.out.2 1 (by rw [HAt.out]; unfold mkE; rw [if_neg (by rw [HNn.out]; decide), if_neg (by rw [HM.out]; decide), if_pos hc]) (by decide))
        clear HF HAt HM HNn hc
        go_wp2
        go_ret
        exact ⟨ret_int HR.out.symm, hE2⟩
      | true =>
      go_wp2_with fail
      refine (between_any x.start (-1) ((s.arts.length : Int) - 1) _).mono ?_
      rintro e w3 ⟨rfl, rfl⟩
      cases hwt : btw x.start (-1) ((s.arts.length : Int) - 1) with
      | false =>
        have HR := Lib.hid (HF.out.2 1 (by rw [HAt.out]; unfold mkE; rw [if_neg (by rw [HNn.out]; decide), if_neg (by rw [HM.out]; decide), if_neg (by rw [hc]; decide), if_pos hwt]) (by decide))
        clear HF HAt HM HNn hc hwt
        go_wp2
        go_ret
        exact ⟨ret_int HR.out.symm, hE2⟩
      | true =>
        have HR := HF.out.1 (by rw [HAt.out]; unfold mkE; rw [if_neg (by rw [HNn.out]; decide), if_neg (by rw [HM.out]; decide), if_neg (by rw [hc]; decide), if_neg (by rw [hwt]; decide)])
        clear HF HAt HM HNn hc hwt
        go_wp2
        go_roundw
        case rel => exact ⟨k + 1, by omega, by go_num, HR, HW2.out⟩
        case measure => simp [intOf]; omega
    · obtain rfl : k = s.mks.length := by omega
      have HR := Lib.hid (fe_end hx)
      clear hx
      go_wp2
      go_ret
      exact ⟨ret_int HR.out.symm, hE⟩

def turnsE (s : Sn) : Int := if tabB s.jobs s.arts.length = false then 1 else if 6 < s.cols.length then 3 else if tabB s.cols s.cols.length = false then 1 else 0
set_option maxHeartbeats 4000000 in
set_option maxRecDepth 100000 in
theorem checkTurns_any (s : Sn) (d : SA) (w : World) (h : SnD w s d) : Calls Try.prog 75 #[.agg #[.int .i64 s.days, .slice d.a1 s.arts.length d.c1, .slice d.a2 s.ovens.length d.c2, .slice d.a3 s.mks.length d.c3, .slice d.a4 s.jobs.length d.c4, .slice d.a5 s.cols.length d.c5, .slice d.a6 s.ods.length d.c6]] w fun e w' => e = .returned (.int .i64 (turnsE s)) ∧ Below w.heap.size w w' := by
  have hj := h.jobs
  have hcl := h.cols
  have la := h.arts.len
  have lc := h.cols.len
  have hA := below_box w (.cells #[.int .i64 s.days, .slice d.a1 s.arts.length d.c1, .slice d.a2 s.ovens.length d.c2, .slice d.a3 s.mks.length d.c3, .slice d.a4 s.jobs.length d.c4, .slice d.a5 s.cols.length d.c5, .slice d.a6 s.ods.length d.c6] 28)
  have hB := Blk.new w #[.int .i64 s.days, .slice d.a1 s.arts.length d.c1, .slice d.a2 s.ovens.length d.c2, .slice d.a3 s.mks.length d.c3, .slice d.a4 s.jobs.length d.c4, .slice d.a5 s.cols.length d.c5, .slice d.a6 s.ods.length d.c6] 28
  clear h
  go_enter Try.func75, Try.ntmps75
  go_wp2_with fail
  generalize w.alloc (.cells #[.int .i64 s.days, .slice d.a1 s.arts.length d.c1, .slice d.a2 s.ovens.length d.c2, .slice d.a3 s.mks.length d.c3, .slice d.a4 s.jobs.length d.c4, .slice d.a5 s.cols.length d.c5, .slice d.a6 s.ods.length d.c6] 28) = W at *
  refine (isTable_any _ s.jobs s.arts.length la _ (hj.mono (ext_of_below hA))).mono ?_
  rintro e w1 ⟨rfl, hb1⟩
  have hA1 := hA.trans (hb1.mono hA.size)
  have hB1 := hB.below hb1 hB.lt
  have e5 := hB1.cell 5 _ rfl
  clear hb1 hj
  cases h1 : tabB s.jobs s.arts.length with
  | false =>
    have HR : Hid (turnsE s = 1) := Lib.hid (by unfold turnsE; rw [if_pos h1])
    clear h1
    go_wp2
    go_ret
    exact ⟨ret_int HR.out.symm, hA1⟩
  | true =>
  have HT1 := Lib.hid h1
  clear h1
  by_cases h6 : 6 < s.cols.length
  · have hq : (6 : Int) < (s.cols.length : Int) := by omega
    have HR : Hid (turnsE s = 3) := Lib.hid (by unfold turnsE; rw [if_neg (by rw [HT1.out]; decide), if_pos h6])
    clear h6
    go_wp2
    go_ret
    exact ⟨ret_int HR.out.symm, hA1⟩
  have hq : ¬ (6 : Int) < (s.cols.length : Int) := by omega
  have HN6 := Lib.hid h6
  clear h6
  go_wp2_with fail
  refine (isTable_any _ s.cols s.cols.length lc _ (hcl.mono (ext_of_below hA1))).mono ?_
  rintro e w2 ⟨rfl, hb2⟩
  have hA2 := hA1.trans (hb2.mono hA1.size)
  clear hb2 hcl hB1 e5
  cases h2 : tabB s.cols s.cols.length with
  | false =>
    have HR : Hid (turnsE s = 1) := Lib.hid (by unfold turnsE; rw [if_neg (by rw [HT1.out]; decide), if_neg HN6.out, if_pos h2])
    clear h2
    go_wp2
    go_ret
    exact ⟨ret_int HR.out.symm, hA2⟩
  | true =>
    have HR : Hid (turnsE s = 0) := Lib.hid (by unfold turnsE; rw [if_neg (by rw [HT1.out]; decide), if_neg HN6.out, if_neg (by rw [h2]; decide)])
    clear h2
    go_wp2
    go_ret
    exact ⟨ret_int HR.out.symm, hA2⟩

def odE (pre : List Od) (x : Od) (na : Nat) (days : Int) : Int := if btw x.art 0 ((na : Int) - 1) = false then 7 else if pre.any (fun y => y.art == x.art) = true then 6 else if btw x.qty 0 1000000 = false then 1 else if btw x.due 0 (days - 1) = false then 1 else if btw x.pen 0 1000000 = false then 1 else 0
def odF (s : Sn) (i : Nat) : Int := match s.ods[i]? with | some x => odE (s.ods.take i) x s.arts.length s.days | none => 0
def odsE (s : Sn) : Int := if s.arts.length < s.ods.length then 3 else fe (odF s) 0 s.ods.length
theorem odF_at {s : Sn} {k : Nat} (hk : k < s.ods.length) : odF s k = odE (s.ods.take k) s.ods[k] s.arts.length s.days := by unfold odF; rw [List.getElem?_eq_getElem hk]

set_option maxHeartbeats 4000000 in
set_option maxRecDepth 100000 in
theorem checkOrders_any (s : Sn) (d : SA) (w : World) (h : SnD w s d) (hday : 1 ≤ s.days ∧ s.days ≤ 14) : Calls Try.prog 76 #[.agg #[.int .i64 s.days, .slice d.a1 s.arts.length d.c1, .slice d.a2 s.ovens.length d.c2, .slice d.a3 s.mks.length d.c3, .slice d.a4 s.jobs.length d.c4, .slice d.a5 s.cols.length d.c5, .slice d.a6 s.ods.length d.c6]] w fun e w' => e = .returned (.int .i64 (odsE s)) ∧ Below w.heap.size w w' := by
  have hra := h.ods
  have lc := h.arts.len
  have la := h.ods.len
  have hA := below_box w (.cells #[.int .i64 s.days, .slice d.a1 s.arts.length d.c1, .slice d.a2 s.ovens.length d.c2, .slice d.a3 s.mks.length d.c3, .slice d.a4 s.jobs.length d.c4, .slice d.a5 s.cols.length d.c5, .slice d.a6 s.ods.length d.c6] 28)
  have hB := Blk.new w #[.int .i64 s.days, .slice d.a1 s.arts.length d.c1, .slice d.a2 s.ovens.length d.c2, .slice d.a3 s.mks.length d.c3, .slice d.a4 s.jobs.length d.c4, .slice d.a5 s.cols.length d.c5, .slice d.a6 s.ods.length d.c6] 28
  have zd : wrap64 (s.days - 1) = s.days - 1 := wrap_id _ (by unfold I64; omega)
  clear h
  by_cases h8 : s.arts.length < s.ods.length
  · have hq : (s.arts.length : Int) < (s.ods.length : Int) := by omega
    have HE : Hid (odsE s = 3) := Lib.hid (by simp [odsE, h8])
    clear h8
    go_enter Try.func76, Try.ntmps76
    go_wp2
    go_ret
    exact ⟨ret_int HE.out.symm, hA⟩
  have hq : ¬ (s.arts.length : Int) < (s.ods.length : Int) := by omega
  have HE0 : Hid (odsE s = fe (odF s) 0 (s.ods.length - 0)) := Lib.hid (by simp [odsE, h8])
  clear h8
  go_enter Try.func76, Try.ntmps76
  go_wp2
  clear hq
  generalize w.alloc (.cells #[.int .i64 s.days, .slice d.a1 s.arts.length d.c1, .slice d.a2 s.ovens.length d.c2, .slice d.a3 s.mks.length d.c3, .slice d.a4 s.jobs.length d.c4, .slice d.a5 s.cols.length d.c5, .slice d.a6 s.ods.length d.c6] 28) = W at *
  have hWs := hB.lt
  go_loopw [15] (fun i wr => ∃ k : Nat, k ≤ s.ods.length ∧ i = .int .i64 k ∧ Hid (odsE s = fe (odF s) k (s.ods.length - k)) ∧ Below W.heap.size W wr) (fun i _ => s.ods.length - (intOf i).toNat)
  case atStart => exact ⟨0, Nat.zero_le _, rfl, HE0, Below.refl _ _⟩
  case round =>
    obtain ⟨k, hk, rfl, hx, hb⟩ := hrel
    have hE := hA.trans (hb.mono (by omega))
    have hBr := hB.below hb hB.lt
    have hsz := hb.size
    by_cases hlt : k < s.ods.length
    · have HF := fe_rel hx hlt
      have HAt := Lib.hid (odF_at hlt)
      have hrk := fun V (hV : Below wr.heap.size wr V) => RSl.take (ROds.mono (ext_of_below (hE.trans (hV.mono hE.size))) hra) k hk
      have HRK := Lib.hid hrk
      obtain ⟨a', c', he, hcap, -, hl⟩ := id hra
      simp only [Value.slice.injEq, true_and] at he
      obtain ⟨rfl, rfl⟩ := he
      have hkc : k ≤ d.c6 := by omega
      clear hcap
      obtain ⟨b1, o1, he1, ⟨q0, q1, q2, q3⟩, i0, i1, i2, i3⟩ := hl k hlt
      have k0 := ext_of_below hE _ _ q0
      have k1 := ext_of_below hE _ _ q1
      have k2 := ext_of_below hE _ _ q2
      have k3 := ext_of_below hE _ _ q3
      have l1 := cell_lt q0
      simp only at k0 k1 k2 k3 l1
      have j1 : (0 : Int) ≤ (k : Int) := Int.natCast_nonneg _
      have j2 : (k : Int) < (s.ods.length : Int) := by omega
      have e0 := hBr.cell 0 _ rfl
      have e1 := hBr.cell 1 _ rfl
      have e6 := hBr.cell 6 _ rfl
      have bl := hBr.lt
      clear hl q0 q1 q2 q3 hx hA hB
      rw [he1] at e6 e0 e1 hBr HRK ⊢
      generalize s.ods[k] = x at *
      have ha := below_box wr (.cells #[.int .i64 x.art, .int .i64 x.qty, .int .i64 x.due, .int .i64 x.pen] 55)
      have hBx := Blk.new wr #[.int .i64 x.art, .int .i64 x.qty, .int .i64 x.due, .int .i64 x.pen] 55
      have hBr1 := hBr.below ha bl
      have x0 := hBx.cell 0 _ rfl
      go_wp2_with fail
      refine (isIndex_any x.art s.arts.length lc _).mono ?_
      rintro e w1 ⟨rfl, rfl⟩
      cases hn : btw x.art 0 ((s.arts.length : Int) - 1) with
      | false =>
        have HR := Lib.hid (HF.out.2 7 (by rw [HAt.out]; unfold odE; rw [if_pos hn]) (by decide))
        clear HF HAt HRK hn
        go_wp2
        go_ret
        exact ⟨ret_int HR.out.symm, hE.trans (ha.mono hE.size)⟩
      | true =>
      go_wp2_with fail
      clear k0 k1 k2 k3 e0 e1 e6
      generalize hwa : wr.alloc (.cells #[.int .i64 x.art, .int .i64 x.qty, .int .i64 x.due, .int .i64 x.pen] 55) = wa at *
      have D0 : Below wa.heap.size wa wa.drew := (Below.refl _ _).drew
      have hza : wr.heap.size < wa.heap.size := hBx.lt
      clear hwa
      refine wp_region_till (fun w' : World => w'.cell? ⟨w.heap.size, 6, none⟩ = some (.slice (some ⟨b1, o1, none⟩) s.ods.length d.c6) ∧ w'.cell? ⟨wr.heap.size, 0, none⟩ = some (.int .i64 x.art)) 9 (by kernel_rfl) ⟨(hBr1.below D0 hBr1.lt).cell 6 _ rfl, (hBx.below D0 hBx.lt).cell 0 _ rfl⟩ (fun hHeld => ?_)
      have HD0 := Lib.hid D0
      clear D0 x0
      generalize wa.drew = wd at *
      refine Till.take 0 (some 27) (v := ?_) rfl rfl (by kernel_rfl) (by kernel_rfl) (by kernel_rfl) (by kernel_rfl) (fun _ _ _ h => h) (Or.inl ⟨by rfl, ?_⟩) (by assumption) ?_
      rotate_left
      · (intro w hSw; (try dsimp only at hSw); go_simp; try with_reducible rfl)
      try simp only [Act.put, List.setIfInBounds_toArray, List.set_cons_zero, List.set_cons_succ]
      refine Till.take 1 (some 28) (v := ?_) rfl rfl (by kernel_rfl) (by kernel_rfl) (by kernel_rfl) (by kernel_rfl) (fun _ _ _ h => h) (Or.inl ⟨by rfl, ?_⟩) (by assumption) ?_
      rotate_left
      · (intro w hSw; (try dsimp only at hSw); go_simp; try with_reducible rfl)
      try simp only [Act.put, List.setIfInBounds_toArray, List.set_cons_zero, List.set_cons_succ]
      refine Till.take 2 (some 29) (v := ?_) rfl rfl (by kernel_rfl) (by kernel_rfl) (by kernel_rfl) (by kernel_rfl) (fun _ _ _ h => h) (Or.inl ⟨by rfl, ?_⟩) (by assumption) ?_
      rotate_left
      · (intro w hSw; (try dsimp only at hSw); go_simp; try with_reducible rfl)
      try simp only [Act.put, List.setIfInBounds_toArray, List.set_cons_zero, List.set_cons_succ]
      refine Till.take 3 (some 30) (v := ?_) rfl rfl (by kernel_rfl) (by kernel_rfl) (by kernel_rfl) (by kernel_rfl) (fun _ _ _ h => h) (Or.inl ⟨by rfl, ?_⟩) (by assumption) ?_
      rotate_left
      · (intro w hSw; (try dsimp only at hSw); go_simp; try with_reducible rfl)
      try simp only [Act.put, List.setIfInBounds_toArray, List.set_cons_zero, List.set_cons_succ]
      refine Till.take 4 (some 31) (v := ?_) rfl rfl (by kernel_rfl) (by kernel_rfl) (by kernel_rfl) (by kernel_rfl) (fun _ _ _ h => h) (Or.inl ⟨by rfl, ?_⟩) (by assumption) ?_
      rotate_left
      · (intro w hSw; (try dsimp only at hSw); go_simp; try with_reducible rfl)
      try simp only [Act.put, List.setIfInBounds_toArray, List.set_cons_zero, List.set_cons_succ]
      refine Till.take 5 (some 32) (v := ?_) rfl rfl (by kernel_rfl) (by kernel_rfl) (by kernel_rfl) (by kernel_rfl) (fun _ _ _ h => h) (Or.inl ⟨by rfl, ?_⟩) (by assumption) ?_
      rotate_left
      · (intro w hSw; (try dsimp only at hSw); go_simp; try with_reducible rfl)
      try simp only [Act.put, List.setIfInBounds_toArray, List.set_cons_zero, List.set_cons_succ]
      refine Till.one 6 rfl (by kernel_rfl) (fun K hK => ?_)
      go_simp
      go_at_call 89
      have hDw := ha.trans (HD0.out.mono ha.size)
      refine (findOrder_any _ (s.ods.take k) x.art _ (HRK.out _ hDw)).mono ?_
      rintro e w2 ⟨n, rfl, hn2, hnm, hb2⟩
      have HN2 := Lib.hid hn2
      clear hn2
      have hD2 := HD0.out.trans (hb2.mono HD0.out.size)
      have hh1 : w2.cell? ⟨w.heap.size, 6, none⟩ = some (.slice (some ⟨b1, o1, none⟩) s.ods.length d.c6) ∧ w2.cell? ⟨wr.heap.size, 0, none⟩ = some (.int .i64 x.art) := ⟨(hBr1.below hD2 hBr1.lt).cell 6 _ rfl, (hBx.below hD2 hBx.lt).cell 0 _ rfl⟩
      refine hK.out _ _ (fun _ => hh1) (fun hHeld1 => ?_)
      clear hK K hb2
      try simp only [Act.put, List.setIfInBounds_toArray, List.set_cons_zero, List.set_cons_succ]
      refine Till.take 7 (some 34) (v := ?_) rfl rfl (by kernel_rfl) (by kernel_rfl) (by kernel_rfl) (by kernel_rfl) (fun _ _ _ h => h) (Or.inl ⟨by rfl, ?_⟩) (by assumption) ?_
      rotate_left
      · (intro w hSw; (try dsimp only at hSw); go_simp; try with_reducible rfl)
      try simp only [Act.put, List.setIfInBounds_toArray, List.set_cons_zero, List.set_cons_succ]
      refine Till.done (by kernel_rfl) ?_ _
      have hBr2 := hBr1.below hD2 hBr1.lt
      have hBx2 := hBx.below hD2 hBx.lt
      have hE2 := hE.trans ((ha.trans (hD2.mono ha.size)).mono hE.size)
      have HW2 := Lib.hid (hb.trans ((ha.trans (hD2.mono ha.size)).mono hb.size))
      clear hb
      clear hh1 hHeld hHeld1 HD0 hDw hBr1 hBx HRK hBr hD2
      by_cases h0 : 0 ≤ n
      · have hq0 : decide (0 ≤ n) = true := decide_eq_true h0
        have HR := Lib.hid (HF.out.2 6 (by rw [HAt.out]; unfold odE; rw [if_neg (by rw [hn]; decide), if_pos (HN2.out.1 h0)]) (by decide))
        clear HF HAt HN2 hn
        go_wp2
        go_ret
        exact ⟨ret_int HR.out.symm, hE2⟩
      have hq0 : decide (0 ≤ n) = false := decide_eq_false h0
      have hp : (s.ods.take k).any (fun y => y.art == x.art) = false := by
        cases h : (s.ods.take k).any (fun y => y.art == x.art) with
        | false => rfl
        | true => exact absurd (HN2.out.2 h) h0
      have HP := Lib.hid hp
      have HNn := Lib.hid hn
      clear HN2 hp hn
      have e0 := hBr2.cell 0 _ rfl
      have x1 := hBx2.cell 1 _ rfl
      have x2 := hBx2.cell 2 _ rfl
      have x3 := hBx2.cell 3 _ rfl
      go_wp2_with fail
      refine (between_any x.qty 0 1000000 _).mono ?_
      rintro e w3 ⟨rfl, rfl⟩
      cases hc : btw x.qty 0 1000000 with
      | false =>
        have HR := Lib.hid (HF.out.2 1 (by rw [HAt.out]; unfold odE; rw [if_neg (by rw [HNn.out]; decide), if_neg (by rw [HP.out]; decide), if_pos hc]) (by decide))
        clear HF HAt HP HNn hc
        go_wp2
        go_ret
        exact ⟨ret_int HR.out.symm, hE2⟩
      | true =>
      go_wp2_with fail
      refine (between_any x.due 0 (s.days - 1) _).mono ?_
      rintro e w3 ⟨rfl, rfl⟩
      cases hwt : btw x.due 0 (s.days - 1) with
      | false =>
        have HR := Lib.hid (HF.out.2 1 (by rw [HAt.out]; unfold odE; rw [if_neg (by rw [HNn.out]; decide), if_neg (by rw [HP.out]; decide), if_neg (by rw [hc]; decide), if_pos hwt]) (by decide))
        clear HF HAt HP HNn hc hwt
        go_wp2
        go_ret
        exact ⟨ret_int HR.out.symm, hE2⟩
      | true =>
      go_wp2_with fail
      refine (between_any x.pen 0 1000000 _).mono ?_
      rintro e w3 ⟨rfl, rfl⟩
      cases hpn : btw x.pen 0 1000000 with
      | false =>
        have HR := Lib.hid (HF.out.2 1 (by rw [HAt.out]; unfold odE; rw [if_neg (by rw [HNn.out]; decide), if_neg (by rw [HP.out]; decide), if_neg (by rw [hc]; decide), if_neg (by rw [hwt]; decide), if_pos hpn]) (by decide))
        clear HF HAt HP HNn hc hwt hpn
        go_wp2
        go_ret
        exact ⟨ret_int HR.out.symm, hE2⟩
      | true =>
        have HR := HF.out.1 (by rw [HAt.out]; unfold odE; rw [if_neg (by rw [HNn.out]; decide), if_neg (by rw [HP.out]; decide), if_neg (by rw [hc]; decide), if_neg (by rw [hwt]; decide), if_neg (by rw [hpn]; decide)])
        clear HF HAt HP HNn hc hwt hpn
        go_wp2
        go_roundw
        case rel => exact ⟨k + 1, by omega, by go_num, HR, HW2.out⟩
        case measure => simp [intOf]; omega
    · obtain rfl : k = s.ods.length := by omega
      have HR := Lib.hid (fe_end hx)
      clear hx
      go_wp2
      go_ret
      exact ⟨ret_int HR.out.symm, hE⟩

end Go.Proofs.Ytdffhkbncencgaa
