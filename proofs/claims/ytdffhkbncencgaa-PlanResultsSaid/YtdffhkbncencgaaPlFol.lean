/- What comes of a furnace's shift on a day: works.follow; no statement is proved here. -/
import Derived.Test.YtdffhkbncencgaaPlCru
namespace Go.Proofs.Ytdffhkbncencgaa
open Go.RowKit Go.PlainAid
set_option linter.unusedVariables false
set_option linter.unusedSimpArgs false

def tnAt (l : List (List Sp)) (i j : Int) : Sp := ((l[i.toNat]?).getD []).getD j.toNat ⟨0, 0⟩
theorem tnAt_bd {l : List (List Sp)} (h : ∀ r ∈ l, ∀ t ∈ r, (0 ≤ t.lo ∧ t.lo ≤ 1440) ∧ 0 ≤ t.hi ∧ t.hi ≤ 1000000) (i j : Int) : (0 ≤ (tnAt l i j).lo ∧ (tnAt l i j).lo ≤ 1440) ∧ 0 ≤ (tnAt l i j).hi ∧ (tnAt l i j).hi ≤ 1000000 := by
  unfold tnAt
  cases h1 : l[i.toNat]? with
  | none => simp [List.getD]
  | some r =>
    simp only [Option.getD_some, List.getD]
    cases h2 : r[j.toNat]? with
    | none => simp
    | some t => exact h r (List.mem_of_getElem? h1) t (List.mem_of_getElem? h2)
theorem tnAt_at {l : List (List Sp)} {i j : Nat} (hi : i < l.length) (hj : j < (l[i]).length) : tnAt l i j = l[i][j] := by
  unfold tnAt
  simp [List.getElem?_eq_getElem hi, List.getD, List.getElem?_eq_getElem hj]
/-- the change of colour, and that of articles. -/
def lostS (s : Sn) (f t : Int) : Sp := if f = -1 ∨ t = -1 ∨ f = t then ⟨0, 0⟩ else tnAt s.cols f t
def jobS (s : Sn) (l a : Int) : Sp := if l = -1 ∨ l = a then ⟨0, 0⟩ else tnAt s.jobs l a
def idl (s : Sn) (m : Int) : Int := (s.mks[m.toNat]?).elim 0 Mk.idle
def mkC (s : Sn) (bef now : List Int) (m : Int) : Int := if g now m.toNat = -1 then idl s m else (jobS s (g bef m.toNat) (g now m.toNat)).hi
def mkB (s : Sn) (L : Int) (bef now : List Int) (m : Int) : Int := rate s m (g now m.toNat) * max 0 (1440 - L - (jobS s (g bef m.toNat) (g now m.toNat)).lo) / 1440
def z6 : List Int := [0, 0, 0, 0, 0, 0]
def flC (s : Sn) (C : Int) (bef now ms : List Int) : Int := C + (ms.map (mkC s bef now)).sum
def flM (s : Sn) (L : Int) (bef now ms : List Int) : List Int := ms.foldl (fun c m => if g now m.toNat = -1 then c else c.set m.toNat (mkB s L bef now m)) z6
theorem flC_step {s : Sn} {C : Int} {bef now ms : List Int} {k : Nat} (h : k < ms.length) : flC s C bef now (ms.take (k + 1)) = flC s C bef now (ms.take k) + mkC s bef now ms[k] := by
  unfold flC
  rw [List.take_succ_eq_append_getElem h, List.map_append, List.sum_append]; simp; omega
theorem flM_step {s : Sn} {L : Int} {bef now ms : List Int} {k : Nat} (h : k < ms.length) : flM s L bef now (ms.take (k + 1)) = if g now (ms[k]).toNat = -1 then flM s L bef now (ms.take k) else (flM s L bef now (ms.take k)).set (ms[k]).toNat (mkB s L bef now ms[k]) := by
  unfold flM
  rw [List.take_add_one, List.getElem?_eq_getElem h, List.foldl_append]
  rfl
theorem flM_len (s : Sn) (L : Int) (bef now : List Int) (ms : List Int) : (flM s L bef now ms).length = 6 := by
  unfold flM
  suffices ∀ (l : List Int) (c : List Int), (l.foldl (fun c m => if g now m.toNat = -1 then c else c.set m.toNat (mkB s L bef now m)) c).length = c.length from this ms z6
  intro l
  induction l with
  | nil => intro c; rfl
  | cons a l ih => intro c; rw [List.foldl_cons, ih]; split <;> simp
theorem jobS_bd {s : Sn} (ok : OkS s) (l a : Int) : (0 ≤ (jobS s l a).lo ∧ (jobS s l a).lo ≤ 1440) ∧ 0 ≤ (jobS s l a).hi ∧ (jobS s l a).hi ≤ 1000000 := by
  unfold jobS
  split
  · simp
  · exact tnAt_bd (fun r hr => (ok.job r hr).2) l a
theorem lostS_bd {s : Sn} (ok : OkS s) (l a : Int) : (0 ≤ (lostS s l a).lo ∧ (lostS s l a).lo ≤ 1440) ∧ 0 ≤ (lostS s l a).hi ∧ (lostS s l a).hi ≤ 1000000 := by
  unfold lostS
  split
  · simp
  · exact tnAt_bd (fun r hr => (ok.col r hr).2) l a
theorem idl_bd {s : Sn} (ok : OkS s) (m : Int) : 0 ≤ idl s m ∧ idl s m ≤ 1000000 := by
  unfold idl
  cases h : s.mks[m.toNat]? with
  | none => simp
  | some x => exact (ok.mkr x (List.mem_of_getElem? h)).2.2.1
theorem mkC_bd {s : Sn} (ok : OkS s) (bef now : List Int) (m : Int) : 0 ≤ mkC s bef now m ∧ mkC s bef now m ≤ 1000000 := by
  unfold mkC
  split
  · exact idl_bd ok m
  · exact (jobS_bd ok _ _).2
theorem flC_bd {s : Sn} (ok : OkS s) {C : Int} (hC : 0 ≤ C ∧ C ≤ 1000000) (bef now : List Int) : ∀ (ms : List Int), 0 ≤ flC s C bef now ms ∧ flC s C bef now ms ≤ 1000000 + 1000000 * ms.length
  | [] => by simp [flC]; omega
  | m :: r => by
    have h1 := flC_bd ok hC bef now r
    have h2 := mkC_bd ok bef now m
    unfold flC at *
    simp only [List.map_cons, List.sum_cons, List.length_cons]
    omega
theorem mkB_bd {s : Sn} (ok : OkS s) {L : Int} (hL : 0 ≤ L) (bef now : List Int) (m : Int) : 0 ≤ mkB s L bef now m ∧ mkB s L bef now m ≤ rate s m (g now m.toNat) := by
  unfold mkB
  have h1 := rate_bd ok m (g now m.toNat)
  have h2 := jobS_bd ok (g bef m.toNat) (g now m.toNat)
  obtain ⟨t, ht⟩ : ∃ t, max 0 (1440 - L - (jobS s (g bef m.toNat) (g now m.toNat)).lo) = t := ⟨_, rfl⟩
  rw [ht]
  have ht1 : 0 ≤ t ∧ t ≤ 1440 := by omega
  generalize rate s m (g now m.toNat) = r at *
  have h3 : 0 ≤ r * t := Int.mul_nonneg h1.1 ht1.1
  have h4 : r * t ≤ r * 1440 := Int.mul_le_mul_of_nonneg_left ht1.2 h1.1
  omega
theorem colS_bd {s : Sn} (ok : OkS s) {c : List Int} (hc : CrOk s c) : ∀ (ms : List Int), (∀ m ∈ ms, m.toNat < 6) → colS s c ms = -1 ∨ (0 ≤ colS s c ms ∧ colS s c ms < s.cols.length)
  | [], _ => .inl rfl
  | m :: r, hm => by
    unfold colS
    split
    · exact colS_bd ok hc r (fun q hq => hm q (List.mem_cons_of_mem _ hq))
    · rename_i h1
      have h2 := hc.2 m.toNat (hm m (List.mem_cons_self ..))
      obtain ⟨p, hp⟩ := Int.eq_ofNat_of_zero_le (show 0 ≤ g c m.toNat by omega)
      rw [hp] at h2 ⊢
      rw [colr_at (show p < s.arts.length by omega)]
      exact .inr (ok.art _ (List.getElem_mem (show p < s.arts.length by omega))).1
theorem mkv {R t : Int} (hR : 0 ≤ R ∧ R ≤ 1000000) (ht : 0 ≤ t ∧ t ≤ 1440) : wrap64 (R * t) = R * t ∧ (R * t).tdiv 1440 = R * t / 1440 ∧ wrap64 (R * t / 1440) = R * t / 1440 := by
  have zm : 0 ≤ R * t ∧ R * t ≤ 1440000000 := ⟨Int.mul_nonneg hR.1 ht.1, Int.le_trans (Int.mul_le_mul hR.2 ht.2 ht.1 (by omega)) (by omega)⟩
  generalize R * t = x at *
  exact ⟨wrap_id _ (by unfold I64; omega), Int.tdiv_eq_ediv_of_nonneg zm.1, wrap_id _ (by unfold I64; omega)⟩
theorem maxb {x : Int} (h : x ≤ 1440) : 0 ≤ max 0 x ∧ max 0 x ≤ 1440 := by omega
/-- an outcome's cells: the shift, the cost, the bottles. -/
def ocC (c : List Int) (n : Int) (m : List Int) : Array Value := #[.int .i64 (g c 0), .int .i64 (g c 1), .int .i64 (g c 2), .int .i64 (g c 3), .int .i64 (g c 4), .int .i64 (g c 5), .int .i64 n, .int .i64 (g m 0), .int .i64 (g m 1), .int .i64 (g m 2), .int .i64 (g m 3), .int .i64 (g m 4), .int .i64 (g m 5)]
theorem ocC_cost (c : List Int) (n v : Int) (m : List Int) : (ocC c n m).setIfInBounds 6 (.int .i64 v) = ocC c v m := rfl
theorem ocC_made (c : List Int) (n v : Int) (m : List Int) (hm : m.length = 6) {j : Nat} (hj : j < 6) : (ocC c n m).setIfInBounds (7 + j) (.int .i64 v) = ocC c n (m.set j v) := by
  unfold ocC
  simp only [g_set m hm hj]
  obtain rfl | rfl | rfl | rfl | rfl | rfl : j = 0 ∨ j = 1 ∨ j = 2 ∨ j = 3 ∨ j = 4 ∨ j = 5 := by omega
  all_goals rfl
theorem ocC_at (c : List Int) (n : Int) (m : List Int) {j : Nat} (hj : j < 6) : (ocC c n m)[7 + j]? = some (.int .i64 (g m j)) := by
  obtain rfl | rfl | rfl | rfl | rfl | rfl : j = 0 ∨ j = 1 ∨ j = 2 ∨ j = 3 ∨ j = 4 ∨ j = 5 := by omega
  all_goals rfl
theorem ocC_one (c : List Int) (n : Int) (m : List Int) : (ocC c n m).all (·.oneCell') = true := by simp [ocC, Value.oneCell']
theorem oc_cell {w : World} {K n : Nat} {c M : List Int} {x : Int} {t : TypeId} (h : Blk w K (ocC c x M) t) (hn : n < 6) : w.cell? ⟨K, 7 + n, none⟩ = some (.int .i64 (g M n)) ∧ w.frozen? ⟨K, 7 + n, none⟩ = false :=
  ⟨h.cell (7 + n) (.int .i64 (g M n)) (ocC_at c x M hn), h.frozen (7 + n)⟩
theorem oc_set {w : World} {K n : Nat} {c M : List Int} {x : Int} {t : TypeId} (h : Blk w K (ocC c x M) t) (hM : M.length = 6) (hn : n < 6) (V : Int) : Blk (w.setCell ⟨K, 7 + n, none⟩ (.int .i64 V)) K (ocC c x (M.set n V)) t := by
  have := h.set (7 + n) (.int .i64 V)
  rwa [ocC_made c x V M hM hn] at this
/-- what comes of a shift. -/
structure Oc where
  sh : List Int
  cost : Int
  made : List Int
def folS (s : Sn) (ms bef now : List Int) : Oc := ⟨now, flC s (lostS s (colS s bef ms) (colS s now ms)).hi bef now ms, flM s (lostS s (colS s bef ms) (colS s now ms)).lo bef now ms⟩
def ocV (x : Oc) : Array Value := ocC x.sh x.cost x.made
theorem ms6 {s : Sn} {ms : List Int} (hm : MsOk s ms) (hn : s.mks.length ≤ 6) : ∀ m ∈ ms, m.toNat < 6 := fun m h => by have := hm m h; omega

attribute [local go_sem ↓] ex_ldo ex_sto
set_option maxHeartbeats 8000000 in
set_option maxRecDepth 100000 in
theorem follow_any (s : Sn) (d : SA) (v7 : Value) (lo hi : Int) (am : Option Addr) (cm : Nat) (ms : List Int) (v2 : Value) (bef now : List Int) (w : World) (h : SnD w s d) (ok : OkS s) (hr : RInts w (.slice am ms.length cm) ms) (hm : MsOk s ms) (hl6 : ms.length ≤ 6) (hbe : CrOk s bef) (hno : CrOk s now) :
    Calls Try.prog 69 #[.agg #[.int .i64 s.days, .slice d.a1 s.arts.length d.c1, .slice d.a2 s.ovens.length d.c2, .slice d.a3 s.mks.length d.c3, .slice d.a4 s.jobs.length d.c4, .slice d.a5 s.cols.length d.c5, .slice d.a6 s.ods.length d.c6, v7], .agg #[.int .i64 lo, .int .i64 hi, .slice am ms.length cm, v2], .agg (crC bef), .agg (crC now)] w fun e w' => e = .returned (.agg (ocV (folS s ms bef now))) ∧ Below w.heap.size w w' := by
  have hm6 := ms6 hm ok.nm
  have hFb := colS_bd ok hbe ms hm6
  have hGb := colS_bd ok hno ms hm6
  have A0 := below_box w (.cells #[.int .i64 s.days, .slice d.a1 s.arts.length d.c1, .slice d.a2 s.ovens.length d.c2, .slice d.a3 s.mks.length d.c3, .slice d.a4 s.jobs.length d.c4, .slice d.a5 s.cols.length d.c5, .slice d.a6 s.ods.length d.c6, v7] 63)
  have A1 := A0.alloc (by simp) (.cells #[.int .i64 lo, .int .i64 hi, .slice am ms.length cm, v2] 69)
  have A2 := A1.alloc (by simp; omega) (.cells #[.int .i64 (g bef 0), .int .i64 (g bef 1), .int .i64 (g bef 2), .int .i64 (g bef 3), .int .i64 (g bef 4), .int .i64 (g bef 5)] 71)
  have A3 := A2.alloc (by simp; omega) (.cells #[.int .i64 (g now 0), .int .i64 (g now 1), .int .i64 (g now 2), .int .i64 (g now 3), .int .i64 (g now 4), .int .i64 (g now 5)] 71)
  have A4 := A3.alloc (by simp; omega) (.cells #[.int .i64 0, .int .i64 0, .int .i64 0, .int .i64 0, .int .i64 0, .int .i64 0, .int .i64 0, .int .i64 0, .int .i64 0, .int .i64 0, .int .i64 0, .int .i64 0, .int .i64 0] 82)
  have A5 := A4.alloc (by simp; omega) (.cells (ocC now 0 z6) 82)
  have b0 := ((((Blk.new w #[.int .i64 s.days, .slice d.a1 s.arts.length d.c1, .slice d.a2 s.ovens.length d.c2, .slice d.a3 s.mks.length d.c3, .slice d.a4 s.jobs.length d.c4, .slice d.a5 s.cols.length d.c5, .slice d.a6 s.ods.length d.c6, v7] 63).alloc (.cells #[.int .i64 lo, .int .i64 hi, .slice am ms.length cm, v2] 69)).alloc (.cells #[.int .i64 (g bef 0), .int .i64 (g bef 1), .int .i64 (g bef 2), .int .i64 (g bef 3), .int .i64 (g bef 4), .int .i64 (g bef 5)] 71)).alloc (.cells #[.int .i64 (g now 0), .int .i64 (g now 1), .int .i64 (g now 2), .int .i64 (g now 3), .int .i64 (g now 4), .int .i64 (g now 5)] 71)).alloc (.cells #[.int .i64 0, .int .i64 0, .int .i64 0, .int .i64 0, .int .i64 0, .int .i64 0, .int .i64 0, .int .i64 0, .int .i64 0, .int .i64 0, .int .i64 0, .int .i64 0, .int .i64 0] 82)
  have b1 := (((Blk.new (w.alloc (.cells #[.int .i64 s.days, .slice d.a1 s.arts.length d.c1, .slice d.a2 s.ovens.length d.c2, .slice d.a3 s.mks.length d.c3, .slice d.a4 s.jobs.length d.c4, .slice d.a5 s.cols.length d.c5, .slice d.a6 s.ods.length d.c6, v7] 63)) #[.int .i64 lo, .int .i64 hi, .slice am ms.length cm, v2] 69).alloc (.cells #[.int .i64 (g bef 0), .int .i64 (g bef 1), .int .i64 (g bef 2), .int .i64 (g bef 3), .int .i64 (g bef 4), .int .i64 (g bef 5)] 71)).alloc (.cells #[.int .i64 (g now 0), .int .i64 (g now 1), .int .i64 (g now 2), .int .i64 (g now 3), .int .i64 (g now 4), .int .i64 (g now 5)] 71)).alloc (.cells #[.int .i64 0, .int .i64 0, .int .i64 0, .int .i64 0, .int .i64 0, .int .i64 0, .int .i64 0, .int .i64 0, .int .i64 0, .int .i64 0, .int .i64 0, .int .i64 0, .int .i64 0] 82)
  have b2 := ((Blk.new ((w.alloc (.cells #[.int .i64 s.days, .slice d.a1 s.arts.length d.c1, .slice d.a2 s.ovens.length d.c2, .slice d.a3 s.mks.length d.c3, .slice d.a4 s.jobs.length d.c4, .slice d.a5 s.cols.length d.c5, .slice d.a6 s.ods.length d.c6, v7] 63)).alloc (.cells #[.int .i64 lo, .int .i64 hi, .slice am ms.length cm, v2] 69)) #[.int .i64 (g bef 0), .int .i64 (g bef 1), .int .i64 (g bef 2), .int .i64 (g bef 3), .int .i64 (g bef 4), .int .i64 (g bef 5)] 71).alloc (.cells #[.int .i64 (g now 0), .int .i64 (g now 1), .int .i64 (g now 2), .int .i64 (g now 3), .int .i64 (g now 4), .int .i64 (g now 5)] 71)).alloc (.cells #[.int .i64 0, .int .i64 0, .int .i64 0, .int .i64 0, .int .i64 0, .int .i64 0, .int .i64 0, .int .i64 0, .int .i64 0, .int .i64 0, .int .i64 0, .int .i64 0, .int .i64 0] 82)
  have b3 := (Blk.new (((w.alloc (.cells #[.int .i64 s.days, .slice d.a1 s.arts.length d.c1, .slice d.a2 s.ovens.length d.c2, .slice d.a3 s.mks.length d.c3, .slice d.a4 s.jobs.length d.c4, .slice d.a5 s.cols.length d.c5, .slice d.a6 s.ods.length d.c6, v7] 63)).alloc (.cells #[.int .i64 lo, .int .i64 hi, .slice am ms.length cm, v2] 69)).alloc (.cells #[.int .i64 (g bef 0), .int .i64 (g bef 1), .int .i64 (g bef 2), .int .i64 (g bef 3), .int .i64 (g bef 4), .int .i64 (g bef 5)] 71)) #[.int .i64 (g now 0), .int .i64 (g now 1), .int .i64 (g now 2), .int .i64 (g now 3), .int .i64 (g now 4), .int .i64 (g now 5)] 71).alloc (.cells #[.int .i64 0, .int .i64 0, .int .i64 0, .int .i64 0, .int .i64 0, .int .i64 0, .int .i64 0, .int .i64 0, .int .i64 0, .int .i64 0, .int .i64 0, .int .i64 0, .int .i64 0] 82)
  have b4 := Blk.new ((((w.alloc (.cells #[.int .i64 s.days, .slice d.a1 s.arts.length d.c1, .slice d.a2 s.ovens.length d.c2, .slice d.a3 s.mks.length d.c3, .slice d.a4 s.jobs.length d.c4, .slice d.a5 s.cols.length d.c5, .slice d.a6 s.ods.length d.c6, v7] 63)).alloc (.cells #[.int .i64 lo, .int .i64 hi, .slice am ms.length cm, v2] 69)).alloc (.cells #[.int .i64 (g bef 0), .int .i64 (g bef 1), .int .i64 (g bef 2), .int .i64 (g bef 3), .int .i64 (g bef 4), .int .i64 (g bef 5)] 71)).alloc (.cells #[.int .i64 (g now 0), .int .i64 (g now 1), .int .i64 (g now 2), .int .i64 (g now 3), .int .i64 (g now 4), .int .i64 (g now 5)] 71)) #[.int .i64 0, .int .i64 0, .int .i64 0, .int .i64 0, .int .i64 0, .int .i64 0, .int .i64 0, .int .i64 0, .int .i64 0, .int .i64 0, .int .i64 0, .int .i64 0, .int .i64 0] 82
  simp only [World.size_alloc] at b1 b2 b3 b4
  have zc := b4.lt
  go_enter Try.func69, Try.ntmps69
  rw [show (crC bef) = #[.int .i64 (g bef 0), .int .i64 (g bef 1), .int .i64 (g bef 2), .int .i64 (g bef 3), .int .i64 (g bef 4), .int .i64 (g bef 5)] from rfl, show (crC now) = #[.int .i64 (g now 0), .int .i64 (g now 1), .int .i64 (g now 2), .int .i64 (g now 3), .int .i64 (g now 4), .int .i64 (g now 5)] from rfl]
  go_upto_region 1 with (fail)
  generalize ((((w.alloc (.cells #[.int .i64 s.days, .slice d.a1 s.arts.length d.c1, .slice d.a2 s.ovens.length d.c2, .slice d.a3 s.mks.length d.c3, .slice d.a4 s.jobs.length d.c4, .slice d.a5 s.cols.length d.c5, .slice d.a6 s.ods.length d.c6, v7] 63)).alloc (.cells #[.int .i64 lo, .int .i64 hi, .slice am ms.length cm, v2] 69)).alloc (.cells #[.int .i64 (g bef 0), .int .i64 (g bef 1), .int .i64 (g bef 2), .int .i64 (g bef 3), .int .i64 (g bef 4), .int .i64 (g bef 5)] 71)).alloc (.cells #[.int .i64 (g now 0), .int .i64 (g now 1), .int .i64 (g now 2), .int .i64 (g now 3), .int .i64 (g now 4), .int .i64 (g now 5)] 71)).alloc (.cells #[.int .i64 0, .int .i64 0, .int .i64 0, .int .i64 0, .int .i64 0, .int .i64 0, .int .i64 0, .int .i64 0, .int .i64 0, .int .i64 0, .int .i64 0, .int .i64 0, .int .i64 0] 82) = W at *
  have zk := b4.lt
  have bz := Blk.new W #[.int .i64 0, .int .i64 0, .int .i64 0, .int .i64 0, .int .i64 0, .int .i64 0, .int .i64 0, .int .i64 0, .int .i64 0, .int .i64 0, .int .i64 0, .int .i64 0, .int .i64 0] 82
  have hstz := st_blk (cs' := #[.int .i64 (g now 0), .int .i64 (g now 1), .int .i64 (g now 2), .int .i64 (g now 3), .int .i64 (g now 4), .int .i64 (g now 5), .int .i64 0, .int .i64 0, .int .i64 0, .int .i64 0, .int .i64 0, .int .i64 0, .int .i64 0]) (P := Try.prog) bz rfl (by rw [sz_out]; rfl) (by simp [Value.oneCell'])
  have b5 : Blk (putC (W.alloc (.cells #[.int .i64 0, .int .i64 0, .int .i64 0, .int .i64 0, .int .i64 0, .int .i64 0, .int .i64 0, .int .i64 0, .int .i64 0, .int .i64 0, .int .i64 0, .int .i64 0, .int .i64 0] 82)) W.heap.size #[.int .i64 (g now 0), .int .i64 (g now 1), .int .i64 (g now 2), .int .i64 (g now 3), .int .i64 (g now 4), .int .i64 (g now 5), .int .i64 0, .int .i64 0, .int .i64 0, .int .i64 0, .int .i64 0, .int .i64 0, .int .i64 0]) W.heap.size (ocC now 0 z6) 82 := blk_sto bz rfl
  replace A5 : Below w.heap.size w (putC (W.alloc (.cells #[.int .i64 0, .int .i64 0, .int .i64 0, .int .i64 0, .int .i64 0, .int .i64 0, .int .i64 0, .int .i64 0, .int .i64 0, .int .i64 0, .int .i64 0, .int .i64 0, .int .i64 0] 82)) W.heap.size #[.int .i64 (g now 0), .int .i64 (g now 1), .int .i64 (g now 2), .int .i64 (g now 3), .int .i64 (g now 4), .int .i64 (g now 5), .int .i64 0, .int .i64 0, .int .i64 0, .int .i64 0, .int .i64 0, .int .i64 0, .int .i64 0]) := putC_below (A4.alloc A4.size _) A4.size #[.int .i64 (g now 0), .int .i64 (g now 1), .int .i64 (g now 2), .int .i64 (g now 3), .int .i64 (g now 4), .int .i64 (g now 5), .int .i64 0, .int .i64 0, .int .i64 0, .int .i64 0, .int .i64 0, .int .i64 0, .int .i64 0]
  have n0 := b3.cell 0 _ rfl
  have n1 := b3.cell 1 _ rfl
  have n2 := b3.cell 2 _ rfl
  have n3 := b3.cell 3 _ rfl
  have n4 := b3.cell 4 _ rfl
  have n5 := b3.cell 5 _ rfl
  replace b0 := blk_sto_other (b0.alloc (.cells #[.int .i64 0, .int .i64 0, .int .i64 0, .int .i64 0, .int .i64 0, .int .i64 0, .int .i64 0, .int .i64 0, .int .i64 0, .int .i64 0, .int .i64 0, .int .i64 0, .int .i64 0] 82)) (show W.heap.size ≠ w.heap.size by omega) #[.int .i64 (g now 0), .int .i64 (g now 1), .int .i64 (g now 2), .int .i64 (g now 3), .int .i64 (g now 4), .int .i64 (g now 5), .int .i64 0, .int .i64 0, .int .i64 0, .int .i64 0, .int .i64 0, .int .i64 0, .int .i64 0]
  replace b1 := blk_sto_other (b1.alloc (.cells #[.int .i64 0, .int .i64 0, .int .i64 0, .int .i64 0, .int .i64 0, .int .i64 0, .int .i64 0, .int .i64 0, .int .i64 0, .int .i64 0, .int .i64 0, .int .i64 0, .int .i64 0] 82)) (show W.heap.size ≠ w.heap.size + 1 by omega) #[.int .i64 (g now 0), .int .i64 (g now 1), .int .i64 (g now 2), .int .i64 (g now 3), .int .i64 (g now 4), .int .i64 (g now 5), .int .i64 0, .int .i64 0, .int .i64 0, .int .i64 0, .int .i64 0, .int .i64 0, .int .i64 0]
  replace b2 := blk_sto_other (b2.alloc (.cells #[.int .i64 0, .int .i64 0, .int .i64 0, .int .i64 0, .int .i64 0, .int .i64 0, .int .i64 0, .int .i64 0, .int .i64 0, .int .i64 0, .int .i64 0, .int .i64 0, .int .i64 0] 82)) (show W.heap.size ≠ w.heap.size + 1 + 1 by omega) #[.int .i64 (g now 0), .int .i64 (g now 1), .int .i64 (g now 2), .int .i64 (g now 3), .int .i64 (g now 4), .int .i64 (g now 5), .int .i64 0, .int .i64 0, .int .i64 0, .int .i64 0, .int .i64 0, .int .i64 0, .int .i64 0]
  replace b4 := blk_sto_other (b4.alloc (.cells #[.int .i64 0, .int .i64 0, .int .i64 0, .int .i64 0, .int .i64 0, .int .i64 0, .int .i64 0, .int .i64 0, .int .i64 0, .int .i64 0, .int .i64 0, .int .i64 0, .int .i64 0] 82)) (show W.heap.size ≠ w.heap.size + 1 + 1 + 1 + 1 by omega) #[.int .i64 (g now 0), .int .i64 (g now 1), .int .i64 (g now 2), .int .i64 (g now 3), .int .i64 (g now 4), .int .i64 (g now 5), .int .i64 0, .int .i64 0, .int .i64 0, .int .i64 0, .int .i64 0, .int .i64 0, .int .i64 0]
  have b3' := blk_sto_other (b3.alloc (.cells #[.int .i64 0, .int .i64 0, .int .i64 0, .int .i64 0, .int .i64 0, .int .i64 0, .int .i64 0, .int .i64 0, .int .i64 0, .int .i64 0, .int .i64 0, .int .i64 0, .int .i64 0] 82)) (show W.heap.size ≠ w.heap.size + 1 + 1 + 1 by omega) #[.int .i64 (g now 0), .int .i64 (g now 1), .int .i64 (g now 2), .int .i64 (g now 3), .int .i64 (g now 4), .int .i64 (g now 5), .int .i64 0, .int .i64 0, .int .i64 0, .int .i64 0, .int .i64 0, .int .i64 0, .int .i64 0]
  have zX : w.heap.size + 1 + 1 + 1 + 1 < W.heap.size := zk
  clear zk bz
  go_upto_region 3 with (fail)
  clear A0 A1 A2 A3 A4 n0 n1 n2 n3 n4 n5 b3
  clear hstz
  generalize hKX : W.heap.size = KX at *
  generalize putC (W.alloc (.cells #[.int .i64 0, .int .i64 0, .int .i64 0, .int .i64 0, .int .i64 0, .int .i64 0, .int .i64 0, .int .i64 0, .int .i64 0, .int .i64 0, .int .i64 0, .int .i64 0, .int .i64 0] 82)) KX #[.int .i64 (g now 0), .int .i64 (g now 1), .int .i64 (g now 2), .int .i64 (g now 3), .int .i64 (g now 4), .int .i64 (g now 5), .int .i64 0, .int .i64 0, .int .i64 0, .int .i64 0, .int .i64 0, .int .i64 0, .int .i64 0] = W5 at *
  clear hKX
  have HEX : Hid (∀ V, Below W5.heap.size W5 V → Ext w V) := Lib.hid (fun V hV => ext_of_below (A5.trans (hV.mono A5.size)))
  have HSV : Hid (∀ V, Below W5.heap.size W5 V → (fun w' : World => (w'.cell? ⟨w.heap.size + 1, 0, none⟩ = some (.int .i64 lo) ∧ w'.cell? ⟨w.heap.size + 1, 1, none⟩ = some (.int .i64 hi) ∧ w'.cell? ⟨w.heap.size + 1, 2, none⟩ = some (.slice am ms.length cm) ∧ w'.cell? ⟨w.heap.size + 1, 3, none⟩ = some v2) ∧ w'.rangeAt w.heap.size 0 (#[.int .i64 s.days, .slice d.a1 s.arts.length d.c1, .slice d.a2 s.ovens.length d.c2, .slice d.a3 s.mks.length d.c3, .slice d.a4 s.jobs.length d.c4, .slice d.a5 s.cols.length d.c5, .slice d.a6 s.ods.length d.c6, v7]).toList ∧ w'.rangeAt (w.heap.size + 1 + 1) 0 (crC bef).toList ∧ w'.rangeAt (w.heap.size + 1 + 1 + 1) 0 (crC now).toList) V) := Lib.hid (fun V hV => ⟨⟨(b1.below hV b1.lt).cell 0 _ rfl, (b1.below hV b1.lt).cell 1 _ rfl, (b1.below hV b1.lt).cell 2 _ rfl, (b1.below hV b1.lt).cell 3 _ rfl⟩, (b0.below hV b0.lt).range, (b2.below hV b2.lt).range, (b3'.below hV b3'.lt).range⟩)
  have HD0 := Lib.hid (show Below W5.heap.size W5 W5.drew from (Below.refl _ _).drew)
  refine wp_region_till (fun w' : World => (w'.cell? ⟨w.heap.size + 1, 0, none⟩ = some (.int .i64 lo) ∧ w'.cell? ⟨w.heap.size + 1, 1, none⟩ = some (.int .i64 hi) ∧ w'.cell? ⟨w.heap.size + 1, 2, none⟩ = some (.slice am ms.length cm) ∧ w'.cell? ⟨w.heap.size + 1, 3, none⟩ = some v2) ∧ w'.rangeAt w.heap.size 0 (#[.int .i64 s.days, .slice d.a1 s.arts.length d.c1, .slice d.a2 s.ovens.length d.c2, .slice d.a3 s.mks.length d.c3, .slice d.a4 s.jobs.length d.c4, .slice d.a5 s.cols.length d.c5, .slice d.a6 s.ods.length d.c6, v7]).toList ∧ w'.rangeAt (w.heap.size + 1 + 1) 0 (crC bef).toList ∧ w'.rangeAt (w.heap.size + 1 + 1 + 1) 0 (crC now).toList) 10 (by kernel_rfl) (HSV.out _ HD0.out) (fun hHeld => ?_)
  generalize W5.drew = W6 at *
  refine Till.take 0 (some 22) (v := .agg #[.int .i64 s.days, .slice d.a1 s.arts.length d.c1, .slice d.a2 s.ovens.length d.c2, .slice d.a3 s.mks.length d.c3, .slice d.a4 s.jobs.length d.c4, .slice d.a5 s.cols.length d.c5, .slice d.a6 s.ods.length d.c6, v7]) rfl rfl (by kernel_rfl) (by kernel_rfl) (by kernel_rfl) (by kernel_rfl) (fun _ _ _ h => h) (yieldsIf_load_mid rfl 63 (Operand.tmp 4) rfl w.heap.size 0 rfl (#[.int .i64 s.days, .slice d.a1 s.arts.length d.c1, .slice d.a2 s.ovens.length d.c2, .slice d.a3 s.mks.length d.c3, .slice d.a4 s.jobs.length d.c4, .slice d.a5 s.cols.length d.c5, .slice d.a6 s.ods.length d.c6, v7]).toList _ (fun _ h => h.2.1) Try.underlying63 rfl (by rw [sz_works]; rfl)) (by assumption) ?_
  try simp only [Act.put, List.setIfInBounds_toArray, List.set_cons_zero, List.set_cons_succ]
  refine Till.take 1 (some 23) (v := ?_) rfl rfl (by kernel_rfl) (by kernel_rfl) (by kernel_rfl) (by kernel_rfl) (fun _ _ _ h => h) (Or.inl ⟨by rfl, ?_⟩) (by assumption) ?_
  rotate_left
  · (intro w hSw; (try dsimp only at hSw); go_simp; try with_reducible rfl)
  try simp only [Act.put, List.setIfInBounds_toArray, List.set_cons_zero, List.set_cons_succ]
  refine Till.take 2 (some 24) (v := .agg (crC bef)) rfl rfl (by kernel_rfl) (by kernel_rfl) (by kernel_rfl) (by kernel_rfl) (fun _ _ _ h => h) (yieldsIf_load_mid rfl 71 (Operand.tmp 6) rfl (w.heap.size + 1 + 1) 0 rfl (crC bef).toList _ (fun _ h => h.2.2.1) Try.underlying71 rfl (by rw [sz_crew]; rfl)) (by assumption) ?_
  try simp only [Act.put, List.setIfInBounds_toArray, List.set_cons_zero, List.set_cons_succ]
  refine Till.take 4 (some 26) (v := .agg #[.int .i64 s.days, .slice d.a1 s.arts.length d.c1, .slice d.a2 s.ovens.length d.c2, .slice d.a3 s.mks.length d.c3, .slice d.a4 s.jobs.length d.c4, .slice d.a5 s.cols.length d.c5, .slice d.a6 s.ods.length d.c6, v7]) rfl rfl (by kernel_rfl) (by kernel_rfl) (by kernel_rfl) (by kernel_rfl) (fun _ _ _ h => h) (yieldsIf_load_mid rfl 63 (Operand.tmp 4) rfl w.heap.size 0 rfl (#[.int .i64 s.days, .slice d.a1 s.arts.length d.c1, .slice d.a2 s.ovens.length d.c2, .slice d.a3 s.mks.length d.c3, .slice d.a4 s.jobs.length d.c4, .slice d.a5 s.cols.length d.c5, .slice d.a6 s.ods.length d.c6, v7]).toList _ (fun _ h => h.2.1) Try.underlying63 rfl (by rw [sz_works]; rfl)) (by assumption) ?_
  try simp only [Act.put, List.setIfInBounds_toArray, List.set_cons_zero, List.set_cons_succ]
  refine Till.take 5 (some 27) (v := ?_) rfl rfl (by kernel_rfl) (by kernel_rfl) (by kernel_rfl) (by kernel_rfl) (fun _ _ _ h => h) (Or.inl ⟨by rfl, ?_⟩) (by assumption) ?_
  rotate_left
  · (intro w hSw; (try dsimp only at hSw); go_simp; try with_reducible rfl)
  try simp only [Act.put, List.setIfInBounds_toArray, List.set_cons_zero, List.set_cons_succ]
  refine Till.take 6 (some 28) (v := .agg (crC now)) rfl rfl (by kernel_rfl) (by kernel_rfl) (by kernel_rfl) (by kernel_rfl) (fun _ _ _ h => h) (yieldsIf_load_mid rfl 71 (Operand.tmp 7) rfl (w.heap.size + 1 + 1 + 1) 0 rfl (crC now).toList _ (fun _ h => h.2.2.2) Try.underlying71 rfl (by rw [sz_crew]; rfl)) (by assumption) ?_
  try simp only [Act.put, List.setIfInBounds_toArray, List.set_cons_zero, List.set_cons_succ]
  refine Till.one 3 rfl (by kernel_rfl) (fun K2 hK => ?_)
  go_simp
  go_at_call 85
  refine (colour_any s d v7 lo hi am cm ms v2 bef W6 (h.mono (HEX.out _ HD0.out)) ok (hr.mono (HEX.out _ HD0.out)) hm hbe).mono ?_
  rintro e W7 ⟨rfl, hb0⟩
  have HD1 := Lib.hid (HD0.out.trans (hb0.mono HD0.out.size))
  have hh0 := HSV.out _ HD1.out
  refine hK.out _ _ (fun _ => hh0) (fun hHeld0 => ?_)
  clear hK K2 hb0
  try simp only [Act.put, List.setIfInBounds_toArray, List.set_cons_zero, List.set_cons_succ]
  refine Till.one 7 rfl (by kernel_rfl) (fun K2 hK => ?_)
  go_simp
  go_at_call 85
  refine (colour_any s d v7 lo hi am cm ms v2 now W7 (h.mono (HEX.out _ HD1.out)) ok (hr.mono (HEX.out _ HD1.out)) hm hno).mono ?_
  rintro e W8 ⟨rfl, hb1⟩
  have HD2 := Lib.hid (HD1.out.trans (hb1.mono HD1.out.size))
  have hh1 := HSV.out _ HD2.out
  refine hK.out _ _ (fun _ => hh1) (fun hHeld1 => ?_)
  clear hK K2 hb1
  try simp only [Act.put, List.setIfInBounds_toArray, List.set_cons_zero, List.set_cons_succ]
  refine Till.take 8 (some 11) (v := ?_) rfl rfl (by kernel_rfl) (by kernel_rfl) (by kernel_rfl) (by kernel_rfl) (fun _ _ _ h => h) (Or.inl ⟨by rfl, ?_⟩) (by assumption) ?_
  rotate_left
  · (intro w hSw; (try dsimp only at hSw); go_simp; try with_reducible rfl)
  try simp only [Act.put, List.setIfInBounds_toArray, List.set_cons_zero, List.set_cons_succ]
  refine Till.take 9 (some 12) (v := ?_) rfl rfl (by kernel_rfl) (by kernel_rfl) (by kernel_rfl) (by kernel_rfl) (fun _ _ _ h => h) (Or.inl ⟨by rfl, ?_⟩) (by assumption) ?_
  rotate_left
  · (intro w hSw; (try dsimp only at hSw); go_simp; try with_reducible rfl)
  try simp only [Act.put, List.setIfInBounds_toArray, List.set_cons_zero, List.set_cons_succ]
  refine Till.done (by kernel_rfl) ?_ _
  have c0 := b0.below HD2.out b0.lt
  have c1 := b1.below HD2.out b1.lt
  have c2 := b2.below HD2.out b2.lt
  have c3 := b3'.below HD2.out b3'.lt
  have c4 := b4.below HD2.out b4.lt
  have c5 := b5.below HD2.out b5.lt
  have cA := A5.trans (HD2.out.mono A5.size)
  clear hh0 hh1 hHeld hHeld0 hHeld1 HSV HD0 HD1 HD2 HEX b0 b1 b2 b3' b4 b5 A5
  generalize hF : colS s bef ms = F at *
  generalize hG : colS s now ms = G at *
  have HF := Lib.hid hF
  have HG := Lib.hid hG
  clear hF hG
  obtain ⟨L, hL⟩ : ∃ L, (lostS s F G).lo = L := ⟨_, rfl⟩
  obtain ⟨C, hC⟩ : ∃ C, (lostS s F G).hi = C := ⟨_, rfl⟩
  have hLC := lostS_bd ok F G
  rw [hL, hC] at hLC
  have HL := Lib.hid hL
  have HC := Lib.hid hC
  clear hL hC
  obtain ⟨B, hB⟩ : ∃ B, decide (¬ (F = -1 ∨ G = -1 ∨ F = G)) = B := ⟨_, rfl⟩
  have HBN : Hid ((F = -1 ∨ G = -1 ∨ F = G) → B = false) := Lib.hid (fun hx => by rw [← hB]; exact decide_eq_false (fun h => h hx))
  have HBY : Hid (¬ (F = -1 ∨ G = -1 ∨ F = G) → B = true) := Lib.hid (fun hx => by rw [← hB]; exact decide_eq_true hx)
  have HBB := Lib.hid hB
  clear hB
  go_upto_region 4 with (fail)
  go_cut [40] (fun sv wx => sv = .bool B ∧ W8 = wx)
  case first =>
    by_cases hF1 : F = -1
    · have hBf := HBN.out (.inl hF1)
      have hF2 : (F != -1) = false := by simp [hF1]
      have HBf := Lib.hid hBf
      clear hFb hGb hLC hF1 HBN HBY hBf
      go_wp2_with fail
      go_meet
      exact ⟨by rw [HBf.out], rfl⟩
    have hF2 : (F != -1) = true := by simp [hF1]
    by_cases hG1 : G = -1
    · have hBf := HBN.out (.inr (.inl hG1))
      have hG2 : (G != -1) = false := by simp [hG1]
      have HBf := Lib.hid hBf
      clear hFb hGb hLC hF1 hG1 HBN HBY hBf
      go_wp2_with fail
      go_meet
      exact ⟨by rw [HBf.out], rfl⟩
    have hG2 : (G != -1) = true := by simp [hG1]
    by_cases hFG : F = G
    · have hBf := HBN.out (.inr (.inr hFG))
      have hFG2 : (F != G) = false := by simp [hFG]
      have HBf := Lib.hid hBf
      clear hFb hGb hLC hF1 hG1 hFG HBN HBY hBf
      go_wp2_with fail
      go_meet
      exact ⟨by rw [HBf.out], rfl⟩
    · have hBf := HBY.out (fun hx => by omega)
      have hFG2 : (F != G) = true := by simp [hFG]
      have HBf := Lib.hid hBf
      clear hFb hGb hLC hF1 hG1 hFG HBN HBY hBf
      go_wp2_with fail
      go_meet
      exact ⟨by rw [HBf.out], rfl⟩
  case rest =>
  obtain ⟨rfl, rfl⟩ := hcut
  go_upto_if 40 with (fail)
  go_cut [10] (fun sv wx => sv = .int .i64 L ∧ Blk wx w.heap.size #[.int .i64 s.days, .slice d.a1 s.arts.length d.c1, .slice d.a2 s.ovens.length d.c2, .slice d.a3 s.mks.length d.c3, .slice d.a4 s.jobs.length d.c4, .slice d.a5 s.cols.length d.c5, .slice d.a6 s.ods.length d.c6, v7] 63 ∧ Blk wx (w.heap.size + 1) #[.int .i64 lo, .int .i64 hi, .slice am ms.length cm, v2] 69 ∧ Blk wx (w.heap.size + 1 + 1) #[.int .i64 (g bef 0), .int .i64 (g bef 1), .int .i64 (g bef 2), .int .i64 (g bef 3), .int .i64 (g bef 4), .int .i64 (g bef 5)] 71 ∧ Blk wx (w.heap.size + 1 + 1 + 1) #[.int .i64 (g now 0), .int .i64 (g now 1), .int .i64 (g now 2), .int .i64 (g now 3), .int .i64 (g now 4), .int .i64 (g now 5)] 71 ∧ Blk wx (w.heap.size + 1 + 1 + 1 + 1) #[.int .i64 0, .int .i64 0, .int .i64 0, .int .i64 0, .int .i64 0, .int .i64 0, .int .i64 0, .int .i64 0, .int .i64 0, .int .i64 0, .int .i64 0, .int .i64 0, .int .i64 0] 82 ∧ Blk wx KX (ocC now C z6) 82 ∧ Below w.heap.size w wx)
  case first =>
    have H0 : Hid ((F = -1 ∨ G = -1 ∨ F = G) → L = 0 ∧ C = 0) := Lib.hid (fun hx => by
      have h1 := HL.out
      have h2 := HC.out
      unfold lostS at h1 h2
      rw [if_pos hx] at h1 h2
      exact ⟨h1.symm, h2.symm⟩)
    by_cases hch : F = -1 ∨ G = -1 ∨ F = G
    · obtain ⟨hL0, hC0⟩ := H0.out hch
      have hBf := HBN.out hch
      have HL0 := Lib.hid hL0
      have HC0 := Lib.hid hC0
      subst hBf
      clear hch hL0 hC0 hLC hFb hGb H0 HBN HBY
      go_wp2_with fail
      go_meet
      exact ⟨by rw [HL0.out], c0, c1, c2, c3, c4, by rw [HC0.out]; exact c5, cA⟩
    have hBt := HBY.out hch
    subst hBt
    clear HBN HBY HBB
    obtain ⟨f, rfl⟩ := Int.eq_ofNat_of_zero_le (show 0 ≤ F by omega)
    obtain ⟨q, rfl⟩ := Int.eq_ofNat_of_zero_le (show 0 ≤ G by omega)
    have hfl : f < s.cols.length := by omega
    have hql : q < s.cols.length := by omega
    obtain ⟨a', c', he, -, -, hl⟩ := id h.cols
    simp only [Value.slice.injEq, true_and] at he
    obtain ⟨ha, hc⟩ := he
    obtain ⟨b1', o1, he1, v, q0, hr1⟩ := hl f hfl
    have hrl := (ok.col _ (List.getElem_mem hfl)).1
    have hlS : lostS s f q = tnAt s.cols f q := by unfold lostS; rw [if_neg (by omega)]
    have hq2 : q < (s.cols[f]).length := by omega
    rw [hlS, tnAt_at hfl hq2] at HL HC
    obtain ⟨ar, cr, rfl, -, -, hl2⟩ := hr1
    obtain ⟨b2', o2, he2, p0, p1, -⟩ := hl2 q hq2
    have hEx := ext_of_below cA
    have k0 := hEx _ _ q0
    have k1 := hEx _ _ p0
    have k2 := hEx _ _ p1
    rw [HL.out] at k1
    rw [HC.out] at k2
    simp only [Nat.mul_one] at k0
    rw [he2] at k0
    have x5 := c0.cell 5 _ rfl
    rw [ha, he1] at x5
    have j1 : (0 : Int) ≤ (f : Int) := Int.natCast_nonneg _
    have j2 : (f : Int) < (s.cols.length : Int) := by omega
    have j3 : (0 : Int) ≤ (q : Int) := Int.natCast_nonneg _
    have j4 : (q : Int) < ((s.cols[f]).length : Int) := by omega
    clear hch H0 hFb hGb hl q0 hrl hlS hl2 p0 p1 he1 he2 ha hc hEx HL HC
    generalize (s.cols[f]).length = rl at *
    clear hq2 hfl hql
    have d0 := c0.alloc (.cells #[.int .i64 L, .int .i64 C] 100)
    have d1 := c1.alloc (.cells #[.int .i64 L, .int .i64 C] 100)
    have d2 := c2.alloc (.cells #[.int .i64 L, .int .i64 C] 100)
    have d3 := c3.alloc (.cells #[.int .i64 L, .int .i64 C] 100)
    have d4 := c4.alloc (.cells #[.int .i64 L, .int .i64 C] 100)
    have d5 := c5.alloc (.cells #[.int .i64 L, .int .i64 C] 100)
    have dT := Blk.new W8 #[.int .i64 L, .int .i64 C] 100
    have dA := cA.alloc cA.size (.cells #[.int .i64 L, .int .i64 C] 100)
    have zT2 : KX < W8.heap.size := c5.lt
    clear c0 c1 c2 c3 c4 c5 cA
    go_upto_region 6 with (fail)
    have zT := dT.lt
    generalize hKT : W8.heap.size = KT at *
    clear hKT zT
    generalize W8.alloc (.cells #[.int .i64 L, .int .i64 C] 100) = W9 at *
    have D0 : Below W9.heap.size W9 W9.drew := (Below.refl _ _).drew
    have e0 := d0.below D0 d0.lt
    have e1 := d1.below D0 d1.lt
    have e2 := d2.below D0 d2.lt
    have e3 := d3.below D0 d3.lt
    have e4 := d4.below D0 d4.lt
    have e5 := d5.below D0 d5.lt
    have eT := dT.below D0 dT.lt
    have eA := dA.trans (D0.mono dA.size)
    refine wp_region_till (fun w' : World => w'.cell? ⟨KT, 0, none⟩ = some (.int .i64 L) ∧ w'.cell? ⟨KT, 1, none⟩ = some (.int .i64 C)) 6 (by kernel_rfl) ⟨eT.cell 0 _ rfl, eT.cell 1 _ rfl⟩ (fun hHeld => ?_)
    clear d0 d1 d2 d3 d4 d5 dT dA D0
    generalize W9.drew = W10 at *
    refine Till.take 0 (some 50) (v := ?_) rfl rfl (by kernel_rfl) (by kernel_rfl) (by kernel_rfl) (by kernel_rfl) (fun _ _ _ h => h) (Or.inl ⟨by rfl, ?_⟩) (by assumption) ?_
    rotate_left
    · (intro w hSw; (try dsimp only at hSw); go_simp; try with_reducible rfl)
    try simp only [Act.put, List.setIfInBounds_toArray, List.set_cons_zero, List.set_cons_succ]
    refine Till.take 1 (some 51) (v := ?_) rfl rfl (by kernel_rfl) (by kernel_rfl) (by kernel_rfl) (by kernel_rfl) (fun _ _ _ h => h) (Or.inl ⟨by rfl, ?_⟩) (by assumption) ?_
    rotate_left
    · (intro w hSw; (try dsimp only at hSw); go_simp; try with_reducible rfl)
    try simp only [Act.put, List.setIfInBounds_toArray, List.set_cons_zero, List.set_cons_succ]
    refine Till.take 2 (some 52) (v := ?_) rfl rfl (by kernel_rfl) (by kernel_rfl) (by kernel_rfl) (by kernel_rfl) (fun _ _ _ h => h) (Or.inl ⟨by rfl, ?_⟩) (by assumption) ?_
    rotate_left
    · (intro w hSw; (try dsimp only at hSw); go_simp; try with_reducible rfl)
    try simp only [Act.put, List.setIfInBounds_toArray, List.set_cons_zero, List.set_cons_succ]
    refine Till.take 3 (some 53) (v := ?_) rfl rfl (by kernel_rfl) (by kernel_rfl) (by kernel_rfl) (by kernel_rfl) (fun _ _ _ h => h) (Or.inl ⟨by rfl, ?_⟩) (by assumption) ?_
    rotate_left
    · (intro w hSw; (try dsimp only at hSw); go_simp; try with_reducible rfl)
    try simp only [Act.put, List.setIfInBounds_toArray, List.set_cons_zero, List.set_cons_succ]
    refine Till.take 4 (some 10) (v := ?_) rfl rfl (by kernel_rfl) (by kernel_rfl) (by kernel_rfl) (by kernel_rfl) (fun _ _ _ h => h) (Or.inl ⟨by rfl, ?_⟩) (by assumption) ?_
    rotate_left
    · (intro w hSw; (try dsimp only at hSw); go_simp; try with_reducible rfl)
    try simp only [Act.put, List.setIfInBounds_toArray, List.set_cons_zero, List.set_cons_succ]
    refine Till.take 5 (some 54) (v := ?_) rfl rfl (by kernel_rfl) (by kernel_rfl) (by kernel_rfl) (by kernel_rfl) (fun _ _ _ h => h) (Or.inl ⟨by rfl, ?_⟩) (by assumption) ?_
    rotate_left
    · (intro w hSw; (try dsimp only at hSw); go_simp; try with_reducible rfl)
    try simp only [Act.put, List.setIfInBounds_toArray, List.set_cons_zero, List.set_cons_succ]
    have s6 := e5.cell 6 _ rfl
    have sf := e5.frozen 6
    have f0 := e0.other ⟨KX, 6, none⟩ (.int .i64 C) (by simp only; omega)
    have f1 := e1.other ⟨KX, 6, none⟩ (.int .i64 C) (by simp only; omega)
    have f2 := e2.other ⟨KX, 6, none⟩ (.int .i64 C) (by simp only; omega)
    have f3 := e3.other ⟨KX, 6, none⟩ (.int .i64 C) (by simp only; omega)
    have f4 := e4.other ⟨KX, 6, none⟩ (.int .i64 C) (by simp only; omega)
    have f5 := e5.set 6 (.int .i64 C)
    rw [ocC_cost] at f5
    have fA := Lib.hid (eA.setCell (p := ⟨KX, 6, none⟩) (by simp only; omega) (.int .i64 C))
    clear e0 e1 e2 e3 e4 e5 eT eA
    refine Till.one 6 rfl (by kernel_rfl) (fun K hK => ?_)
    go_simp
    refine hK.out _ _ (fun h => absurd rfl h) (fun _ => ?_)
    clear hK K s6 sf hHeld
    try simp only [Act.put, List.setIfInBounds_toArray, List.set_cons_zero, List.set_cons_succ]
    refine Till.done (by kernel_rfl) ?_ _
    go_wp2
    go_meet
    exact ⟨rfl, f0, f1, f2, f3, f4, f5, fA.out⟩
  case rest =>
    obtain ⟨rfl, a0, a1, a2, a3, a4, a5, aA⟩ := hcut
    clear c0 c1 c2 c3 c4 c5 cA HBN HBY HBB hFb hGb
    have hnm := ok.nm
    have y2 := a1.cell 2 _ rfl
    go_upto_region 8 with (fail)
    clear y2
    go_loopw [58] (fun i wr => ∃ (k : Nat) (C1 : Int) (M : List Int), k ≤ ms.length ∧ i = .int .i64 k ∧ Hid (flC s C bef now (ms.take k) = C1) ∧ Hid (flM s L bef now (ms.take k) = M) ∧ Blk wr w.heap.size #[.int .i64 s.days, .slice d.a1 s.arts.length d.c1, .slice d.a2 s.ovens.length d.c2, .slice d.a3 s.mks.length d.c3, .slice d.a4 s.jobs.length d.c4, .slice d.a5 s.cols.length d.c5, .slice d.a6 s.ods.length d.c6, v7] 63 ∧ Blk wr (w.heap.size + 1) #[.int .i64 lo, .int .i64 hi, .slice am ms.length cm, v2] 69 ∧ Blk wr (w.heap.size + 1 + 1) #[.int .i64 (g bef 0), .int .i64 (g bef 1), .int .i64 (g bef 2), .int .i64 (g bef 3), .int .i64 (g bef 4), .int .i64 (g bef 5)] 71 ∧ Blk wr (w.heap.size + 1 + 1 + 1) #[.int .i64 (g now 0), .int .i64 (g now 1), .int .i64 (g now 2), .int .i64 (g now 3), .int .i64 (g now 4), .int .i64 (g now 5)] 71 ∧ Blk wr (w.heap.size + 1 + 1 + 1 + 1) #[.int .i64 0, .int .i64 0, .int .i64 0, .int .i64 0, .int .i64 0, .int .i64 0, .int .i64 0, .int .i64 0, .int .i64 0, .int .i64 0, .int .i64 0, .int .i64 0, .int .i64 0] 82 ∧ Blk wr KX (ocC now C1 M) 82 ∧ Below w.heap.size w wr) (fun i _ => ms.length - (intOf i).toNat)
    case atStart => exact ⟨0, C, z6, Nat.zero_le _, rfl, Lib.hid (by simp [flC]), Lib.hid (by simp [flM]), a0, a1, a2, a3, a4, a5, aA⟩
    case round =>
      clear a0 a1 a2 a3 a4 a5 aA
      obtain ⟨k, C1, M, hk, rfl, hC1, hM1, f0, f1, f2, f3, f4, f5, fA⟩ := hrel
      have hC1b := flC_bd ok (show 0 ≤ C ∧ C ≤ 1000000 by omega) bef now (ms.take k)
      rw [hC1.out] at hC1b
      have hC1c : 0 ≤ C1 ∧ C1 ≤ 7000000 := by
        rw [List.length_take] at hC1b
        omega
      have hML : M.length = 6 := by rw [← hM1.out]; exact flM_len s L bef now _
      by_cases hlt : k < ms.length
      · have hstC := flC_step (s := s) (C := C) (bef := bef) (now := now) hlt
        have hstM := flM_step (s := s) (L := L) (bef := bef) (now := now) hlt
        rw [hC1.out] at hstC
        rw [hM1.out] at hstM
        have hmC := mkC_bd ok bef now ms[k]
        obtain ⟨am', cm', he, -, -, hl⟩ := id hr
        simp only [Value.slice.injEq, true_and] at he
        obtain ⟨rfl, rfl⟩ := he
        obtain ⟨b1, o1, he1, q0, -⟩ := hl k hlt
        obtain ⟨z0, z1⟩ := hm _ (List.getElem_mem hlt)
        obtain ⟨n, hn⟩ := Int.eq_ofNat_of_zero_le z0
        rw [hn] at q0 hstC hstM z1 hmC
        have hnl : n < s.mks.length := by omega
        have hn6 : n < 6 := by omega
        have hEx := ext_of_below fA
        have k0 := hEx _ _ q0
        simp only [Nat.mul_one] at k0
        simp only [Int.toNat_natCast] at hstM
        obtain ⟨a3', c3', he3, -, -, hlm⟩ := id h.mks
        simp only [Value.slice.injEq, true_and] at he3
        obtain ⟨ha3, hc3⟩ := he3
        obtain ⟨b3, o3, hb3, v3, ⟨-, r1, r2, -⟩, -, hri, -⟩ := hlm n hnl
        obtain ⟨ar, cr, rfl⟩ := hri.shape
        have y3 := f0.cell 3 _ rfl
        rw [ha3, hb3] at y3
        have k1 := hEx _ _ r1
        have k2 := hEx _ _ r2
        simp only at k1 k2
        have xn : ∀ (c : List Int), (#[.int .i64 (g c 0), .int .i64 (g c 1), .int .i64 (g c 2), .int .i64 (g c 3), .int .i64 (g c 4), .int .i64 (g c 5)] : Array Value)[n]? = some (.int .i64 (g c n)) := fun c => crC_at c hn6
        have u2 := f2.cell n _ (xn bef)
        have u3 := f3.cell n _ (xn now)
        have j1 : (0 : Int) ≤ (k : Int) := Int.natCast_nonneg _
        have j2 : (k : Int) < (ms.length : Int) := by omega
        have j3 : (0 : Int) ≤ (n : Int) := Int.natCast_nonneg _
        have j4 : (n : Int) < 6 := by omega
        have j5 : (n : Int) < (s.mks.length : Int) := by omega
        have hgn := hno.2 n hn6
        have hgb := hbe.2 n hn6
        have hrl := (ok.mkr _ (List.getElem_mem hnl)).2.1.1
        have hidl : idl s n = s.mks[n].idle := by unfold idl; simp [List.getElem?_eq_getElem hnl]
        have hrt : ∀ p : Nat, p < s.arts.length → rate s n p = (s.mks[n]).rates.getD p 0 := fun p hp => by
          rw [rate_at hnl (by omega)]
          simp [List.getD, List.getElem?_eq_getElem (show p < (s.mks[n]).rates.length by omega)]
        unfold mkC at hstC hmC
        simp only [Int.toNat_natCast, hidl] at hstC hmC
        have HRT := Lib.hid hrt
        have HSC := Lib.hid hstC
        have HSM := Lib.hid hstM
        have HMC := Lib.hid hmC
        have HRI := Lib.hid hri
        have HR1 := Lib.hid r1
        have HA3 := Lib.hid (ha3.trans hb3)
        rw [he1] at f1 ⊢
        clear hl q0 he1 hlm hb3 ha3 hc3 r1 r2 hidl hrt hstC hstM hC1 hM1 z0 z1 hn hmC hEx xn hri
        generalize s.mks[n] = mk at *
        obtain ⟨ga, hga⟩ : ∃ x, g now n = x := ⟨_, rfl⟩
        obtain ⟨gb, hgb'⟩ : ∃ x, g bef n = x := ⟨_, rfl⟩
        rw [hga] at u3 hgn HSC HSM HMC
        rw [hgb'] at u2 hgb HSC HMC
        have HGA := Lib.hid hga
        have HGB := Lib.hid hgb'
        clear hga hgb'
        by_cases hA : ga = -1
        · subst hA
          have HX1 : Hid (flC s C bef now (ms.take (k + 1)) = C1 + mk.idle) := Lib.hid (by have := HSC.out; rw [if_pos rfl] at this; exact this)
          have HX2 : Hid (flM s L bef now (ms.take (k + 1)) = M) := Lib.hid (by have := HSM.out; rw [if_pos rfl] at this; exact this)
          have hib := HMC.out
          rw [if_pos rfl] at hib
          obtain ⟨idv, hidv⟩ : ∃ x, mk.idle = x := ⟨_, rfl⟩
          rw [hidv] at hib k2 HX1
          clear hidv HSC HSM HMC HRI k1 hgn HRT HR1 HA3
          have HMC2 := Lib.hid hib
          clear hib hgb u2
          go_upto_region 12 with (fail)
          have D0 : Below wr.heap.size wr wr.drew := (Below.refl _ _).drew
          have i0 := f0.below D0 f0.lt
          have i1 := f1.below D0 f1.lt
          have i2 := f2.below D0 f2.lt
          have i3 := f3.below D0 f3.lt
          have i4 := f4.below D0 f4.lt
          have i5 := f5.below D0 f5.lt
          have iA := fA.trans (D0.mono fA.size)
          have y3' := ext_of_below D0 _ _ y3
          have k2' := ext_of_below D0 _ _ k2
          refine wp_region_till (fun w' : World => w'.cell? ⟨KX, 6, none⟩ = some (.int .i64 C1) ∧ w'.cell? ⟨w.heap.size, 3, none⟩ = some (.slice (some ⟨b3, o3, none⟩) s.mks.length d.c3) ∧ w'.cell? ⟨b3, o3 + n * 4 + 2, none⟩ = some (.int .i64 idv)) 11 (by kernel_rfl) ⟨i5.cell 6 _ rfl, y3', k2'⟩ (fun hHeld => ?_)
          clear D0 f0 f1 f2 f3 f4 f5 fA y3 k2 y3' k2' k0 u3
          generalize wr.drew = W1 at *
          refine Till.take 0 (some 67) (v := ?_) rfl rfl (by kernel_rfl) (by kernel_rfl) (by kernel_rfl) (by kernel_rfl) (fun _ _ _ h => h) (Or.inl ⟨by rfl, ?_⟩) (by assumption) ?_
          rotate_left
          · (intro w hSw; (try dsimp only at hSw); go_simp; try with_reducible rfl)
          try simp only [Act.put, List.setIfInBounds_toArray, List.set_cons_zero, List.set_cons_succ]
          refine Till.take 1 (some 68) (v := ?_) rfl rfl (by kernel_rfl) (by kernel_rfl) (by kernel_rfl) (by kernel_rfl) (fun _ _ _ h => h) (Or.inl ⟨by rfl, ?_⟩) (by assumption) ?_
          rotate_left
          · (intro w hSw; (try dsimp only at hSw); go_simp; try with_reducible rfl)
          try simp only [Act.put, List.setIfInBounds_toArray, List.set_cons_zero, List.set_cons_succ]
          refine Till.take 2 (some 69) (v := ?_) rfl rfl (by kernel_rfl) (by kernel_rfl) (by kernel_rfl) (by kernel_rfl) (fun _ _ _ h => h) (Or.inl ⟨by rfl, ?_⟩) (by assumption) ?_
          rotate_left
          · (intro w hSw; (try dsimp only at hSw); go_simp; try with_reducible rfl)
          try simp only [Act.put, List.setIfInBounds_toArray, List.set_cons_zero, List.set_cons_succ]
          refine Till.take 3 (some 70) (v := ?_) rfl rfl (by kernel_rfl) (by kernel_rfl) (by kernel_rfl) (by kernel_rfl) (fun _ _ _ h => h) (Or.inl ⟨by rfl, ?_⟩) (by assumption) ?_
          rotate_left
          · (intro w hSw; (try dsimp only at hSw); go_simp; try with_reducible rfl)
          try simp only [Act.put, List.setIfInBounds_toArray, List.set_cons_zero, List.set_cons_succ]
          refine Till.take 4 (some 71) (v := ?_) rfl rfl (by kernel_rfl) (by kernel_rfl) (by kernel_rfl) (by kernel_rfl) (fun _ _ _ h => h) (Or.inl ⟨by rfl, ?_⟩) (by assumption) ?_
          rotate_left
          · (intro w hSw; (try dsimp only at hSw); go_simp; try with_reducible rfl)
          try simp only [Act.put, List.setIfInBounds_toArray, List.set_cons_zero, List.set_cons_succ]
          refine Till.take 5 (some 72) (v := ?_) rfl rfl (by kernel_rfl) (by kernel_rfl) (by kernel_rfl) (by kernel_rfl) (fun _ _ _ h => h) (Or.inl ⟨by rfl, ?_⟩) (by assumption) ?_
          rotate_left
          · (intro w hSw; (try dsimp only at hSw); go_simp; try with_reducible rfl)
          try simp only [Act.put, List.setIfInBounds_toArray, List.set_cons_zero, List.set_cons_succ]
          refine Till.take 6 (some 73) (v := ?_) rfl rfl (by kernel_rfl) (by kernel_rfl) (by kernel_rfl) (by kernel_rfl) (fun _ _ _ h => h) (Or.inl ⟨by rfl, ?_⟩) (by assumption) ?_
          rotate_left
          · (intro w hSw; (try dsimp only at hSw); go_simp; try with_reducible rfl)
          try simp only [Act.put, List.setIfInBounds_toArray, List.set_cons_zero, List.set_cons_succ]
          refine Till.take 7 (some 74) (v := ?_) rfl rfl (by kernel_rfl) (by kernel_rfl) (by kernel_rfl) (by kernel_rfl) (fun _ _ _ h => h) (Or.inl ⟨by rfl, ?_⟩) (by assumption) ?_
          rotate_left
          · (intro w hSw; (try dsimp only at hSw); go_simp; try with_reducible rfl)
          try simp only [Act.put, List.setIfInBounds_toArray, List.set_cons_zero, List.set_cons_succ]
          refine Till.take 8 (some 75) (v := ?_) rfl rfl (by kernel_rfl) (by kernel_rfl) (by kernel_rfl) (by kernel_rfl) (fun _ _ _ h => h) (Or.inl ⟨by rfl, ?_⟩) (by assumption) ?_
          rotate_left
          · (intro w hSw; (try dsimp only at hSw); go_simp; try with_reducible rfl)
          try simp only [Act.put, List.setIfInBounds_toArray, List.set_cons_zero, List.set_cons_succ]
          refine Till.take 9 (some 76) (v := ?_) rfl rfl (by kernel_rfl) (by kernel_rfl) (by kernel_rfl) (by kernel_rfl) (fun _ _ _ h => h) (Or.inl ⟨by rfl, ?_⟩) (by assumption) ?_
          rotate_left
          · (intro w hSw; (try dsimp only at hSw); go_simp; try with_reducible rfl)
          try simp only [Act.put, List.setIfInBounds_toArray, List.set_cons_zero, List.set_cons_succ]
          refine Till.take 10 (some 77) (v := ?_) rfl rfl (by kernel_rfl) (by kernel_rfl) (by kernel_rfl) (by kernel_rfl) (fun _ _ _ h => h) (Or.inl ⟨by rfl, ?_⟩) (by assumption) ?_
          rotate_left
          · (intro w hSw; (try dsimp only at hSw); go_simp; try with_reducible rfl)
          try simp only [Act.put, List.setIfInBounds_toArray, List.set_cons_zero, List.set_cons_succ]
          have hw : IntKind.i64.wrap (C1 + idv) = C1 + idv := by
            have h9 := HMC2.out
            exact IntWalk.i64_in _ (by omega)
          rw [hw]
          have s6 := i5.cell 6 _ rfl
          have sf := i5.frozen 6
          have m0 := i0.other ⟨KX, 6, none⟩ (.int .i64 (C1 + idv)) (by simp only; omega)
          have m1 := i1.other ⟨KX, 6, none⟩ (.int .i64 (C1 + idv)) (by simp only; omega)
          have m2 := i2.other ⟨KX, 6, none⟩ (.int .i64 (C1 + idv)) (by simp only; omega)
          have m3 := i3.other ⟨KX, 6, none⟩ (.int .i64 (C1 + idv)) (by simp only; omega)
          have m4 := i4.other ⟨KX, 6, none⟩ (.int .i64 (C1 + idv)) (by simp only; omega)
          have mA := iA.setCell (p := ⟨KX, 6, none⟩) (by simp only; omega) (.int .i64 (C1 + idv))
          have m5 := i5.set 6 (.int .i64 (C1 + idv))
          rw [ocC_cost] at m5
          have MA := Lib.hid mA
          clear i0 i1 i2 i3 i4 i5 iA mA hw
          refine Till.one 11 rfl (by kernel_rfl) (fun K hK => ?_)
          go_simp
          refine hK.out _ _ (fun h => absurd rfl h) (fun _ => ?_)
          clear hK K s6 sf hHeld
          try simp only [Act.put, List.setIfInBounds_toArray, List.set_cons_zero, List.set_cons_succ]
          refine Till.done (by kernel_rfl) ?_ _
          generalize W1.setCell ⟨KX, 6, none⟩ (.int .i64 (C1 + idv)) = W2 at *
          go_wp2
          go_roundw
          case rel => exact ⟨k + 1, _, M, by omega, by go_num, HX1, HX2, m0, m1, m2, m3, m4, m5, MA.out⟩
          case measure => simp [intOf]; omega
        · obtain ⟨p, rfl⟩ := Int.eq_ofNat_of_zero_le (show 0 ≤ ga by omega)
          have hpl : p < s.arts.length := by omega
          have hA2 : ((p : Int) == -1) = false := by
            rw [beq_eq_false_iff_ne]; omega
          obtain ⟨jl, hjl⟩ : ∃ x, (jobS s gb p).lo = x := ⟨_, rfl⟩
          obtain ⟨jh, hjh⟩ : ∃ x, (jobS s gb p).hi = x := ⟨_, rfl⟩
          have hJb := jobS_bd ok gb p
          rw [hjl, hjh] at hJb
          have HX1 : Hid (flC s C bef now (ms.take (k + 1)) = C1 + jh) := Lib.hid (by have := HSC.out; rw [if_neg hA, hjh] at this; exact this)
          have hRb := rate_bd ok n p
          obtain ⟨R, hR⟩ : ∃ x, rate s n p = x := ⟨_, rfl⟩
          have HR := Lib.hid hR
          rw [hR] at hRb
          have HX2 : Hid (flM s L bef now (ms.take (k + 1)) = M.set n (R * max 0 (1440 - L - jl) / 1440)) := Lib.hid (by
            have := HSM.out
            rw [if_neg hA] at this
            rw [this]
            unfold mkB
            simp only [Int.toNat_natCast, HGA.out, HGB.out, hR, hjl])
          have HJL := Lib.hid hjl
          have HJH := Lib.hid hjh
          clear hjl hjh hR HSC HSM HMC k1 k2
          obtain ⟨B2, hB2⟩ : ∃ B2, decide (¬ (gb = -1 ∨ gb = p)) = B2 := ⟨_, rfl⟩
          have HBN : Hid ((gb = -1 ∨ gb = p) → B2 = false) := Lib.hid (fun hx => by rw [← hB2]; exact decide_eq_false (fun h => h hx))
          have HBY : Hid (¬ (gb = -1 ∨ gb = p) → B2 = true) := Lib.hid (fun hx => by rw [← hB2]; exact decide_eq_true hx)
          clear hB2
          clear hA
          have w1 := IntWalk.i64_in (1440 - L) (by omega)
          go_upto_region 15 with (fail)
          clear u2 u3 k0
          go_cut [89] (fun sv wx => sv = .bool B2 ∧ wr = wx)
          case first =>
            by_cases hF1 : gb = -1
            · have HBf := Lib.hid (HBN.out (.inl hF1))
              have hF2 : (gb != -1) = false := by simp [hF1]
              clear hF1 HBN HBY hgb
              go_wp2_with fail
              go_meet
              exact ⟨by rw [HBf.out], rfl⟩
            have hF2 : (gb != -1) = true := by simp [hF1]
            by_cases hFG : gb = p
            · have HBf := Lib.hid (HBN.out (.inr hFG))
              have hFG2 : (gb != (p : Int)) = false := by simp [hFG]
              clear hF1 hFG HBN HBY hgb
              go_wp2_with fail
              go_meet
              exact ⟨by rw [HBf.out], rfl⟩
            · have HBf := Lib.hid (HBY.out (fun hx => by omega))
              have hFG2 : (gb != (p : Int)) = true := by simp [hFG]
              clear hF1 hFG HBN HBY hgb
              go_wp2_with fail
              go_meet
              exact ⟨by rw [HBf.out], rfl⟩
          case rest =>
          obtain ⟨rfl, rfl⟩ := hcut
          go_upto_if 89 with (fail)
          go_cut [17] (fun sv wx => sv = .int .i64 (1440 - L - jl) ∧ Blk wx w.heap.size #[.int .i64 s.days, .slice d.a1 s.arts.length d.c1, .slice d.a2 s.ovens.length d.c2, .slice d.a3 s.mks.length d.c3, .slice d.a4 s.jobs.length d.c4, .slice d.a5 s.cols.length d.c5, .slice d.a6 s.ods.length d.c6, v7] 63 ∧ Blk wx (w.heap.size + 1) #[.int .i64 lo, .int .i64 hi, .slice (some ⟨b1, o1, none⟩) ms.length cm, v2] 69 ∧ Blk wx (w.heap.size + 1 + 1) #[.int .i64 (g bef 0), .int .i64 (g bef 1), .int .i64 (g bef 2), .int .i64 (g bef 3), .int .i64 (g bef 4), .int .i64 (g bef 5)] 71 ∧ Blk wx (w.heap.size + 1 + 1 + 1) #[.int .i64 (g now 0), .int .i64 (g now 1), .int .i64 (g now 2), .int .i64 (g now 3), .int .i64 (g now 4), .int .i64 (g now 5)] 71 ∧ Blk wx (w.heap.size + 1 + 1 + 1 + 1) #[.int .i64 0, .int .i64 0, .int .i64 0, .int .i64 0, .int .i64 0, .int .i64 0, .int .i64 0, .int .i64 0, .int .i64 0, .int .i64 0, .int .i64 0, .int .i64 0, .int .i64 0] 82 ∧ Blk wx KX (ocC now (C1 + jh) M) 82 ∧ Below w.heap.size w wx)
          case first =>
            by_cases hch : gb = -1 ∨ gb = p
            · have HBf := HBN.out hch
              have HZ : Hid (jl = 0 ∧ jh = 0) := Lib.hid (by
                have h1 := HJL.out
                have h2 := HJH.out
                unfold jobS at h1 h2
                rw [if_pos hch] at h1 h2
                exact ⟨h1.symm, h2.symm⟩)
              subst HBf
              clear hch HBN HBY hgb hJb
              go_wp2_with fail
              go_meet
              exact ⟨by rw [HZ.out.1]; simp, f0, f1, f2, f3, f4, by rw [HZ.out.2]; simpa using f5, fA⟩
            have HBf := HBY.out hch
            subst HBf
            clear HBN HBY
            obtain ⟨l, rfl⟩ := Int.eq_ofNat_of_zero_le (show 0 ≤ gb by omega)
            have hll : l < s.jobs.length := by have := ok.nj; omega
            obtain ⟨a', c', he, -, -, hl⟩ := id h.jobs
            simp only [Value.slice.injEq, true_and] at he
            obtain ⟨ha, hc⟩ := he
            obtain ⟨b1', o1', he1, v, q0, hr1⟩ := hl l hll
            have hjr := (ok.job _ (List.getElem_mem hll)).1
            have hjS : jobS s l p = tnAt s.jobs l p := by unfold jobS; rw [if_neg hch]
            have hq2 : p < (s.jobs[l]).length := by omega
            rw [hjS, tnAt_at hll hq2] at HJL HJH
            obtain ⟨ar', cr', rfl, -, -, hl2⟩ := hr1
            obtain ⟨b2', o2', he2, p0, p1, -⟩ := hl2 p hq2
            have hEx := ext_of_below fA
            have m0 := hEx _ _ q0
            have m1 := hEx _ _ p0
            have m2 := hEx _ _ p1
            rw [HJL.out] at m1
            rw [HJH.out] at m2
            simp only [Nat.mul_one] at m0
            rw [he2] at m0
            have x4 := f0.cell 4 _ rfl
            rw [ha, he1] at x4
            have i1 : (0 : Int) ≤ (l : Int) := Int.natCast_nonneg _
            have i2 : (l : Int) < (s.jobs.length : Int) := by omega
            have i3 : (0 : Int) ≤ (p : Int) := Int.natCast_nonneg _
            have i4 : (p : Int) < ((s.jobs[l]).length : Int) := by omega
            clear hch hl q0 hjr hjS hl2 p0 p1 he1 he2 ha hc hEx HJL HJH
            generalize (s.jobs[l]).length = rl at *
            clear hq2 hll
            have d0 := f0.alloc (.cells #[.int .i64 jl, .int .i64 jh] 100)
            have d1 := f1.alloc (.cells #[.int .i64 jl, .int .i64 jh] 100)
            have d2 := f2.alloc (.cells #[.int .i64 jl, .int .i64 jh] 100)
            have d3 := f3.alloc (.cells #[.int .i64 jl, .int .i64 jh] 100)
            have d4 := f4.alloc (.cells #[.int .i64 jl, .int .i64 jh] 100)
            have d5 := f5.alloc (.cells #[.int .i64 jl, .int .i64 jh] 100)
            have dT := Blk.new wr #[.int .i64 jl, .int .i64 jh] 100
            have dA := fA.alloc fA.size (.cells #[.int .i64 jl, .int .i64 jh] 100)
            have t0 := dT.cell 0 _ rfl
            have t1 := dT.cell 1 _ rfl
            clear f0 f1 f2 f3 f4 f5 fA y3
            have w2 := IntWalk.i64_in (1440 - L - jl) (by omega)
            have w3 : wrap64 (C1 + jh) = C1 + jh := wrap_id _ (by unfold I64; omega)
            go_upto_region 18 with (fail)
            generalize hKT : wr.heap.size = KT at *
            clear hKT m0 m1 m2 x4 dT t0
            generalize wr.alloc (.cells #[.int .i64 jl, .int .i64 jh] 100) = W9 at *
            have s6 : W9.cell? ⟨KX, 6, none⟩ = some (.int .i64 C1) := d5.cell 6 _ rfl
            have sf := d5.frozen 6
            have m0 := d0.other ⟨KX, 6, none⟩ (.int .i64 (C1 + jh)) (by simp only; omega)
            have m1 := d1.other ⟨KX, 6, none⟩ (.int .i64 (C1 + jh)) (by simp only; omega)
            have m2 := d2.other ⟨KX, 6, none⟩ (.int .i64 (C1 + jh)) (by simp only; omega)
            have m3 := d3.other ⟨KX, 6, none⟩ (.int .i64 (C1 + jh)) (by simp only; omega)
            have m4 := d4.other ⟨KX, 6, none⟩ (.int .i64 (C1 + jh)) (by simp only; omega)
            have mA := dA.setCell (p := ⟨KX, 6, none⟩) (by simp only; omega) (.int .i64 (C1 + jh))
            have m5 := d5.set 6 (.int .i64 (C1 + jh))
            rw [ocC_cost] at m5
            have MA := Lib.hid mA
            clear d0 d1 d2 d3 d4 d5 dA mA
            go_wp2_with fail
            go_meet
            exact ⟨rfl, m0, m1, m2, m3, m4, m5, MA.out⟩
          case rest =>
            obtain ⟨rfl, d0, d1, d2, d3, d4, d5, dA⟩ := hcut
            clear f0 f1 f2 f3 f4 f5 fA y3 HBN HBY HJL HJH hgb
            have hEx := ext_of_below dA
            obtain ⟨a6, c6, he6, -, -, hlr⟩ := HRI.out
            simp only [Value.slice.injEq, true_and] at he6
            obtain ⟨he6, -⟩ := he6
            obtain ⟨b5, o5, hb5, q5, -⟩ := hlr p (by omega)
            have k1 := hEx _ _ HR1.out
            have k5 := hEx _ _ q5
            simp only at k1
            rw [he6, hb5] at k1
            have hRv : mk.rates[p]'(by omega) = R := by
              have := HRT.out p hpl
              rw [HR.out] at this
              rw [this]
              simp [List.getD, List.getElem?_eq_getElem (show p < mk.rates.length by omega)]
            rw [hRv] at k5
            simp only [Nat.mul_one] at k5
            have y3 := d0.cell 3 _ rfl
            rw [HA3.out] at y3
            have e1 : (0 : Int) ≤ (p : Int) := Int.natCast_nonneg _
            have e2 : (p : Int) < (mk.rates.length : Int) := by omega
            obtain ⟨s7, sf⟩ := oc_cell d5 hn6
            have htb := maxb (x := 1440 - L - jl) (by omega)
            obtain ⟨t, ht⟩ : ∃ t, max 0 (1440 - L - jl) = t := ⟨_, rfl⟩
            rw [ht] at HX2 htb
            have HT := Lib.hid ht
            clear ht
            obtain ⟨z1, z2, z3⟩ := mkv hRb htb
            obtain ⟨V, hV⟩ : ∃ V, R * t / 1440 = V := ⟨_, rfl⟩
            rw [hV] at HX2 z2 z3
            have HV := Lib.hid hV
            clear hV
            have m0 := d0.other ⟨KX, 7 + n, none⟩ (.int .i64 V) (by simp only; omega)
            have m1 := d1.other ⟨KX, 7 + n, none⟩ (.int .i64 V) (by simp only; omega)
            have m2 := d2.other ⟨KX, 7 + n, none⟩ (.int .i64 V) (by simp only; omega)
            have m3 := d3.other ⟨KX, 7 + n, none⟩ (.int .i64 V) (by simp only; omega)
            have m4 := d4.other ⟨KX, 7 + n, none⟩ (.int .i64 V) (by simp only; omega)
            have mA := dA.setCell (p := ⟨KX, 7 + n, none⟩) (by simp only; omega) (.int .i64 V)
            have m5 := oc_set d5 hML hn6 V
            have MA := Lib.hid mA
            clear hlr he6 hb5 q5 hRv hEx d0 d1 d2 d3 d4 d5 dA mA hgn
            by_cases ht0 : 0 < 1440 - L - jl
            · obtain rfl : t = 1440 - L - jl := by have := HT.out; omega
              clear HT
              go_wp2
              go_roundw
              case rel => exact ⟨k + 1, _, _, by omega, by go_num, HX1, HX2, m0, m1, m2, m3, m4, m5, MA.out⟩
              case measure => simp [intOf]; omega
            · obtain rfl : t = 0 := by have := HT.out; omega
              obtain rfl : V = 0 := by have := HV.out; simpa using this.symm
              clear HT HV z1 z2 z3
              go_wp2
              go_roundw
              case rel => exact ⟨k + 1, _, _, by omega, by go_num, HX1, HX2, m0, m1, m2, m3, m4, m5, MA.out⟩
              case measure => simp [intOf]; omega
      · obtain rfl : k = ms.length := by omega
        rw [List.take_length] at hC1 hM1
        have HEQ : Hid (ocC now C1 M = ocV (folS s ms bef now)) := Lib.hid (by
          unfold ocV folS
          simp only [HF.out, HG.out, HL.out, HC.out, hC1.out, hM1.out])
        have hld := ld_blk (P := Try.prog) f5 Try.underlying82 rfl (by rw [sz_out]; rfl)
        have hst := st_blk (cs' := ocC now C1 M) (P := Try.prog) f4 rfl (by rw [sz_out]; rfl) (ocC_one _ _ _)
        have HN := Lib.hid (blk_sto (cs' := ocC now C1 M) f4 rfl)
        have HB2 := Lib.hid (putC_below fA (show w.heap.size ≤ w.heap.size + 1 + 1 + 1 + 1 by omega) (ocC now C1 M))
        clear f0 f1 f2 f3 f4 f5 fA hC1 hM1 hC1b hC1c hML hlt hk hLC hnm zX
        generalize hCC : ocC now C1 M = CC at *
        have HCC := Lib.hid hCC
        clear hCC
        go_wp2
        exact ⟨rfl, _, res_one (by rfl) rfl (lv_blk HN.out Try.underlying82 rfl (by rw [sz_out, ← HCC.out]; rfl)), by rw [HEQ.out], HB2.out⟩
end Go.Proofs.Ytdffhkbncencgaa
