/- What a plan costs but for what lacks, and what orders get: works.account; no statement is proved here. -/
import Derived.Test.YtdffhkbncencgaaPlSti
import Derived.Sort.CutIn
import Derived.Test.YtdffhkbncencgaaPlPlus
namespace Go.Proofs.Ytdffhkbncencgaa
open Go.RowKit Go.PlainAid
set_option linter.unusedVariables false
set_option linter.unusedSimpArgs false

def costK (s : Sn) (T : List (List Int)) (k : Nat) : Int := (((stL s T).take k).map fun x => x.oc.cost).sum
def gotK (s : Sn) (T : List (List Int)) (k : Nat) : List Int := ((stL s T).take k).foldl (fun c x => plusS s c x.day x.oc) z8
def costS (s : Sn) (T : List (List Int)) : Int := costK s T (stL s T).length
def gotS (s : Sn) (T : List (List Int)) : List Int := gotK s T (stL s T).length
theorem costK_step {s : Sn} {T : List (List Int)} {k : Nat} (h : k < (stL s T).length) : costK s T (k + 1) = costK s T k + ((stL s T)[k]).oc.cost := by
  unfold costK; rw [List.take_succ_eq_append_getElem h, List.map_append, List.sum_append]; simp
theorem gotK_step {s : Sn} {T : List (List Int)} {k : Nat} (h : k < (stL s T).length) : gotK s T (k + 1) = plusS s (gotK s T k) ((stL s T)[k]).day ((stL s T)[k]).oc := by
  unfold gotK; rw [List.take_add_one, List.getElem?_eq_getElem h, List.foldl_append]; rfl
theorem flM_bd {s : Sn} (ok : OkS s) {L : Int} (hL : 0 ≤ L) (bef now : List Int) {ms : List Int} (hm : MsOk s ms) : ∀ m, m < 6 → 0 ≤ g (flM s L bef now ms) m ∧ g (flM s L bef now ms) m ≤ 1000000 := by
  unfold flM
  suffices ∀ (l : List Int) (c : List Int), MsOk s l → (c.length = 6 ∧ ∀ m, m < 6 → 0 ≤ g c m ∧ g c m ≤ 1000000) → ∀ m, m < 6 → 0 ≤ g (l.foldl (fun c m => if g now m.toNat = -1 then c else c.set m.toNat (mkB s L bef now m)) c) m ∧ g (l.foldl (fun c m => if g now m.toNat = -1 then c else c.set m.toNat (mkB s L bef now m)) c) m ≤ 1000000 from this ms z6 hm ⟨rfl, fun m hm => by
    obtain rfl | rfl | rfl | rfl | rfl | rfl : m = 0 ∨ m = 1 ∨ m = 2 ∨ m = 3 ∨ m = 4 ∨ m = 5 := by omega
    all_goals decide⟩
  intro l
  induction l with
  | nil => intro c _ hc; exact hc.2
  | cons a l ih =>
    intro c hl hc
    rw [List.foldl_cons]
    refine ih _ (fun q hq => hl q (List.mem_cons_of_mem _ hq)) ?_
    split
    · exact hc
    · have h1 := mkB_bd ok hL bef now a
      have h2 := rate_bd ok a (g now a.toNat)
      have h3 := hl a (List.mem_cons_self ..)
      refine ⟨by rw [List.length_set]; exact hc.1, fun m hm => ?_⟩
      rw [g_set c hc.1 (by have := ok.nm; omega)]
      split
      · omega
      · exact hc.2 m hm
theorem stL_mem {s : Sn} {T : List (List Int)} {x : Stn} (h : x ∈ stL s T) : ∃ k day, k < s.ovens.length ∧ day < s.days.toNat ∧ x = stOne s T k day := by
  unfold stL stX at h
  simp only [List.mem_flatMap, List.mem_map, List.mem_range] at h
  obtain ⟨k, hk, day, hd, rfl⟩ := h
  exact ⟨k, day, hk, hd, rfl⟩
theorem stOc_bd {s : Sn} (ok : OkS s) {T : List (List Int)} {x : Stn} (h : x ∈ stL s T) : OcB x.oc ∧ 0 ≤ x.oc.cost ∧ x.oc.cost ≤ 7000000 := by
  obtain ⟨k, day, hk, hd, rfl⟩ := stL_mem h
  have hm := mksAt_ok s k
  have hl := Nat.le_trans (mksAt_len s k) ok.nm
  have hb := lostS_bd ok (colS s (dayC s T ((day : Int) - 1) (ovAt s k)) (mksAt s k)) (colS s (dayC s T day (ovAt s k)) (mksAt s k))
  refine ⟨flM_bd ok hb.1.1 _ _ hm, ?_⟩
  have := flC_bd ok hb.2 (dayC s T ((day : Int) - 1) (ovAt s k)) (dayC s T day (ovAt s k)) (mksAt s k)
  exact ⟨this.1, Int.le_trans this.2 (by omega)⟩
theorem stL_few {s : Sn} (ok : OkS s) (T : List (List Int)) : (stL s T).length ≤ 42 := by
  rw [stL_len]
  have h1 := ok.no
  have h2 := ok.days
  have h3 : s.days.toNat ≤ 14 := by omega
  exact Nat.le_trans (Nat.mul_le_mul h1 h3) (by decide)
theorem costK_bd {s : Sn} (ok : OkS s) (T : List (List Int)) : ∀ k, k ≤ (stL s T).length → 0 ≤ costK s T k ∧ costK s T k ≤ 7000000 * k
  | 0, _ => by simp [costK]
  | k + 1, h => by
    have h1 := costK_bd ok T k (by omega)
    have h2 := (stOc_bd ok (List.getElem_mem (show k < (stL s T).length by omega))).2
    rw [costK_step (by omega)]
    omega
theorem gotK_bd {s : Sn} (ok : OkS s) (T : List (List Int)) : ∀ k, k ≤ (stL s T).length → (gotK s T k).length = 8 ∧ ∀ i, i < 8 → 0 ≤ g (gotK s T k) i ∧ g (gotK s T k) i ≤ 6000000 * k
  | 0, _ => ⟨rfl, fun i hi => by
    rw [show gotK s T 0 = z8 from rfl]
    obtain rfl | rfl | rfl | rfl | rfl | rfl | rfl | rfl : i = 0 ∨ i = 1 ∨ i = 2 ∨ i = 3 ∨ i = 4 ∨ i = 5 ∨ i = 6 ∨ i = 7 := by omega
    all_goals decide⟩
  | k + 1, h => by
    have h1 := gotK_bd ok T k (by omega)
    have h2 := (stOc_bd ok (List.getElem_mem (show k < (stL s T).length by omega))).1
    rw [gotK_step (by omega)]
    have := plusS_bd ok (day := ((stL s T)[k]).day) h2 h1.1 h1.2 (by omega)
    exact ⟨this.1, fun i hi => by have := this.2 i hi; omega⟩
theorem stC_oc (x : Stn) : ∀ j v, (ocV x.oc)[j]? = some v → (stC x)[2 + j]? = some v := fun j v h => by
  have hj : j < 13 := by
    rcases Nat.lt_or_ge j 13 with h1 | h1
    · exact h1
    · rw [Array.getElem?_eq_none (by show 13 ≤ j; omega)] at h; cases h
  obtain rfl | rfl | rfl | rfl | rfl | rfl | rfl | rfl | rfl | rfl | rfl | rfl | rfl : j = 0 ∨ j = 1 ∨ j = 2 ∨ j = 3 ∨ j = 4 ∨ j = 5 ∨ j = 6 ∨ j = 7 ∨ j = 8 ∨ j = 9 ∨ j = 10 ∨ j = 11 ∨ j = 12 := by omega
  all_goals exact h
theorem lv_int {w : World} {b : Nat} {i : Int} {t : TypeId} (h : Blk w b #[.int .i64 i] t) : (loadVar 3 ⟨b, 0, none⟩).run Try.prog w = .ok (.int .i64 i) w := by
  have h1 := h.cell 0 _ rfl
  simp [loadVar, isAgg, go_sem, h1, Try.underlying3]
theorem keepsP_below {B : Nat} {X Y : World} (h : Below X.heap.size X Y) : KeepsFrom B X Y := ⟨h.size, fun k o _ hk _ => by rw [h.block k (Array.getElem?_eq_some_iff.1 hk).1]; exact hk⟩
theorem keepsP_belS {S : Nat → Prop} {B : Nat} {X Y : World} (h : BelS S X.heap.size X Y) (hS : ∀ k, S k → k < B) : KeepsFrom B X Y := ⟨h.size, fun k o hB hk _ => by rw [h.block k (Array.getElem?_eq_some_iff.1 hk).1 (fun x => by have := hS k x; omega)]; exact hk⟩

attribute [local go_sem] Oper.semAt_some
attribute [local go_sem ↓] ex_ldo ex_ldn ex_ldw ex_stn ex_sts
set_option maxHeartbeats 8000000 in
set_option maxRecDepth 100000 in
theorem account_any (s : Sn) (d : SA) (v7 vt : Value) (T : List (List Int)) (w : World) (h : SnD w s d) (ok : OkS s) (ho : ROvns w v7 (ovL s)) (hT : RRows w vt T) (pk : PlOk s T) :
    Calls Try.prog 50 #[.agg #[.int .i64 s.days, .slice d.a1 s.arts.length d.c1, .slice d.a2 s.ovens.length d.c2, .slice d.a3 s.mks.length d.c3, .slice d.a4 s.jobs.length d.c4, .slice d.a5 s.cols.length d.c5, .slice d.a6 s.ods.length d.c6, v7], vt] w fun e w' => e = .returned (.tuple #[.int .i64 (costS s T), .agg (cnC (gotS s T))]) ∧ Below w.heap.size w w' := by
  obtain ⟨ap, cp, rfl⟩ := hT.shape
  have A0 := below_box w (.cells #[.int .i64 s.days, .slice d.a1 s.arts.length d.c1, .slice d.a2 s.ovens.length d.c2, .slice d.a3 s.mks.length d.c3, .slice d.a4 s.jobs.length d.c4, .slice d.a5 s.cols.length d.c5, .slice d.a6 s.ods.length d.c6, v7] 63)
  have A1 := A0.alloc (by simp) (.cells #[.int .i64 0] 3)
  have A2 := A1.alloc (by simp; omega) (.cells #[.int .i64 0, .int .i64 0, .int .i64 0, .int .i64 0, .int .i64 0, .int .i64 0, .int .i64 0, .int .i64 0] 92)
  have b0 := ((Blk.new w #[.int .i64 s.days, .slice d.a1 s.arts.length d.c1, .slice d.a2 s.ovens.length d.c2, .slice d.a3 s.mks.length d.c3, .slice d.a4 s.jobs.length d.c4, .slice d.a5 s.cols.length d.c5, .slice d.a6 s.ods.length d.c6, v7] 63).alloc (.cells #[.int .i64 0] 3)).alloc (.cells #[.int .i64 0, .int .i64 0, .int .i64 0, .int .i64 0, .int .i64 0, .int .i64 0, .int .i64 0, .int .i64 0] 92)
  have b1 := (Blk.new (w.alloc (.cells #[.int .i64 s.days, .slice d.a1 s.arts.length d.c1, .slice d.a2 s.ovens.length d.c2, .slice d.a3 s.mks.length d.c3, .slice d.a4 s.jobs.length d.c4, .slice d.a5 s.cols.length d.c5, .slice d.a6 s.ods.length d.c6, v7] 63)) #[.int .i64 0] 3).alloc (.cells #[.int .i64 0, .int .i64 0, .int .i64 0, .int .i64 0, .int .i64 0, .int .i64 0, .int .i64 0, .int .i64 0] 92)
  have b2 : Blk _ _ (cnC z8) 92 := Blk.new ((w.alloc (.cells #[.int .i64 s.days, .slice d.a1 s.arts.length d.c1, .slice d.a2 s.ovens.length d.c2, .slice d.a3 s.mks.length d.c3, .slice d.a4 s.jobs.length d.c4, .slice d.a5 s.cols.length d.c5, .slice d.a6 s.ods.length d.c6, v7] 63)).alloc (.cells #[.int .i64 0] 3)) #[.int .i64 0, .int .i64 0, .int .i64 0, .int .i64 0, .int .i64 0, .int .i64 0, .int .i64 0, .int .i64 0] 92
  simp only [World.size_alloc] at b1 b2
  have hz2 : (((w.alloc (.cells #[.int .i64 s.days, .slice d.a1 s.arts.length d.c1, .slice d.a2 s.ovens.length d.c2, .slice d.a3 s.mks.length d.c3, .slice d.a4 s.jobs.length d.c4, .slice d.a5 s.cols.length d.c5, .slice d.a6 s.ods.length d.c6, v7] 63)).alloc (.cells #[.int .i64 0] 3)).alloc (.cells #[.int .i64 0, .int .i64 0, .int .i64 0, .int .i64 0, .int .i64 0, .int .i64 0, .int .i64 0, .int .i64 0] 92)).heap.size = w.heap.size + 1 + 1 + 1 := by simp only [World.size_alloc]
  have HZ2 := Lib.hid hz2
  clear hz2
  have hldw := ld_blk (P := Try.prog) b0 Try.underlying63 rfl (by rw [sz_works]; rfl)
  refine (callsIn_wide (n := 9)).1 ?_
  refine callsIn_of_wp_marks Try.func50 rfl trivial ?_ rfl
  simp only [Try.ntmps50, List.size_toArray, List.length_cons, List.length_nil, Nat.reduceAdd, Nat.reduceSub, Array.replicate_succ, Array.replicate_zero, List.push_toArray, List.append_toArray, List.nil_append, List.cons_append]
  gi_wp2_with fail
  refine ⟨trivial, callsIn_wide.2 ?_⟩
  generalize ((w.alloc (.cells #[.int .i64 s.days, .slice d.a1 s.arts.length d.c1, .slice d.a2 s.ovens.length d.c2, .slice d.a3 s.mks.length d.c3, .slice d.a4 s.jobs.length d.c4, .slice d.a5 s.cols.length d.c5, .slice d.a6 s.ods.length d.c6, v7] 63)).alloc (.cells #[.int .i64 0] 3)).alloc (.cells #[.int .i64 0, .int .i64 0, .int .i64 0, .int .i64 0, .int .i64 0, .int .i64 0, .int .i64 0, .int .i64 0] 92) = W0 at *
  refine (stints_any s d v7 ap T.length cp W0).mono ?_
  rintro e w' ⟨rfl, hw'⟩
  obtain rfl := hw'.symm
  clear hw' hldw A0 A1
  have c0 := (b0.alloc (.cells #[.int .i64 s.days, .slice d.a1 s.arts.length d.c1, .slice d.a2 s.ovens.length d.c2, .slice d.a3 s.mks.length d.c3, .slice d.a4 s.jobs.length d.c4, .slice d.a5 s.cols.length d.c5, .slice d.a6 s.ods.length d.c6, v7] 63)).alloc (.cells #[.slice ap T.length cp] 29)
  have c1 := (b1.alloc (.cells #[.int .i64 s.days, .slice d.a1 s.arts.length d.c1, .slice d.a2 s.ovens.length d.c2, .slice d.a3 s.mks.length d.c3, .slice d.a4 s.jobs.length d.c4, .slice d.a5 s.cols.length d.c5, .slice d.a6 s.ods.length d.c6, v7] 63)).alloc (.cells #[.slice ap T.length cp] 29)
  have c2 := (b2.alloc (.cells #[.int .i64 s.days, .slice d.a1 s.arts.length d.c1, .slice d.a2 s.ovens.length d.c2, .slice d.a3 s.mks.length d.c3, .slice d.a4 s.jobs.length d.c4, .slice d.a5 s.cols.length d.c5, .slice d.a6 s.ods.length d.c6, v7] 63)).alloc (.cells #[.slice ap T.length cp] 29)
  have c3 := (Blk.new W0 #[.int .i64 s.days, .slice d.a1 s.arts.length d.c1, .slice d.a2 s.ovens.length d.c2, .slice d.a3 s.mks.length d.c3, .slice d.a4 s.jobs.length d.c4, .slice d.a5 s.cols.length d.c5, .slice d.a6 s.ods.length d.c6, v7] 63).alloc (.cells #[.slice ap T.length cp] 29)
  have c4 := Blk.new (W0.alloc (.cells #[.int .i64 s.days, .slice d.a1 s.arts.length d.c1, .slice d.a2 s.ovens.length d.c2, .slice d.a3 s.mks.length d.c3, .slice d.a4 s.jobs.length d.c4, .slice d.a5 s.cols.length d.c5, .slice d.a6 s.ods.length d.c6, v7] 63)) #[.slice ap T.length cp] 29
  have cA := (A2.alloc A2.size (.cells #[.int .i64 s.days, .slice d.a1 s.arts.length d.c1, .slice d.a2 s.ovens.length d.c2, .slice d.a3 s.mks.length d.c3, .slice d.a4 s.jobs.length d.c4, .slice d.a5 s.cols.length d.c5, .slice d.a6 s.ods.length d.c6, v7] 63)).alloc (by have := A2.size; simp; omega) (.cells #[.slice ap T.length cp] 29)
  simp only [World.size_alloc] at c4
  rw [HZ2.out] at c3 c4
  clear b0 b1 b2 A2
  gi_wp2_with fail
  have hz5 : w.heap.size + 1 + 1 + 1 + 1 < ((W0.alloc (.cells #[.int .i64 s.days, .slice d.a1 s.arts.length d.c1, .slice d.a2 s.ovens.length d.c2, .slice d.a3 s.mks.length d.c3, .slice d.a4 s.jobs.length d.c4, .slice d.a5 s.cols.length d.c5, .slice d.a6 s.ods.length d.c6, v7] 63)).alloc (.cells #[.slice ap T.length cp] 29)).heap.size := c4.lt
  rw [HZ2.out]
  generalize (W0.alloc (.cells #[.int .i64 s.days, .slice d.a1 s.arts.length d.c1, .slice d.a2 s.ovens.length d.c2, .slice d.a3 s.mks.length d.c3, .slice d.a4 s.jobs.length d.c4, .slice d.a5 s.cols.length d.c5, .slice d.a6 s.ods.length d.c6, v7] 63)).alloc (.cells #[.slice ap T.length cp] 29) = w5 at *
  clear HZ2
  have hEx := ext_of_below cA
  have hSl : ∀ q, (fun q => q = w.heap.size + 1 ∨ q = w.heap.size + 1 + 1) q → q < w5.heap.size := fun q hq => by rcases hq with rfl | rfl <;> omega
  have hlt : ∀ q, q < w.heap.size → ¬ (fun q => q = w.heap.size + 1 ∨ q = w.heap.size + 1 + 1) q := fun q hq hx => by rcases hx with rfl | rfl <;> omega
  have hs5 : SnD (vis (fun q => ¬ (fun q => q = w.heap.size + 1 ∨ q = w.heap.size + 1 + 1) q) w5) s d := h.mono (ext_vis_all hEx hlt)
  have ho5 : ROvns (vis (fun q => ¬ (fun q => q = w.heap.size + 1 ∨ q = w.heap.size + 1 + 1) q) w5) v7 (ovL s) := ho.mono (ext_vis_all hEx hlt)
  have hT5 : RRows (vis (fun q => ¬ (fun q => q = w.heap.size + 1 ∨ q = w.heap.size + 1 + 1) q) w5) (.slice ap T.length cp) T := hT.mono (ext_vis_all hEx hlt)
  have hI0 : (∃ (C : Int) (c : List Int), Hid (costK s T 0 = C) ∧ Hid (gotK s T 0 = c) ∧ Blk w5 (w.heap.size + 1) #[.int .i64 C] 3 ∧ Blk w5 (w.heap.size + 1 + 1) (cnC c) 92 ∧ BelS (fun q => q = w.heap.size + 1 ∨ q = w.heap.size + 1 + 1) w5.heap.size w5 w5 ∧ Below w.heap.size w w5) := ⟨0, z8, Lib.hid rfl, Lib.hid rfl, c1, c2, BelS.refl _ _ _, cA⟩
  refine wpIn_range_c (fun _ => False) (fun q => q = w.heap.size + 1 ∨ q = w.heap.size + 1 + 1) rfl (by simp [Fence.wide]) (gf := 68) (lb := #[.pointer (some ⟨w.heap.size + 1 + 1 + 1, 0, none⟩), .pointer (some ⟨w.heap.size + 1 + 1 + 1 + 1, 0, none⟩)]) rfl trivial (enters_of Try.func68 (by kernel_rfl) rfl)
    (stintsIt_any (fun q => q = w.heap.size + 1 ∨ q = w.heap.size + 1 + 1) _ s d v7 _ T _ _ w5 hs5 ok ho5 hT5 pk (by omega) (by omega) hSl c3 c4) (fun k x hx => by
      simp only [encS, List.getElem?_map, Option.map_eq_some_iff] at hx
      obtain ⟨r, -, rfl⟩ := hx; rfl)
    (fun k W => (∃ (C : Int) (c : List Int), Hid (costK s T k = C) ∧ Hid (gotK s T k = c) ∧ Blk W (w.heap.size + 1) #[.int .i64 C] 3 ∧ Blk W (w.heap.size + 1 + 1) (cnC c) 92 ∧ BelS (fun q => q = w.heap.size + 1 ∨ q = w.heap.size + 1 + 1) w5.heap.size w5 W ∧ Below w.heap.size w W)) (fun _ _ => False) (fun _ _ => False)
    ?hI ?hIx (fun _ _ _ _ h => h.elim) ?hIT hI0
    (fun x a' W => ∃ (p : Nat) (st : Stn), x = #[.agg (stC st)] ∧ w5.heap.size ≤ p ∧ Blk W p (stC st) 84 ∧ a' = { tmps := #[.agg #[.int .i64 s.days, .slice d.a1 s.arts.length d.c1, .slice d.a2 s.ovens.length d.c2, .slice d.a3 s.mks.length d.c3, .slice d.a4 s.jobs.length d.c4, .slice d.a5 s.cols.length d.c5, .slice d.a6 s.ods.length d.c6, v7], .slice ap T.length cp, .pointer (some ⟨w.heap.size, 0, none⟩), undef, .pointer (some ⟨w.heap.size + 1, 0, none⟩), .pointer (some ⟨w.heap.size + 1 + 1, 0, none⟩), .pointer (some ⟨p, 0, none⟩), .agg #[.int .i64 s.days, .slice d.a1 s.arts.length d.c1, .slice d.a2 s.ovens.length d.c2, .slice d.a3 s.mks.length d.c3, .slice d.a4 s.jobs.length d.c4, .slice d.a5 s.cols.length d.c5, .slice d.a6 s.ods.length d.c6, v7], .slice ap T.length cp, .func (.func 68) #[] #[.pointer (some ⟨w.heap.size + 1 + 1 + 1, 0, none⟩), .pointer (some ⟨w.heap.size + 1 + 1 + 1 + 1, 0, none⟩)], .agg (stC st), undef, undef, undef, undef, undef, undef, undef, undef, undef, undef, undef, undef, undef, undef], defers := [] })
    ?hAx ?assign ?body ?done ?stop ?panic
  case panic => exact fun D ch W _ h => h.elim
  case stop => exact fun D cc W _ h => h.elim
  case hI =>
    rintro k X Y row ⟨C, c, e1, e2, g1, g2, g3, g4⟩ hg hr
    exact ⟨C, c, e1, e2, (blk_own (β := Unit) (w.heap.size + 1) _ (fun _ => #[.int .i64 C])) () X Y row g1 hg (fun r e => (hr r e).2), (blk_own (β := Unit) (w.heap.size + 1 + 1) _ (fun _ => cnC c)) () X Y row g2 hg (fun r e => (hr r e).2), ownFrom_bel (β := Unit) (Nat.le_refl _) (Nat.le_refl _) () X Y row g3 hg hr, ownFrom_below (β := Unit) (Nat.le_refl _) (by omega) () X Y row g4 hg hr⟩
  case hIx => exact fun cc k X Y row h => h.elim
  case hIT => exact fun k X p v _ _ h => h.elim
  case hAx =>
    rintro x a' k X Y row ⟨p, st, e1, e2, g1, e3⟩ hg hr
    exact ⟨p, st, e1, e2, (blk_own (β := Unit) p _ (fun _ => stC st)) () X Y row g1 hg (fun r e => (hr r e).2), e3⟩
  case assign =>
    rintro j k x W K hx hWs ⟨C, c, e1, e2, g1, g2, g3, g4⟩ hK
    simp only [encS, List.getElem?_map, Option.map_eq_some_iff] at hx
    obtain ⟨st, hst, rfl⟩ := hx
    have hX := Blk.new W #[.int .i64 0, .int .i64 0, .int .i64 0, .int .i64 0, .int .i64 0, .int .i64 0, .int .i64 0, .int .i64 0, .int .i64 0, .int .i64 0, .int .i64 0, .int .i64 0, .int .i64 0, .int .i64 0, .int .i64 0] 84
    have hstr := st_blk (cs' := stC st) (P := Try.prog) hX rfl (by rw [sz_stint]; rfl) (by simp [stC, Value.oneCell'])
    have hXb := blk_sto (cs' := stC st) hX rfl
    have hbx : Below W.heap.size W (putC (W.alloc (.cells #[.int .i64 0, .int .i64 0, .int .i64 0, .int .i64 0, .int .i64 0, .int .i64 0, .int .i64 0, .int .i64 0, .int .i64 0, .int .i64 0, .int .i64 0, .int .i64 0, .int .i64 0, .int .i64 0, .int .i64 0] 84)) W.heap.size (stC st)) := putC_below (below_box W (.cells #[.int .i64 0, .int .i64 0, .int .i64 0, .int .i64 0, .int .i64 0, .int .i64 0, .int .i64 0, .int .i64 0, .int .i64 0, .int .i64 0, .int .i64 0, .int .i64 0, .int .i64 0, .int .i64 0, .int .i64 0] 84)) (Nat.le_refl _) (stC st)
    have HB := Lib.hid hbx
    have HX := Lib.hid hXb
    clear hX hXb hbx hst
    gi_wp2
    have hbx := HB.out
    exact hK _ _ (keepsP_below hbx) (BelS.of_below (hbx.mono hWs)) (CK.of_below hbx) ⟨C, c, e1, e2, g1.below hbx g1.lt, g2.below hbx g2.lt, g3.trans (BelS.of_below (hbx.mono g3.size)), g4.trans (hbx.mono g4.size)⟩ ⟨W.heap.size, st, rfl, hWs, HX.out, rfl⟩
  case body =>
    rintro j k x a' W hx hWs ⟨C, c, e1, e2, g1, g2, g3, g4⟩ ⟨p, st, hxe, hp, gX, rfl⟩
    simp only [encS, List.getElem?_map, Option.map_eq_some_iff] at hx
    obtain ⟨st2, hst, rfl⟩ := hx
    have hst2 : stC st2 = stC st := by simpa using hxe
    rw [← hst2] at gX
    clear hxe hst2
    obtain ⟨hkl, hke⟩ := List.getElem?_eq_some_iff.1 hst
    have hmem : st2 ∈ stL s T := hke ▸ List.getElem_mem hkl
    have hob := stOc_bd ok hmem
    have hC1 := costK_step hkl
    have hG1 := gotK_step hkl
    have hfew := stL_few ok T
    have hCb := costK_bd ok T k (by omega)
    have hGb := gotK_bd ok T k (by omega)
    rw [hke, e1.out] at hC1
    rw [hke, e2.out] at hG1
    rw [e1.out] at hCb
    rw [e2.out] at hGb
    have hcb : ∀ i, i < 8 → 0 ≤ g c i ∧ g c i ≤ 1000000000000 := fun i hi => by have := hGb.2 i hi; omega
    have hcl := hGb.1
    have hCc : 0 ≤ C ∧ C ≤ 300000000 := by omega
    have HC1 := Lib.hid hC1
    have HG1 := Lib.hid hG1
    obtain ⟨hOB, hcost⟩ := hob
    obtain ⟨ov, dy, oc⟩ := st2
    simp only at *
    clear hst hke hmem hC1 hG1 hCb hGb hfew hkl e1 e2
    have y0 : W.cell? ⟨w.heap.size + 1, 0, none⟩ = some (.int .i64 C) := g1.cell 0 _ rfl
    have yf := g1.frozen 0
    have y8 : W.cell? ⟨p, 8, none⟩ = some (.int .i64 oc.cost) := gX.cell 8 _ rfl
    have z1 : wrap64 (C + oc.cost) = C + oc.cost := wrap_id _ (by unfold I64; omega)
    have hB1 : BelS (fun q => q = w.heap.size + 1 ∨ q = w.heap.size + 1 + 1) W.heap.size W (W.setCell ⟨w.heap.size + 1, 0, none⟩ (.int .i64 (C + oc.cost))) := (BelS.refl _ _ _).set ⟨w.heap.size + 1, 0, none⟩ _ (.inr (.inl rfl))
    have k1 : Blk (W.setCell ⟨w.heap.size + 1, 0, none⟩ (.int .i64 (C + oc.cost))) (w.heap.size + 1) #[.int .i64 (C + oc.cost)] 3 := by simpa using g1.set 0 (.int .i64 (C + oc.cost))
    have k2 := g2.other ⟨w.heap.size + 1, 0, none⟩ (.int .i64 (C + oc.cost)) (by simp only; omega)
    have kX := gX.other ⟨w.heap.size + 1, 0, none⟩ (.int .i64 (C + oc.cost)) (by simp only; omega)
    have k0 := (g3.blk c0 (by omega) c0.lt).other ⟨w.heap.size + 1, 0, none⟩ (.int .i64 (C + oc.cost)) (by simp only; omega)
    have kA := g4.setCell (p := ⟨w.heap.size + 1, 0, none⟩) (by simp only; omega) (.int .i64 (C + oc.cost))
    have HB1 := Lib.hid hB1
    have HG3 := Lib.hid g3
    have HA := Lib.hid kA
    clear g1 g2 gX g3 g4 hB1 kA
    gi_upto_region 4 with fail
    clear y0 yf y8
    generalize W.setCell ⟨w.heap.size + 1, 0, none⟩ (.int .i64 (C + oc.cost)) = W1 at *
    have h1w := ld_blk (P := Try.prog) k0 Try.underlying63 rfl (by rw [sz_works]; rfl)
    have h1n := ld_blk (P := Try.prog) k2 Try.underlying92 rfl (by rw [sz_counts]; rfl)
    have h1o : Sem.run Try.prog (ldAt 82 (.pointer (some ⟨p, 2, none⟩))) W1 = .ok (.agg (ocV oc)) W1 := ld_of (fun j v hv => kX.cell (2 + j) v (stC_oc _ j v hv)) Try.underlying82 rfl (by rw [sz_out]; rfl)
    have y1 : W1.cell? ⟨p, 1, none⟩ = some (.int .i64 dy) := kX.cell 1 _ rfl
    gi_wp2_with fail
    refine ⟨trivial, (CallsIn.inRound j (callsIn_wide.2 (plus_any s d v7 c dy oc W1 (h.mono (ext_of_below HA.out)) ok hcl hcb hOB))).mono ?_⟩
    rintro e W2 ⟨rfl, hb2⟩
    have HW12 := Lib.hid hb2
    have m1 := k1.below hb2 k1.lt
    have m2 := k2.below hb2 k2.lt
    have mA := HA.out.trans (hb2.mono HA.out.size)
    have mB := HB1.out.trans (BelS.of_below (hb2.mono HB1.out.size))
    have hstn := st_blk (cs' := cnC (plusS s c dy oc)) (P := Try.prog) m2 rfl (by rw [sz_counts]; rfl) (cnC_one _)
    have M1 := Lib.hid (blk_sto_other m1 (show w.heap.size + 1 + 1 ≠ w.heap.size + 1 by omega) (cnC (plusS s c dy oc)))
    have M2 := Lib.hid (blk_sto (cs' := cnC (plusS s c dy oc)) m2 rfl)
    have MA := Lib.hid (putC_below mA (show w.heap.size ≤ w.heap.size + 1 + 1 by omega) (cnC (plusS s c dy oc)))
    have MB := Lib.hid (putC_belS mB (k := w.heap.size + 1 + 1) (.inr (.inr rfl)) (cnC (plusS s c dy oc)))
    clear m1 m2 mA mB h1w h1n h1o y1 k1 k2 kX k0 hb2
    generalize hNC : cnC (plusS s c dy oc) = NC at *
    have HNC := Lib.hid hNC
    clear hNC
    gi_wp2
    have hBS := MB.out
    exact ⟨keepsP_belS hBS hSl, hBS.mono hWs, CK.of_belS hBS, C + oc.cost, HC1, plusS s c dy oc, HG1, M1.out, by rw [HNC.out]; exact M2.out, HG3.out.trans (hBS.mono hWs), MA.out⟩
  case done =>
    rintro D W hD ⟨C, c, e1, e2, g1, g2, g3, g4⟩ hKD
    rw [encS_len] at e1 e2
    have HE1 : Hid (costS s T = C) := Lib.hid e1.out
    have HE2 : Hid (gotS s T = c) := Lib.hid e2.out
    have hD5 : w.heap.size + 1 + 1 + 1 + 1 < D := by omega
    have D0 : Below W.heap.size W W.drew := (Below.refl _ _).drew
    have k1 := g1.below D0 g1.lt
    have k2 := g2.below D0 g2.lt
    have kA := g4.trans (D0.mono g4.size)
    have kD : W.drew.heap[D]? = some (.deferred (some [])) := (D0.block D (Array.getElem?_eq_some_iff.1 hKD).1).trans hKD
    gi_upto_region 5 with fail
    refine reg_normQ ?_
    refine wpIn_region_till (fun w' : World => w'.cell? ⟨w.heap.size + 1, 0, none⟩ = some (.int .i64 C) ∧ w'.rangeAt (w.heap.size + 1 + 1) 0 (cnC c).toList) 3 (by kernel_rfl) (by kernel_rfl) (fun ⟨_, _, h⟩ => by cases h.1) ⟨k1.cell 0 _ rfl, k2.range⟩ (fun hHeld => ?_)
    generalize W.drew = W1 at *
    clear g1 g2 g3 g4 hKD D0 e1 e2
    refine Till.take 0 (some 23) (v := ?_) rfl rfl (by kernel_rfl) (by kernel_rfl) (by kernel_rfl) (by kernel_rfl) (fun _ _ _ h => by cases h.1) (Or.inl ⟨by rfl, ?_⟩) (by assumption) ?_
    rotate_left
    · (intro w hSw; (try dsimp only at hSw); go_simp; try with_reducible rfl)
    try simp only [Act.put, List.setIfInBounds_toArray, List.set_cons_zero, List.set_cons_succ]
    refine Till.take 1 (some 24) (v := .agg (cnC c)) rfl rfl (by kernel_rfl) (by kernel_rfl) (by kernel_rfl) (by kernel_rfl) (fun _ _ _ h => by cases h.1) (yieldsIf_load_mid rfl 92 (Operand.tmp 5) rfl (w.heap.size + 1 + 1) 0 rfl (cnC c).toList _ (fun _ h => h.2) Try.underlying92 rfl (by rw [sz_counts]; rfl)) (by assumption) ?_
    try simp only [Act.put, List.setIfInBounds_toArray, List.set_cons_zero, List.set_cons_succ]
    have y0 : W1.cell? ⟨w.heap.size + 1, 0, none⟩ = some (.int .i64 C) := k1.cell 0 _ rfl
    have yf := k1.frozen 0
    have m1 : Blk (W1.setCell ⟨w.heap.size + 1, 0, none⟩ (.int .i64 C)) (w.heap.size + 1) #[.int .i64 C] 3 := by simpa using k1.set 0 (.int .i64 C)
    have m2 := k2.other ⟨w.heap.size + 1, 0, none⟩ (.int .i64 C) (by simp only; omega)
    have mA := kA.setCell (p := ⟨w.heap.size + 1, 0, none⟩) (by simp only; omega) (.int .i64 C)
    have mD : (W1.setCell ⟨w.heap.size + 1, 0, none⟩ (.int .i64 C)).heap[D]? = some (.deferred (some [])) := (Below.heap_setCell _ _ _ _ (by simp only; omega)).trans kD
    have hS2 : (fun w' : World => w'.cell? ⟨w.heap.size + 1, 0, none⟩ = some (.int .i64 C) ∧ w'.rangeAt (w.heap.size + 1 + 1) 0 (cnC c).toList) (W1.setCell ⟨w.heap.size + 1, 0, none⟩ (.int .i64 C)) := ⟨m1.cell 0 _ rfl, m2.range⟩
    have HS2 := Lib.hid hS2
    have M1 := Lib.hid m1
    have M2 := Lib.hid m2
    have MA := Lib.hid mA
    have MD := Lib.hid mD
    clear k1 k2 kA kD m1 m2 mA mD hS2
    refine Till.one 2 rfl (by kernel_rfl) (fun K hK => ?_)
    go_simp
    refine hK.out _ _ (fun _ => HS2.out) (fun hHeld2 => ?_)
    clear hK K y0 yf
    try simp only [Act.put, List.setIfInBounds_toArray, List.set_cons_zero, List.set_cons_succ]
    generalize W1.setCell ⟨w.heap.size + 1, 0, none⟩ (.int .i64 C) = W2 at *
    refine Till.one 3 rfl (by kernel_rfl) (fun K hK => ?_)
    rw [if_pos (by rfl)]
    refine wp_store_mid 92 (Operand.tmp 5) (Operand.tmp 24) rfl (w.heap.size + 1 + 1) 0 (cnC c) rfl rfl (there_blk M2.out rfl) (by rw [sz_counts]; rfl) (cnC_one _) ?_
    refine hK.out _ _ (fun h => absurd rfl h) (fun _ => ?_)
    clear hK K hHeld hHeld2
    try simp only [Act.put, List.setIfInBounds_toArray, List.set_cons_zero, List.set_cons_succ]
    refine Till.done (by kernel_rfl) ?_ _
    rw [show World.setCells W2 (w.heap.size + 1 + 1) 0 (cnC c).toList = putC W2 (w.heap.size + 1 + 1) (cnC c) from rfl]
    have n1 := blk_sto_other M1.out (show w.heap.size + 1 + 1 ≠ w.heap.size + 1 by omega) (cnC c)
    have n2 := blk_sto (cs' := cnC c) M2.out rfl
    have nA := putC_below MA.out (show w.heap.size ≤ w.heap.size + 1 + 1 by omega) (cnC c)
    have nD : (putC W2 (w.heap.size + 1 + 1) (cnC c)).heap[D]? = some (.deferred (some [])) := by
      have := (putC_below (B := w.heap.size + 1 + 1) (Below.refl _ W2) (Nat.le_refl _) (cnC c))
      have h2 := putC_belS (S := fun q => q = w.heap.size + 1 + 1) (BelS.refl _ W2.heap.size W2) (k := w.heap.size + 1 + 1) (.inr rfl) (cnC c)
      exact (h2.block D (Array.getElem?_eq_some_iff.1 MD.out).1 (by omega)).trans MD.out
    clear M1 M2 MA MD HS2
    generalize putC W2 (w.heap.size + 1 + 1) (cnC c) = WE at *
    refine ⟨rfl, ?_⟩
    simp only [List.getElem_toArray, List.getElem_cons_succ, List.getElem_cons_zero]
    have HN1 := Lib.hid n1
    have HN2 := Lib.hid n2
    have HNA := Lib.hid nA
    have HND := Lib.hid nD
    clear n1 n2 nA nD
    gi_wp2
    have hPD := HNA.out.trans (belowK_b (w := w) (Nat.le_refl _) WE D _ (.deferred none) (by omega) HND.out rfl rfl)
    refine ⟨by simp, .inl ⟨_, _, rfl, run_takeDeferred HND.out, ?_⟩⟩
    exact ⟨.tuple #[.int .i64 C, .agg (cnC c)], res_cc rfl rfl (lv_int (blk_putMark HN1.out HND.out _)) rfl (lv_blk (blk_putMark HN2.out HND.out _) Try.underlying92 rfl (by rw [sz_counts]; rfl)), by rw [HE1.out, HE2.out], hPD⟩
end Go.Proofs.Ytdffhkbncencgaa
