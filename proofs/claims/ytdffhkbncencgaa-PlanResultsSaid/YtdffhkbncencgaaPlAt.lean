/- The machines of a furnace; what they have on a day; whether a shift is listed: by contracts; no statement is proved here. -/
import Derived.Test.YtdffhkbncencgaaPlCrew
namespace Go.Proofs.Ytdffhkbncencgaa
open Go.RowKit Go.PlainAid
set_option linter.unusedVariables false
set_option linter.unusedSimpArgs false

theorem info_int : (Try.prog.info? 3).map (fun i => (i.zero, i.size, i.bytes)) = some (some (.int .i64 0), 1, 8) := by kernel_rfl
/-- the machines ahead of number k that are at furnace o. -/
def atTo (s : Sn) (o : Int) (k : Nat) : List Int := ((List.range k).filter fun m => (s.mks[m]?).elim false fun x => x.oven == o).map Int.ofNat
def mksAt (s : Sn) (o : Int) : List Int := atTo s o s.mks.length
theorem atTo_step {s : Sn} {o : Int} {k : Nat} (hk : k < s.mks.length) : atTo s o (k + 1) = atTo s o k ++ (if s.mks[k].oven = o then [(k : Int)] else []) := by
  unfold atTo
  rw [List.range_succ, List.filter_append, List.map_append]
  congr 1
  simp only [List.filter_cons, List.filter_nil, List.getElem?_eq_getElem hk, Option.elim_some, beq_iff_eq]
  split <;> simp
theorem atTo_len (s : Sn) (o : Int) (k : Nat) : (atTo s o k).length ≤ k := by
  unfold atTo
  rw [List.length_map]
  exact Nat.le_trans (List.length_filter_le _ _) (by simp)
theorem mksAt_ok (s : Sn) (o : Int) : MsOk s (mksAt s o) := fun m hm => by
  unfold mksAt atTo at hm
  simp only [List.mem_map, List.mem_filter, List.mem_range] at hm
  obtain ⟨n, ⟨h1, -⟩, rfl⟩ := hm
  exact ⟨Int.natCast_nonneg _, by show (n : Int) < _; omega⟩

set_option maxHeartbeats 4000000 in
set_option maxRecDepth 100000 in
theorem makersAt_any (s : Sn) (d : SA) (o : Int) (w : World) (h : SnD w s d) (hnm : s.mks.length ≤ 6) :
    Calls Try.prog 56 #[.agg #[.int .i64 s.days, .slice d.a1 s.arts.length d.c1, .slice d.a2 s.ovens.length d.c2, .slice d.a3 s.mks.length d.c3, .slice d.a4 s.jobs.length d.c4, .slice d.a5 s.cols.length d.c5, .slice d.a6 s.ods.length d.c6], .int .i64 o] w fun e w' => (∃ v, e = .returned v ∧ RInts (vis (w.heap.size ≤ ·) w') v (mksAt s o)) ∧ Below w.heap.size w w' := by
  obtain ⟨ii, hi, hzz⟩ := Option.map_eq_some_iff.1 info_int
  obtain ⟨hz0, hz1⟩ := Prod.mk.inj hzz
  obtain ⟨hz1, hz2⟩ := Prod.mk.inj hz1
  clear hzz
  have hrm := h.mks
  have hA := below_box w (.cells #[.int .i64 s.days, .slice d.a1 s.arts.length d.c1, .slice d.a2 s.ovens.length d.c2, .slice d.a3 s.mks.length d.c3, .slice d.a4 s.jobs.length d.c4, .slice d.a5 s.cols.length d.c5, .slice d.a6 s.ods.length d.c6] 28)
  have hB := Blk.new w #[.int .i64 s.days, .slice d.a1 s.arts.length d.c1, .slice d.a2 s.ovens.length d.c2, .slice d.a3 s.mks.length d.c3, .slice d.a4 s.jobs.length d.c4, .slice d.a5 s.cols.length d.c5, .slice d.a6 s.ods.length d.c6] 28
  clear h
  go_enter Try.func56, Try.ntmps56
  go_wp2
  generalize w.alloc (.cells #[.int .i64 s.days, .slice d.a1 s.arts.length d.c1, .slice d.a2 s.ovens.length d.c2, .slice d.a3 s.mks.length d.c3, .slice d.a4 s.jobs.length d.c4, .slice d.a5 s.cols.length d.c5, .slice d.a6 s.ods.length d.c6] 28) = W at *
  have hWs := hB.lt
  go_loopw [5, 11] (fun v i wr => ∃ (k : Nat) (l : List Int), k ≤ s.mks.length ∧ i = .int .i64 k ∧ Hid (l = atTo s o k) ∧ wr.ownsRow W.heap.size 3 1 v l.length (l.map (Value.int .i64)) ∧ Below W.heap.size W wr) (fun _ i _ => s.mks.length - (intOf i).toNat)
  case atStart => exact ⟨0, [], Nat.zero_le _, rfl, Lib.hid rfl, World.ownsRow_nil _ _ _ _, Below.refl _ _⟩
  case round =>
    obtain ⟨k, l, hk, rfl, hx, hown, hb⟩ := hrel
    have hE := hA.trans (hb.mono (by omega))
    have hsz := hb.size
    have hll : l.length ≤ 6 := by rw [hx.out]; exact Nat.le_trans (atTo_len _ _ _) (by omega)
    by_cases hlt : k < s.mks.length
    · have hst := atTo_step (o := o) hlt
      obtain ⟨a', c', he, -, -, hl⟩ := id hrm
      simp only [Value.slice.injEq, true_and] at he
      obtain ⟨rfl, rfl⟩ := he
      obtain ⟨b1, o1, he1, v1, ⟨q0, q1, q2, q3⟩, -, hr1, -⟩ := hl k hlt
      obtain ⟨ar, cr, rfl⟩ := hr1.shape
      have k0 := ext_of_below hE _ _ q0
      have k1 := ext_of_below hE _ _ q1
      have k2 := ext_of_below hE _ _ q2
      have k3 := ext_of_below hE _ _ q3
      have l1 := cell_lt q0
      simp only at k0 k1 k2 k3 l1
      have j1 : (0 : Int) ≤ (k : Int) := Int.natCast_nonneg _
      have j2 : (k : Int) < (s.mks.length : Int) := by omega
      rw [he1]
      clear hl q0 q1 q2 q3 hr1 hA hB
      generalize s.mks[k] = x at *
      by_cases hxo : x.oven = o
      · have hq : (x.oven == o) = true := beq_iff_eq.2 hxo
        have HX : Hid (l ++ [(k : Int)] = atTo s o (k + 1)) := Lib.hid (by rw [hst, if_pos hxo, hx.out])
        clear hst hx hxo
        have hown1 := hown.alloc (.cells #[.int .i64 x.oven, .slice ar x.rates.length cr, .int .i64 x.idle, .int .i64 x.start] 53)
        have hown2 := hown1.alloc (.cells #[.int .i64 k] 3)
        have hlt4 : ∀ q, u5.ownBlock = some q → W.heap.size ≤ q ∧ q < wr.heap.size := fun q hq => hown.lt q hq
        have HB2 := Lib.hid ((hb.alloc (by omega) (.cells #[.int .i64 x.oven, .slice ar x.rates.length cr, .int .i64 x.idle, .int .i64 x.start] 53)).alloc (by simp; omega) (.cells #[.int .i64 k] 3))
        clear hown1 hown hb
        go_wp2_with (at_builtin; refine wpList_append_lies _ rfl _ _ 30 rfl W.heap.size 3 ii (.int .i64 0) 1 8 Try.underlying30 hi hz0 hz1 hz2 rfl (by decide) _ l.length _ rfl hown2 ⟨wr.heap.size + 1, 0, none⟩ 1 1 [.int .i64 k] rfl rfl (by have := cell_one_new (wr.alloc (.cells #[.int .i64 x.oven, .slice ar x.rates.length cr, .int .i64 x.idle, .int .i64 x.start] 53)) (.int .i64 k) 3; simpa using this) (by simp [Value.oneCell']) (by omega) (by unfold maxLen; omega) (by omega) (by simp; omega) _ rfl ?_; intro g6 k6 w6 hown6 hgrow6 hat6 hlt6)
        have hgw : ((wr.alloc (.cells #[.int .i64 x.oven, .slice ar x.rates.length cr, .int .i64 x.idle, .int .i64 x.start] 53)).alloc (.cells #[.int .i64 k] 3)).grownBy w6 u5.ownBlock := hgrow6
        have hb7 := HB2.out.grown hgw (by simp; omega) (fun q hq => by have := hlt4 q hq; omega)
        have hownF : w6.ownsRow W.heap.size 3 1 (.slice (some ⟨g6, 0, none⟩) (l.length + 1) k6) (l ++ [(k : Int)]).length ((l ++ [(k : Int)]).map (Value.int .i64)) := by simpa using hown6
        clear hown6 hown2 hgrow6 hat6 hgw HB2
        go_roundw
        case rel => exact ⟨k + 1, _, by omega, by go_num, HX, by simpa using hownF, hb7⟩
        case measure => simp [intOf]; omega
      · have hq : (x.oven == o) = false := by rw [beq_eq_false_iff_ne]; exact hxo
        have HX : Hid (l = atTo s o (k + 1)) := Lib.hid (by rw [hst, if_neg hxo, List.append_nil, hx.out])
        have hown1 := hown.alloc (.cells #[.int .i64 x.oven, .slice ar x.rates.length cr, .int .i64 x.idle, .int .i64 x.start] 53)
        have HB := Lib.hid (hb.alloc (by omega) (.cells #[.int .i64 x.oven, .slice ar x.rates.length cr, .int .i64 x.idle, .int .i64 x.start] 53))
        clear hst hx hxo hown hb
        go_wp2
        go_roundw
        case rel => exact ⟨k + 1, l, by omega, by go_num, HX, hown1, HB.out⟩
        case measure => simp [intOf]; omega
    · obtain rfl : k = s.mks.length := by omega
      have HX : Hid (l = mksAt s o) := hx
      have HR : Hid (RInts (vis (w.heap.size ≤ ·) wr) u5 (mksAt s o)) := Lib.hid (by
        rw [← HX.out]
        refine own_RInts (own_vis hown (fun q hq => by have := (hown.lt q hq).1; omega)) (by omega) (fun y hy => ?_)
        rw [HX.out] at hy
        have := mksAt_ok s o y hy
        unfold I64; omega)
      clear hx HX hown
      go_wp2
      go_ret
      exact ⟨⟨_, rfl, HR.out⟩, hE⟩
end Go.Proofs.Ytdffhkbncencgaa
