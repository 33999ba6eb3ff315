/- Package batch, by contracts, as far as layer 5 reaches it; no statement is proved here. -/
import Derived.Test.YtmmlocjiegkjeaaGreatDoorData
import Derived.PlainAid
import Derived.Deep.RegionHeld3
import Derived.Deep.DeepCutAuto
import Derived.Deep.AppendLies
import Derived.Deep.RegionLaw
import Derived.Laws.EntriesVeiled
import Derived.WalkLawsBesides
import Derived.Deep.Slices
import Derived.SizedLaws
import Derived.ProofKit
import Derived.WalkKit
import Derived.JoinedCond
import Derived.StillTailTactics
import Derived.BigRegion
import Derived.Deep.QuietTactic
import Derived.BigQuiet
import Derived.Maps.AppendAt
import Derived.Deep.OwnRows
namespace Go.Proofs.YtmmlocjiegkjeaaGreatDoor.B1

open Go.RowKit

set_option linter.unusedVariables false

theorem between_any (n a b : Int) (w : World) :
    Calls Tryz.prog 45 #[.int .i64 n, .int .i64 a, .int .i64 b] w fun e w' => e = .returned (.bool (decide (a ≤ n) && decide (n ≤ b))) ∧ w = w' := by
  go_enter Tryz.func45, Tryz.ntmps45
  go_wp2
  all_goals go_ret
  all_goals (refine ⟨?_, rfl⟩; simp; try omega)

theorem within_any (l h a b : Int) (w : World) :
    Calls Tryz.prog 82 #[.agg #[.int .i64 l, .int .i64 h], .int .i64 a, .int .i64 b] w fun e w' => e = .returned (.bool (decide (a ≤ l) && decide (l ≤ h) && decide (h ≤ b))) ∧ Below w.heap.size w w' := by
  go_enter Tryz.func82, Tryz.ntmps82
  go_wp2
  all_goals go_ret
  all_goals (refine ⟨?_, by go_grown⟩; simp; try omega)

theorem low_any (l h : Int) (w : World) :
    Calls Tryz.prog 65 #[.agg #[.int .i64 l, .int .i64 h]] w fun e w' => e = .returned (.int .i64 l) ∧ Below w.heap.size w w' := by
  go_enter Tryz.func65, Tryz.ntmps65
  go_wp2
  all_goals go_ret
  all_goals exact ⟨rfl, by go_grown⟩

theorem high_any (l h : Int) (w : World) :
    Calls Tryz.prog 66 #[.agg #[.int .i64 l, .int .i64 h]] w fun e w' => e = .returned (.int .i64 h) ∧ Below w.heap.size w w' := by
  go_enter Tryz.func66, Tryz.ntmps66
  go_wp2
  all_goals go_ret
  all_goals exact ⟨rfl, by go_grown⟩

/-- rounding down and up. -/
theorem down_any (a b : Int) (w : World) (ha : -9223372036854775807 ≤ a ∧ a ≤ 9223372036854775807) (hb : 0 < b ∧ b ≤ 9223372036854775807) :
    Calls Tryz.prog 102 #[.int .i64 a, .int .i64 b] w fun e w' => e = .returned (.int .i64 (a / b)) ∧ w = w' := by
  obtain ⟨ha1, ha2⟩ := ha
  obtain ⟨hb1, hb2⟩ := hb
  go_enter Tryz.func102, Tryz.ntmps102
  have hq : -9223372036854775807 ≤ a.tdiv b ∧ a.tdiv b ≤ 9223372036854775807 := by
    have h1 := Int.natAbs_tdiv_le_natAbs a b
    constructor <;> omega
  go_wp2
  all_goals go_ret
  · rename_i hlt
    refine ⟨ret_int ?_, rfl⟩
    rw [← fdiv_neg a b hb1 hlt]
  · rename_i hlt
    exact ⟨ret_int (fdiv_pos a b hb1 hlt), rfl⟩

theorem up_any (a b : Int) (w : World) (ha : -9223372036854775807 ≤ a ∧ a ≤ 9223372036854775807) (hb : 0 < b ∧ b ≤ 9223372036854775807) :
    Calls Tryz.prog 84 #[.int .i64 a, .int .i64 b] w fun e w' => e = .returned (.int .i64 (-(-a / b))) ∧ w = w' := by
  have hd := down_any (-a) b
  have hq : -9223372036854775807 ≤ (-a) / b ∧ (-a) / b ≤ 9223372036854775807 := by
    have h1 := Int.natAbs_ediv_le_natAbs (-a) b
    omega
  obtain ⟨ha1, ha2⟩ := ha
  obtain ⟨hb1, hb2⟩ := hb
  obtain ⟨hq1, hq2⟩ := hq
  go_enter Tryz.func84, Tryz.ntmps84
  go_wp2_with (go_at_call 102; refine (hd _ (by omega) (by omega)).mono ?_; rintro e w' ⟨rfl, rfl⟩)
  go_ret
  exact ⟨rfl, rfl⟩

theorem isLetter_any (n : Int) (w : World) :
    Calls Tryz.prog 103 #[.int .u8 n] w fun e w' => e = .returned (.bool (decide (97 ≤ n) && decide (n ≤ 122))) ∧ w = w' := by
  go_enter Tryz.func103, Tryz.ntmps103
  go_wp2
  all_goals go_ret
  all_goals (refine ⟨?_, rfl⟩; simp; try omega)

end Go.Proofs.YtmmlocjiegkjeaaGreatDoor.B1

namespace Go.Proofs.YtmmlocjiegkjeaaGreatDoor.B1

open Go.RowKit

set_option linter.unusedVariables false

theorem sum_snoc (l : List Int) (x : Int) : (l ++ [x]).sum = l.sum + x := by
  induction l with
  | nil => simp
  | cons a l ih => simp [ih]; omega

theorem sum_step (g : Sp → Int) (l : List Sp) (k : Nat) (h : k < l.length) (x : Int) (hx : x = wrap64 ((l.take k).map g).sum) : wrap64 (x + g l[k]) = wrap64 ((l.take (k + 1)).map g).sum := by
  rw [hx, wrap_add, List.take_succ_eq_append_getElem h, List.map_append, List.map_singleton, sum_snoc]

set_option maxRecDepth 100000 in
theorem sum_any (f : Nat) (hF : IsFn f) (g : Sp → Int) (v : Value) (l : List Sp) (w : World) (h : RSps w v l)
    (hf : ∀ s : Sp, s ∈ l → ∀ w1, Calls Tryz.prog f #[.agg #[.int .i64 s.lo, .int .i64 s.hi]] w1 fun e w2 => e = .returned (.int .i64 (g s)) ∧ Below w1.heap.size w1 w2) :
    Calls Tryz.prog 64 #[v, .func (.func f) #[] #[]] w fun e w' => e = .returned (.int .i64 (wrap64 (l.map g).sum)) ∧ Below w.heap.size w w' := by
  obtain ⟨a, cap, rfl, hc1, ⟨hc2, hm⟩, hl⟩ := h
  go_enter Tryz.func64, Tryz.ntmps64
  go_wp2
  go_loopw [5, 10] (fun n i wr => ∃ (k : Nat) (x : Int), k ≤ l.length ∧ i = .int .i64 k ∧ n = .int .i64 x ∧ Hid (x = wrap64 ((l.take k).map g).sum) ∧ Below w.heap.size w wr) (fun _ i _ => l.length - (intOf i).toNat)
  case atStart => exact ⟨0, 0, Nat.zero_le _, rfl, rfl, by simp [wrap64, Hid], Below.refl _ _⟩
  case round =>
    obtain ⟨k, x, hk, rfl, rfl, hx, hb⟩ := hrel
    by_cases hlt : k < l.length
    · obtain ⟨b, off, rfl, h1, h2, h3, h4⟩ := hl k hlt
      have hbl := cell_lt h1
      have hf' := hf l[k] (List.getElem_mem hlt)
      obtain ⟨hc, hz⟩ := bcell hb
      simp only at h1 h2 hbl
      have hst := Lib.hid (sum_step g l k hlt x hx.out)
      clear hf hl hc1 h3 h4
      generalize l[k] = s at *
      unfold IsFn at hF
      go_wp2_with fail
      refine (hf' _).mono ?_
      rintro e w1 ⟨rfl, hb1⟩
      go_wp2
      go_roundw
      case rel => exact ⟨k + 1, _, by omega, by go_num, rfl, hst, (hb.alloc hb.size _).trans (hb1.mono (by have := hb.size; simp; omega))⟩
      case measure => simp [intOf]; omega
    · go_wp2
      go_ret
      refine ⟨ret_int ?_, hb⟩
      rw [hx.out, List.take_of_length_le (by omega)]

theorem isFn_low : IsFn 65 := fun xs w => by kernel_rfl

theorem isFn_high : IsFn 66 := fun xs w => by kernel_rfl

def tot (l : List Sp) : Sp := ⟨wrap64 (l.map Sp.lo).sum, wrap64 (l.map Sp.hi).sum⟩

theorem total_any (v : Value) (l : List Sp) (w : World) (h : RSps w v l) :
    Calls Tryz.prog 47 #[v] w fun e w' => e = .returned (.agg #[.int .i64 (tot l).lo, .int .i64 (tot l).hi]) ∧ Below w.heap.size w w' := by
  go_enter Tryz.func47, Tryz.ntmps47
  go_wp2_with fail
  refine (sum_any _ isFn_low Sp.lo v l _ (h.mono (ext_of_below (by go_grown))) (fun s _ w1 => low_any _ _ _)).mono ?_
  rintro e w1 ⟨rfl, hb1⟩
  go_wp2_with fail
  refine (sum_any _ isFn_high Sp.hi v l _ (h.mono (ext_of_below ((Below.alloc (Below.refl _ _) (Nat.le_refl _) _).trans (hb1.mono (by simp))))) (fun s _ w1 => high_any _ _ _)).mono ?_
  rintro e w2 ⟨rfl, hb2⟩
  have B2 := ((Blk.new w #[.int .i64 0, .int .i64 0] 30).below hb1 (by simp)).below hb2 (by have := hb1.size; simp at this; omega)
  have hB := ((Below.alloc (Below.refl w.heap.size w) (Nat.le_refl _) (.cells #[.int .i64 0, .int .i64 0] 30)).trans (hb1.mono (by simp))).trans (hb2.mono (by have := hb1.size; simp at this; omega))
  have c0 := B2.cell 0 _ rfl
  have c1 := B2.cell 1 _ rfl
  have f0 := B2.frozen 0
  have f1 := B2.frozen 1
  simp only [List.getElem_toArray, List.getElem_cons_zero, List.getElem_cons_succ] at c0 c1
  clear hb1 hb2
  go_wp2
  have B3 := (B2.set 0 (.int .i64 (wrap64 (l.map Sp.lo).sum))).set 1 (.int .i64 (wrap64 (l.map Sp.hi).sum))
  have d0 := B3.cell 0 (.int .i64 (wrap64 (l.map Sp.lo).sum)) rfl
  have d1 := B3.cell 1 (.int .i64 (wrap64 (l.map Sp.hi).sum)) rfl
  exact bodyPost_ret (v := .agg #[.int .i64 (wrap64 (l.map Sp.lo).sum), .int .i64 (wrap64 (l.map Sp.hi).sum)]) (by simp only [results, Tryz.results47]; simp [go_sem, d0, d1]) rfl ⟨rfl, by go_grown⟩

end Go.Proofs.YtmmlocjiegkjeaaGreatDoor.B1

namespace Go.Proofs.YtmmlocjiegkjeaaGreatDoor.B1

open Go.RowKit

set_option linter.unusedVariables false

/-- what a call of a closure answers of the elements of a list that reads in w. -/
def Tells {α : Type} (f : Nat) (cap : Array Value) (V : World → Value → α → Prop) (w : World) (l : List α) (p : α → Bool) : Prop :=
  ∀ x v w1, x ∈ l → V w v x → Below w.heap.size w w1 → Calls Tryz.prog f (#[v] ++ cap) w1 fun e w2 => e = .returned (.bool (p x)) ∧ Below w1.heap.size w1 w2

theorem any_take {α : Type} (l : List α) (p : α → Bool) (k : Nat) (hk : k < l.length) (h : (l.take k).any p = false) : (l.take (k + 1)).any p = p l[k] := by
  rw [List.take_succ_eq_append_getElem hk, List.any_append, h]; simp

theorem any_of {α : Type} (l : List α) (p : α → Bool) (k : Nat) (hk : k < l.length) (h : p l[k] = true) : l.any p = true := List.any_eq_true.2 ⟨_, List.getElem_mem hk, h⟩

def VInt (_ : World) (v : Value) (x : Int) : Prop := v = .int .i64 x ∧ I64 x

def VSp (_ : World) (v : Value) (s : Sp) : Prop := v = .agg #[.int .i64 s.lo, .int .i64 s.hi] ∧ I64 s.lo ∧ I64 s.hi

def VMat (w : World) (v : Value) (m : Mat) : Prop :=
  ∃ c, v = .agg #[.string m.name, .int .i64 m.price, .int .i64 m.redox, .int .i64 m.least, .int .i64 m.most, .int .i64 m.step, c] ∧ RSps w c m.content ∧ m.name.size ≤ 140737488351232 ∧ I64 m.price ∧ I64 m.redox ∧ I64 m.least ∧ I64 m.most ∧ I64 m.step

def VPrp (w : World) (v : Value) (m : Prp) : Prop :=
  ∃ c, v = .agg #[.string m.name, c, .int .i64 m.target.lo, .int .i64 m.target.hi] ∧ RInts w c m.coefs ∧ m.name.size ≤ 140737488351232 ∧ I64 m.target.lo ∧ I64 m.target.hi

theorem VMat.mono {w w' : World} (e : Ext w w') {v : Value} {x : Mat} (h : VMat w v x) : VMat w' v x := by
  obtain ⟨c, h0, h1, h2⟩ := h
  exact ⟨c, h0, h1.mono e, h2⟩

theorem VPrp.mono {w w' : World} (e : Ext w w') {v : Value} {x : Prp} (h : VPrp w v x) : VPrp w' v x := by
  obtain ⟨c, h0, h1, h2⟩ := h
  exact ⟨c, h0, h1.mono e, h2⟩

set_option maxRecDepth 100000 in
theorem indexFunc_int (f : Nat) (hF : IsFn f) (cap : Array Value) (p : Int → Bool) (v : Value) (l : List Int) (w : World) (h : RInts w v l) (hf : Tells f cap VInt w l p) :
    Calls Tryz.prog 108 #[v, .func (.func f) #[] cap] w fun e w' => ∃ n : Int, e = .returned (.int .i64 n) ∧ decide (0 ≤ n) = l.any p ∧ Below w.heap.size w w' := by
  obtain ⟨a, kap, rfl, hc1, ⟨hc2, hm⟩, hl⟩ := h
  go_enter Tryz.func108, Tryz.ntmps108
  go_wp2
  go_loopw [8] (fun i wr => ∃ (k : Nat), k ≤ l.length ∧ i = .int .i64 k ∧ Hid ((l.take k).any p = false) ∧ Below w.heap.size w wr) (fun i _ => l.length - (intOf i).toNat)
  case atStart => exact ⟨0, Nat.zero_le _, rfl, by simp [Hid], Below.refl _ _⟩
  case round =>
    obtain ⟨k, hk, rfl, hx, hb⟩ := hrel
    by_cases hlt : k < l.length
    · obtain ⟨b, off, rfl, h1, h2⟩ := hl k hlt
      have hbl := cell_lt h1
      have hf' := hf l[k] (.int .i64 l[k]) _ (List.getElem_mem hlt) (⟨rfl, h2⟩) hb
      obtain ⟨hc, hz⟩ := bcell hb
      simp only [Nat.mul_one] at h1 hbl
      have hst := Lib.hid (any_take l p k hlt hx.out)
      have hfi := any_of l p k hlt
      clear hf hl hc1 h2
      generalize l[k] = s at *
      have HFI := Lib.hid hfi
      clear hfi
      unfold IsFn at hF
      go_wp2_with fail
      refine hf'.mono ?_
      rintro e w1 ⟨rfl, hb1⟩
      have hB := hb.trans (hb1.mono hb.size)
      cases hp : p s with
      | false =>
        go_wp2
        go_roundw
        case rel => exact ⟨k + 1, by omega, by go_num, hst.out.trans hp, hB⟩
        case measure => simp [intOf]; omega
      | true =>
        go_wp2
        go_ret
        exact ⟨_, rfl, by rw [HFI.out hp]; simp, hB⟩
    · go_wp2
      go_ret
      refine ⟨_, rfl, ?_, hb⟩
      have := hx.out
      rw [List.take_of_length_le (by omega)] at this
      rw [this]; rfl

theorem containsFunc_int (f : Nat) (hF : IsFn f) (cap : Array Value) (p : Int → Bool) (v : Value) (l : List Int) (w : World) (h : RInts w v l) (hf : Tells f cap VInt w l p) :
    Calls Tryz.prog 100 #[v, .func (.func f) #[] cap] w fun e w' => e = .returned (.bool (l.any p)) ∧ Below w.heap.size w w' := by
  go_enter Tryz.func100, Tryz.ntmps100
  go_wp2_with fail
  refine (indexFunc_int f hF cap p v l _ h hf).mono ?_
  rintro e w1 ⟨n, rfl, hn, hb1⟩
  have HN := Lib.hid hn
  clear hn
  go_wp2
  go_ret
  exact ⟨ret_bool HN.out, hb1⟩

set_option maxRecDepth 100000 in
theorem indexFunc_sp (f : Nat) (hF : IsFn f) (cap : Array Value) (p : Sp → Bool) (v : Value) (l : List Sp) (w : World) (h : RSps w v l) (hf : Tells f cap VSp w l p) :
    Calls Tryz.prog 106 #[v, .func (.func f) #[] cap] w fun e w' => ∃ n : Int, e = .returned (.int .i64 n) ∧ decide (0 ≤ n) = l.any p ∧ Below w.heap.size w w' := by
  obtain ⟨a, kap, rfl, hc1, ⟨hc2, hm⟩, hl⟩ := h
  go_enter Tryz.func106, Tryz.ntmps106
  go_wp2
  go_loopw [8] (fun i wr => ∃ (k : Nat), k ≤ l.length ∧ i = .int .i64 k ∧ Hid ((l.take k).any p = false) ∧ Below w.heap.size w wr) (fun i _ => l.length - (intOf i).toNat)
  case atStart => exact ⟨0, Nat.zero_le _, rfl, by simp [Hid], Below.refl _ _⟩
  case round =>
    obtain ⟨k, hk, rfl, hx, hb⟩ := hrel
    by_cases hlt : k < l.length
    · obtain ⟨b, off, rfl, h1, h2, h3, h4⟩ := hl k hlt
      have hbl := cell_lt h1
      have hf' := hf l[k] (.agg #[.int .i64 l[k].lo, .int .i64 l[k].hi]) _ (List.getElem_mem hlt) (⟨rfl, h3, h4⟩) hb
      obtain ⟨hc, hz⟩ := bcell hb
      simp only at h1 h2 hbl
      have hst := Lib.hid (any_take l p k hlt hx.out)
      have hfi := any_of l p k hlt
      clear hf hl hc1 h3 h4
      generalize l[k] = s at *
      have HFI := Lib.hid hfi
      clear hfi
      unfold IsFn at hF
      go_wp2_with fail
      refine hf'.mono ?_
      rintro e w1 ⟨rfl, hb1⟩
      have hB := hb.trans (hb1.mono hb.size)
      cases hp : p s with
      | false =>
        go_wp2
        go_roundw
        case rel => exact ⟨k + 1, by omega, by go_num, hst.out.trans hp, hB⟩
        case measure => simp [intOf]; omega
      | true =>
        go_wp2
        go_ret
        exact ⟨_, rfl, by rw [HFI.out hp]; simp, hB⟩
    · go_wp2
      go_ret
      refine ⟨_, rfl, ?_, hb⟩
      have := hx.out
      rw [List.take_of_length_le (by omega)] at this
      rw [this]; rfl

theorem containsFunc_sp (f : Nat) (hF : IsFn f) (cap : Array Value) (p : Sp → Bool) (v : Value) (l : List Sp) (w : World) (h : RSps w v l) (hf : Tells f cap VSp w l p) :
    Calls Tryz.prog 96 #[v, .func (.func f) #[] cap] w fun e w' => e = .returned (.bool (l.any p)) ∧ Below w.heap.size w w' := by
  go_enter Tryz.func96, Tryz.ntmps96
  go_wp2_with fail
  refine (indexFunc_sp f hF cap p v l _ h hf).mono ?_
  rintro e w1 ⟨n, rfl, hn, hb1⟩
  have HN := Lib.hid hn
  clear hn
  go_wp2
  go_ret
  exact ⟨ret_bool HN.out, hb1⟩

set_option maxRecDepth 100000 in
theorem indexFunc_mat (f : Nat) (hF : IsFn f) (cap : Array Value) (p : Mat → Bool) (v : Value) (l : List Mat) (w : World) (h : RMats w v l) (hf : Tells f cap VMat w l p) :
    Calls Tryz.prog 105 #[v, .func (.func f) #[] cap] w fun e w' => ∃ n : Int, e = .returned (.int .i64 n) ∧ decide (0 ≤ n) = l.any p ∧ Below w.heap.size w w' := by
  obtain ⟨a, kap, rfl, hc1, ⟨hc2, hm⟩, hl⟩ := h
  go_enter Tryz.func105, Tryz.ntmps105
  go_wp2
  go_loopw [8] (fun i wr => ∃ (k : Nat), k ≤ l.length ∧ i = .int .i64 k ∧ Hid ((l.take k).any p = false) ∧ Below w.heap.size w wr) (fun i _ => l.length - (intOf i).toNat)
  case atStart => exact ⟨0, Nat.zero_le _, rfl, by simp [Hid], Below.refl _ _⟩
  case round =>
    obtain ⟨k, hk, rfl, hx, hb⟩ := hrel
    by_cases hlt : k < l.length
    · obtain ⟨b, off, rfl, c, ⟨h0, h1, h2, h3, h4, h5, h6⟩, h7, h8⟩ := hl k hlt
      have hbl := cell_lt h0
      have hf' := hf l[k] (.agg #[.string l[k].name, .int .i64 l[k].price, .int .i64 l[k].redox, .int .i64 l[k].least, .int .i64 l[k].most, .int .i64 l[k].step, c]) _ (List.getElem_mem hlt) (⟨c, rfl, h7, h8⟩) hb
      obtain ⟨hc, hz⟩ := bcell hb
      simp only at h0 h1 h2 h3 h4 h5 h6 hbl
      have hst := Lib.hid (any_take l p k hlt hx.out)
      have hfi := any_of l p k hlt
      clear hf hl hc1 h7 h8
      generalize l[k] = s at *
      have HFI := Lib.hid hfi
      clear hfi
      unfold IsFn at hF
      go_wp2_with fail
      refine hf'.mono ?_
      rintro e w1 ⟨rfl, hb1⟩
      have hB := hb.trans (hb1.mono hb.size)
      cases hp : p s with
      | false =>
        go_wp2
        go_roundw
        case rel => exact ⟨k + 1, by omega, by go_num, hst.out.trans hp, hB⟩
        case measure => simp [intOf]; omega
      | true =>
        go_wp2
        go_ret
        exact ⟨_, rfl, by rw [HFI.out hp]; simp, hB⟩
    · go_wp2
      go_ret
      refine ⟨_, rfl, ?_, hb⟩
      have := hx.out
      rw [List.take_of_length_le (by omega)] at this
      rw [this]; rfl

theorem containsFunc_mat (f : Nat) (hF : IsFn f) (cap : Array Value) (p : Mat → Bool) (v : Value) (l : List Mat) (w : World) (h : RMats w v l) (hf : Tells f cap VMat w l p) :
    Calls Tryz.prog 93 #[v, .func (.func f) #[] cap] w fun e w' => e = .returned (.bool (l.any p)) ∧ Below w.heap.size w w' := by
  go_enter Tryz.func93, Tryz.ntmps93
  go_wp2_with fail
  refine (indexFunc_mat f hF cap p v l _ h hf).mono ?_
  rintro e w1 ⟨n, rfl, hn, hb1⟩
  have HN := Lib.hid hn
  clear hn
  go_wp2
  go_ret
  exact ⟨ret_bool HN.out, hb1⟩

set_option maxRecDepth 100000 in
theorem indexFunc_prp (f : Nat) (hF : IsFn f) (cap : Array Value) (p : Prp → Bool) (v : Value) (l : List Prp) (w : World) (h : RPrps w v l) (hf : Tells f cap VPrp w l p) :
    Calls Tryz.prog 107 #[v, .func (.func f) #[] cap] w fun e w' => ∃ n : Int, e = .returned (.int .i64 n) ∧ decide (0 ≤ n) = l.any p ∧ Below w.heap.size w w' := by
  obtain ⟨a, kap, rfl, hc1, ⟨hc2, hm⟩, hl⟩ := h
  go_enter Tryz.func107, Tryz.ntmps107
  go_wp2
  go_loopw [8] (fun i wr => ∃ (k : Nat), k ≤ l.length ∧ i = .int .i64 k ∧ Hid ((l.take k).any p = false) ∧ Below w.heap.size w wr) (fun i _ => l.length - (intOf i).toNat)
  case atStart => exact ⟨0, Nat.zero_le _, rfl, by simp [Hid], Below.refl _ _⟩
  case round =>
    obtain ⟨k, hk, rfl, hx, hb⟩ := hrel
    by_cases hlt : k < l.length
    · obtain ⟨b, off, rfl, c, ⟨h0, h1, h2, h3⟩, h7, h8⟩ := hl k hlt
      have hbl := cell_lt h0
      have hf' := hf l[k] (.agg #[.string l[k].name, c, .int .i64 l[k].target.lo, .int .i64 l[k].target.hi]) _ (List.getElem_mem hlt) (⟨c, rfl, h7, h8⟩) hb
      obtain ⟨hc, hz⟩ := bcell hb
      simp only at h0 h1 h2 h3 hbl
      have hst := Lib.hid (any_take l p k hlt hx.out)
      have hfi := any_of l p k hlt
      clear hf hl hc1 h7 h8
      generalize l[k] = s at *
      have HFI := Lib.hid hfi
      clear hfi
      unfold IsFn at hF
      go_wp2_with fail
      refine hf'.mono ?_
      rintro e w1 ⟨rfl, hb1⟩
      have hB := hb.trans (hb1.mono hb.size)
      cases hp : p s with
      | false =>
        go_wp2
        go_roundw
        case rel => exact ⟨k + 1, by omega, by go_num, hst.out.trans hp, hB⟩
        case measure => simp [intOf]; omega
      | true =>
        go_wp2
        go_ret
        exact ⟨_, rfl, by rw [HFI.out hp]; simp, hB⟩
    · go_wp2
      go_ret
      refine ⟨_, rfl, ?_, hb⟩
      have := hx.out
      rw [List.take_of_length_le (by omega)] at this
      rw [this]; rfl

theorem containsFunc_prp (f : Nat) (hF : IsFn f) (cap : Array Value) (p : Prp → Bool) (v : Value) (l : List Prp) (w : World) (h : RPrps w v l) (hf : Tells f cap VPrp w l p) :
    Calls Tryz.prog 98 #[v, .func (.func f) #[] cap] w fun e w' => e = .returned (.bool (l.any p)) ∧ Below w.heap.size w w' := by
  go_enter Tryz.func98, Tryz.ntmps98
  go_wp2_with fail
  refine (indexFunc_prp f hF cap p v l _ h hf).mono ?_
  rintro e w1 ⟨n, rfl, hn, hb1⟩
  have HN := Lib.hid hn
  clear hn
  go_wp2
  go_ret
  exact ⟨ret_bool HN.out, hb1⟩

end Go.Proofs.YtmmlocjiegkjeaaGreatDoor.B1

namespace Go.Proofs.YtmmlocjiegkjeaaGreatDoor.B1

open Go.RowKit Go.PlainAid

set_option linter.unusedVariables false

def letB (c : Int) : Bool := decide (97 ≤ c) && decide (c ≤ 122)

def chB (c : Int) : Bool := letB c || c == 45 || (decide (48 ≤ c) && decide (c ≤ 57))

/-- the bytes of a string from place k on are those of a name. -/
def chsB (s : ByteArray) (k : Nat) : Bool := (List.range' k (s.size - k)).all fun i => chB (bt s i)

def nameB (s : ByteArray) : Bool := decide (1 ≤ s.size) && decide (s.size ≤ 16) && letB (bt s 0) && chsB s 0

theorem chsB_end (s : ByteArray) (k : Nat) (h : s.size ≤ k) : chsB s k = true := by unfold chsB; rw [show s.size - k = 0 from by omega]; rfl

theorem chsB_step (s : ByteArray) (k : Nat) (h : k < s.size) : chsB s k = (chB (bt s k) && chsB s (k + 1)) := by
  unfold chsB
  obtain ⟨n, hn⟩ : ∃ n, s.size - k = n + 1 := ⟨s.size - k - 1, by omega⟩
  rw [hn, show s.size - (k + 1) = n from by omega, List.range'_succ, List.all_cons]

theorem letter_any (n : Int) (w : World) :
    Calls Tryz.prog 103 #[.int .u8 n] w fun e w' => e = .returned (.bool (letB n)) ∧ w = w' := isLetter_any n w

set_option maxRecDepth 100000 in
theorem isName_any (s : ByteArray) (w : World) (hm : s.size ≤ 140737488351232) :
    Calls Tryz.prog 91 #[.string s] w fun e w' => e = .returned (.bool (nameB s)) ∧ w = w' := by
  by_cases h0 : s.size = 0
  · have hn : nameB s = false := by simp [nameB, h0]
    rw [hn]
    have h1 : ((s.size : Int) == 0) = true := by simp [h0]
    clear hn
    go_enter Tryz.func91, Tryz.ntmps91
    go_wp2
    go_ret
    exact ⟨rfl, rfl⟩
  have h1 : ((s.size : Int) == 0) = false := by simp [h0]
  by_cases h16 : 16 < s.size
  · have hn : nameB s = false := by unfold nameB; rw [decide_eq_false (p := s.size ≤ 16) (by omega)]; simp
    rw [hn]
    clear hn
    go_enter Tryz.func91, Tryz.ntmps91
    go_wp2
    go_ret
    exact ⟨rfl, rfl⟩
  have hlt0 : 0 < s.size := by omega
  have h16b : decide ((16 : Int) < (s.size : Int)) = false := decide_eq_false (by omega)
  cases hl : letB (bt s 0) with
  | false =>
    have hn : nameB s = false := by simp [nameB, hl]
    rw [hn]
    clear hn
    have HL := Lib.hid hl
    have hg := get_bt s 0 hlt0
    clear hl
    go_enter Tryz.func91, Tryz.ntmps91
    go_wp2_with fail
    refine (letter_any _ _).mono ?_
    rintro e w1 ⟨rfl, rfl⟩
    rw [HL.out]
    go_wp2
    go_ret
    exact ⟨rfl, rfl⟩
  | true =>
    have hn : nameB s = chsB s 0 := by simp [nameB, hl]; omega
    rw [hn]
    clear hn
    have HL := Lib.hid hl
    have hg := get_bt s 0 hlt0
    clear hl
    go_enter Tryz.func91, Tryz.ntmps91
    go_wp2_with fail
    refine (letter_any _ _).mono ?_
    rintro e w1 ⟨rfl, rfl⟩
    rw [HL.out]
    clear hg
    go_wp2
    go_loop [21] (fun i => ∃ k : Nat, k ≤ s.size ∧ i = .int .i64 k ∧ Hid (chsB s 0 = chsB s k)) (fun i => s.size - (intOf i).toNat)
    case atStart => exact ⟨0, by omega, rfl, rfl⟩
    case round =>
      obtain ⟨k, hk, rfl, hx⟩ := hrel
      clear HL h0 h1 h16 h16b
      by_cases hlt : k < s.size
      · have hst := Lib.hid (chsB_step s k hlt)
        have hg := get_bt s k hlt
        have hge := bt_nonneg s k
        have hle := bt_le s k
        have hfin : ∀ x, chB (bt s k) = x → Hid (chsB s 0 = (x && chsB s (k + 1))) := fun x e => by
          unfold Hid; rw [hx.out, hst.out, e]
        clear hx hst
        generalize bt s k = c at *
        cases hl : letB c with
        | true =>
          have HX := hfin true (by simp [chB, hl])
          have HL := Lib.hid hl
          clear hl hfin
          go_wp2_with fail
          refine (letter_any _ _).mono ?_
          rintro e w1 ⟨rfl, rfl⟩
          rw [HL.out]
          go_wp2
          go_round
          case rel => exact ⟨k + 1, by omega, by go_num, by have := HX.out; simpa [Hid] using this⟩
          case measure => simp [intOf]; omega
        | false =>
          have HL := Lib.hid hl
          by_cases hd : c = 45
          · have HX := hfin true (by simp [chB, hd])
            clear hl hfin
            have hb : (c != 45) = false := by simp [hd]
            clear hd
            go_wp2_with fail
            refine (letter_any _ _).mono ?_
            rintro e w1 ⟨rfl, rfl⟩
            rw [HL.out]
            go_wp2
            go_round
            case rel => exact ⟨k + 1, by omega, by go_num, by have := HX.out; simpa [Hid] using this⟩
            case measure => simp [intOf]; omega
          · have hb : (c != 45) = true := by simp [hd]
            by_cases h48 : c < 48
            · have HX := hfin false (by simp [chB, hl, hd]; omega)
              clear hl hfin hd
              go_wp2_with fail
              refine (letter_any _ _).mono ?_
              rintro e w1 ⟨rfl, rfl⟩
              rw [HL.out]
              go_wp2
              go_ret
              exact ⟨ret_bool (by have := HX.out; simpa using this.symm), rfl⟩
            · by_cases h57 : 57 < c
              · have HX := hfin false (by simp [chB, hl, hd]; omega)
                clear hl hfin hd
                go_wp2_with fail
                refine (letter_any _ _).mono ?_
                rintro e w1 ⟨rfl, rfl⟩
                rw [HL.out]
                go_wp2
                go_ret
                exact ⟨ret_bool (by have := HX.out; simpa using this.symm), rfl⟩
              · have HX := hfin true (by simp [chB, hl, hd]; omega)
                clear hl hfin hd
                go_wp2_with fail
                refine (letter_any _ _).mono ?_
                rintro e w1 ⟨rfl, rfl⟩
                rw [HL.out]
                go_wp2
                go_round
                case rel => exact ⟨k + 1, by omega, by go_num, by have := HX.out; simpa [Hid] using this⟩
                case measure => simp [intOf]; omega
      · have hfin : chsB s 0 = true := by rw [hx.out, chsB_end s k (by omega)]
        have HF := Lib.hid hfin
        clear hx hfin
        go_wp2
        go_ret
        exact ⟨ret_bool HF.out.symm, rfl⟩

end Go.Proofs.YtmmlocjiegkjeaaGreatDoor.B1

namespace Go.Proofs.YtmmlocjiegkjeaaGreatDoor.B1

open Go.RowKit Go.PlainAid

set_option linter.unusedVariables false

def eqS (a b : ByteArray) : Bool := a.toList == b.toList

theorem eqS_comm (a b : ByteArray) : eqS a b = eqS b a := by unfold eqS; exact Bool.beq_comm

set_option maxRecDepth 100000 in
theorem index_any (v : Value) (l : List ByteArray) (x : ByteArray) (w : World) (h : RStrs w v l) :
    Calls Tryz.prog 104 #[v, .string x] w fun e w' => ∃ n : Int, e = .returned (.int .i64 n) ∧ decide (0 ≤ n) = l.any (fun y => eqS y x) ∧ w = w' := by
  obtain ⟨a, kap, rfl, hc1, ⟨hc2, hm⟩, hl⟩ := h
  go_enter Tryz.func104, Tryz.ntmps104
  go_wp2
  go_loop [8] (fun i => ∃ (k : Nat), k ≤ l.length ∧ i = .int .i64 k ∧ Hid ((l.take k).any (fun y => eqS y x) = false)) (fun i => l.length - (intOf i).toNat)
  case atStart => exact ⟨0, Nat.zero_le _, rfl, by simp [Hid]⟩
  case round =>
    obtain ⟨k, hk, rfl, hx⟩ := hrel
    by_cases hlt : k < l.length
    · obtain ⟨b, off, rfl, h1, h2⟩ := hl k hlt
      simp only [Nat.mul_one] at h1
      have hst := Lib.hid (any_take l (fun y => eqS y x) k hlt hx.out)
      have hfi := Lib.hid (any_of l (fun y => eqS y x) k hlt)
      clear hl hc1 h2
      generalize l[k] = s at *
      go_wp2
      · have hq : (x.toList == s.toList) = true := by assumption
        go_ret
        exact ⟨_, rfl, by rw [hfi.out (by rw [eqS_comm]; exact hq)]; simp, rfl⟩
      · have hq : (x.toList == s.toList) = false := by assumption
        go_round
        case rel => exact ⟨k + 1, by omega, by go_num, hst.out.trans (by rw [eqS_comm]; exact hq)⟩
        case measure => simp [intOf]; omega
    · go_wp2
      go_ret
      refine ⟨_, rfl, ?_, rfl⟩
      have := hx.out
      rw [List.take_of_length_le (by omega)] at this
      rw [this]; rfl

theorem contains_any (v : Value) (l : List ByteArray) (x : ByteArray) (w : World) (h : RStrs w v l) :
    Calls Tryz.prog 92 #[v, .string x] w fun e w' => e = .returned (.bool (l.any (fun y => eqS y x))) ∧ w = w' := by
  go_enter Tryz.func92, Tryz.ntmps92
  go_wp2_with fail
  refine (index_any v l x _ h).mono ?_
  rintro e w1 ⟨n, rfl, hn, rfl⟩
  have HN := Lib.hid hn
  clear hn
  go_wp2
  go_ret
  exact ⟨ret_bool HN.out, rfl⟩

/-- named things one behind the other: the first error, behind those that were seen. -/
def seqB {α : Type} (name : α → ByteArray) (chk : α → Int) : List α → List α → Int
  | _, [] => 0
  | seen, x :: t => if nameB (name x) = false then 5 else if seen.any (fun y => eqS (name y) (name x)) = true then 6 else if chk x = 0 then seqB name chk (seen ++ [x]) t else chk x

theorem seqB_end {α : Type} (name : α → ByteArray) (chk : α → Int) (l : List α) (k : Nat) (h : l.length ≤ k) : seqB name chk (l.take k) (l.drop k) = 0 := by
  rw [List.drop_eq_nil_of_le h, seqB]

theorem seqB_step {α : Type} (name : α → ByteArray) (chk : α → Int) (l : List α) (k : Nat) (h : k < l.length) :
    seqB name chk (l.take k) (l.drop k) = if nameB (name l[k]) = false then 5 else if (l.take k).any (fun y => eqS (name y) (name l[k])) = true then 6 else if chk l[k] = 0 then seqB name chk (l.take (k + 1)) (l.drop (k + 1)) else chk l[k] := by
  rw [List.drop_eq_getElem_cons h, seqB, ← List.take_succ_eq_append_getElem h]

def oxB (l : List ByteArray) : Int := if 12 < l.length then 3 else if l.length = 0 then 1 else seqB (fun x => x) (fun _ => 0) [] l

set_option maxRecDepth 100000 in
theorem checkOxides_any (v : Value) (l : List ByteArray) (w : World) (h : RStrs w v l) :
    Calls Tryz.prog 78 #[v] w fun e w' => e = .returned (.int .i64 (oxB l)) ∧ w = w' := by
  have hR := h
  obtain ⟨a, kap, rfl, hc1, ⟨hc2, hm⟩, hl⟩ := h
  by_cases h12 : 12 < l.length
  · have he : oxB l = 3 := by simp [oxB, h12]
    rw [he]; clear he hl
    go_enter Tryz.func78, Tryz.ntmps78
    go_wp2
    go_ret
    exact ⟨rfl, rfl⟩
  by_cases h0 : l.length = 0
  · have he : oxB l = 1 := by simp [oxB, h0]
    rw [he]; clear he hl
    have h1 : ((l.length : Int) == 0) = true := by simp [h0]
    clear h0
    go_enter Tryz.func78, Tryz.ntmps78
    go_wp2
    go_ret
    exact ⟨rfl, rfl⟩
  have he : oxB l = seqB (fun x => x) (fun _ => 0) [] l := by simp [oxB, h12, h0]
  rw [he]; clear he
  have h1 : ((l.length : Int) == 0) = false := by simp [h0]
  have h2 : decide ((12 : Int) < (l.length : Int)) = false := decide_eq_false (by omega)
  clear h0
  go_enter Tryz.func78, Tryz.ntmps78
  go_wp2
  go_loop [13] (fun i => ∃ (k : Nat), k ≤ l.length ∧ i = .int .i64 k ∧ Hid (seqB (fun x => x) (fun _ => 0) [] l = seqB (fun x => x) (fun _ => 0) (l.take k) (l.drop k))) (fun i => l.length - (intOf i).toNat)
  case atStart => exact ⟨0, Nat.zero_le _, rfl, rfl⟩
  case round =>
    obtain ⟨k, hk, rfl, hx⟩ := hrel
    clear h1 h2 h12
    by_cases hlt : k < l.length
    · obtain ⟨b, off, rfl, h1, h2⟩ := hl k hlt
      simp only [Nat.mul_one] at h1
      have hst := Lib.hid (seqB_step (fun x => x) (fun _ => 0) l k hlt)
      have hT := hR.take k hk
      clear hl
      generalize l[k] = s at *
      go_wp2_with fail
      refine (isName_any s _ h2).mono ?_
      rintro e w1 ⟨rfl, rfl⟩
      cases hn : nameB s with
      | false =>
        have hfin := hx.out.trans hst.out
        rw [if_pos hn] at hfin
        have HF := Lib.hid hfin
        clear hfin hn
        go_wp2
        go_ret
        exact ⟨ret_int HF.out.symm, rfl⟩
      | true =>
        go_wp2_with fail
        refine (contains_any _ _ s _ hT).mono ?_
        rintro e w1 ⟨rfl, rfl⟩
        cases hs : (l.take k).any (fun y => eqS y s) with
        | true =>
          have hfin := hx.out.trans hst.out
          rw [if_neg (by simp [hn]), if_pos hs] at hfin
          have HF := Lib.hid hfin
          clear hfin hn hs
          go_wp2
          go_ret
          exact ⟨ret_int HF.out.symm, rfl⟩
        | false =>
          have hfin := hx.out.trans hst.out
          rw [if_neg (by simp [hn]), if_neg (by simp [hs]), if_true] at hfin
          have HF := Lib.hid hfin
          clear hfin hn hs
          go_wp2
          go_round
          case rel => exact ⟨k + 1, by omega, by go_num, HF⟩
          case measure => simp [intOf]; omega
    · have hfin := hx.out
      rw [seqB_end _ _ _ _ (by omega)] at hfin
      have HF := Lib.hid hfin
      clear hfin hx
      go_wp2
      go_ret
      exact ⟨ret_int HF.out.symm, rfl⟩

end Go.Proofs.YtmmlocjiegkjeaaGreatDoor.B1

namespace Go.Proofs.YtmmlocjiegkjeaaGreatDoor.B1

open Go.RowKit Go.PlainAid

set_option linter.unusedVariables false

def betweenB (n a b : Int) : Bool := decide (a ≤ n) && decide (n ≤ b)

def withinB (s : Sp) (a b : Int) : Bool := decide (a ≤ s.lo) && decide (s.lo ≤ s.hi) && decide (s.hi ≤ b)

def allWithinB (l : List Sp) (n a b : Int) : Bool := ((l.length : Int) == n) && !(l.any fun s => !withinB s a b)

def allBetweenB (l : List Int) (n a b : Int) : Bool := ((l.length : Int) == n) && !(l.any fun s => !betweenB s a b)

theorem withinS (s : Sp) (a b : Int) (w : World) :
    Calls Tryz.prog 82 #[.agg #[.int .i64 s.lo, .int .i64 s.hi], .int .i64 a, .int .i64 b] w fun e w' => e = .returned (.bool (withinB s a b)) ∧ Below w.heap.size w w' := within_any _ _ _ _ _

theorem betweenN (n a b : Int) (w : World) :
    Calls Tryz.prog 45 #[.int .i64 n, .int .i64 a, .int .i64 b] w fun e w' => e = .returned (.bool (betweenB n a b)) ∧ w = w' := between_any _ _ _ _

theorem not_within (s : Sp) (k1 k2 : Nat) (a b : Int) (w : World) (h1 : w.cell? ⟨k1, 0, none⟩ = some (.int .i64 a)) (h2 : w.cell? ⟨k2, 0, none⟩ = some (.int .i64 b)) :
    Calls Tryz.prog 97 #[.agg #[.int .i64 s.lo, .int .i64 s.hi], .pointer (some ⟨k1, 0, none⟩), .pointer (some ⟨k2, 0, none⟩)] w fun e w' => e = .returned (.bool (!withinB s a b)) ∧ Below w.heap.size w w' := by
  have b1 := cell_lt h1
  have b2 := cell_lt h2
  simp only at b1 b2
  go_enter Tryz.func97, Tryz.ntmps97
  go_wp2_with fail
  refine (withinS s _ _ _).mono ?_
  rintro e w1 ⟨rfl, hb1⟩
  go_wp2
  go_ret
  exact ⟨rfl, (Below.alloc (Below.refl _ _) (Nat.le_refl _) _).trans (hb1.mono (by simp))⟩

theorem not_between (n : Int) (k1 k2 : Nat) (a b : Int) (w : World) (h1 : w.cell? ⟨k1, 0, none⟩ = some (.int .i64 a)) (h2 : w.cell? ⟨k2, 0, none⟩ = some (.int .i64 b)) :
    Calls Tryz.prog 101 #[.int .i64 n, .pointer (some ⟨k1, 0, none⟩), .pointer (some ⟨k2, 0, none⟩)] w fun e w' => e = .returned (.bool (!betweenB n a b)) ∧ Below w.heap.size w w' := by
  go_enter Tryz.func101, Tryz.ntmps101
  go_wp2_with fail
  refine (betweenN _ _ _ _).mono ?_
  rintro e w1 ⟨rfl, rfl⟩
  go_wp2
  go_ret
  exact ⟨rfl, Below.refl _ _⟩

theorem isFn_within : IsFn 97 := fun xs w => by kernel_rfl

theorem isFn_between : IsFn 101 := fun xs w => by kernel_rfl

theorem two_boxes (w : World) (a b : Value) (t u : TypeId) :
    Blk ((w.alloc (.cells #[a] t)).alloc (.cells #[b] u)) w.heap.size #[a] t ∧ Blk ((w.alloc (.cells #[a] t)).alloc (.cells #[b] u)) (w.heap.size + 1) #[b] u := by
  refine ⟨(Blk.new w #[a] t).alloc _, ?_⟩
  have := Blk.new (w.alloc (.cells #[a] t)) #[b] u
  simpa using this

theorem below_two (w : World) (a b : Obj) : Below w.heap.size w ((w.alloc a).alloc b) := by go_grown

theorem tells_within (l : List Sp) (a b : Int) (w : World) (t u : TypeId) :
    Tells 97 #[.pointer (some ⟨w.heap.size, 0, none⟩), .pointer (some ⟨w.heap.size + 1, 0, none⟩)] VSp ((w.alloc (.cells #[.int .i64 a] t)).alloc (.cells #[.int .i64 b] u)) l (fun s => !withinB s a b) := by
  rintro x v w1 hx ⟨rfl, _, _⟩ hb
  obtain ⟨B1, B2⟩ := two_boxes w (.int .i64 a) (.int .i64 b) t u
  exact not_within x _ _ a b w1 ((B1.below hb (by simp; omega)).cell 0 _ rfl) ((B2.below hb (by simp)).cell 0 _ rfl)

theorem tells_between (l : List Int) (a b : Int) (w : World) (t u : TypeId) :
    Tells 101 #[.pointer (some ⟨w.heap.size, 0, none⟩), .pointer (some ⟨w.heap.size + 1, 0, none⟩)] VInt ((w.alloc (.cells #[.int .i64 a] t)).alloc (.cells #[.int .i64 b] u)) l (fun s => !betweenB s a b) := by
  rintro x v w1 hx ⟨rfl, _⟩ hb
  obtain ⟨B1, B2⟩ := two_boxes w (.int .i64 a) (.int .i64 b) t u
  exact not_between x _ _ a b w1 ((B1.below hb (by simp; omega)).cell 0 _ rfl) ((B2.below hb (by simp)).cell 0 _ rfl)

theorem allWithin_any (v : Value) (l : List Sp) (n a b : Int) (w : World) (h : RSps w v l) :
    Calls Tryz.prog 80 #[v, .int .i64 n, .int .i64 a, .int .i64 b] w fun e w' => e = .returned (.bool (allWithinB l n a b)) ∧ Below w.heap.size w w' := by
  have hR := h
  obtain ⟨p, kap, rfl, hc1, ⟨hc2, hm⟩, hl⟩ := h
  clear hl
  cases hn : ((l.length : Int) == n) with
  | false =>
    have he : allWithinB l n a b = false := by simp only [allWithinB, hn, Bool.false_and]
    rw [he]; clear he hR
    go_enter Tryz.func80, Tryz.ntmps80
    go_wp2
    go_ret
    exact ⟨rfl, by go_grown⟩
  | true =>
    have he : allWithinB l n a b = !(l.any fun s => !withinB s a b) := by simp only [allWithinB, hn, Bool.true_and]
    rw [he]; clear he
    go_enter Tryz.func80, Tryz.ntmps80
    go_wp2_with fail
    refine (containsFunc_sp _ isFn_within _ (fun s => !withinB s a b) _ l _ (hR.mono (ext_of_below (below_two _ _ _))) (tells_within l a b w _ _)).mono ?_
    rintro e w1 ⟨rfl, hb1⟩
    go_wp2
    go_ret
    exact ⟨rfl, (below_two _ _ _).trans (hb1.mono (by simp; omega))⟩

theorem allBetween_any (v : Value) (l : List Int) (n a b : Int) (w : World) (h : RInts w v l) :
    Calls Tryz.prog 83 #[v, .int .i64 n, .int .i64 a, .int .i64 b] w fun e w' => e = .returned (.bool (allBetweenB l n a b)) ∧ Below w.heap.size w w' := by
  have hR := h
  obtain ⟨p, kap, rfl, hc1, ⟨hc2, hm⟩, hl⟩ := h
  clear hl
  cases hn : ((l.length : Int) == n) with
  | false =>
    have he : allBetweenB l n a b = false := by simp only [allBetweenB, hn, Bool.false_and]
    rw [he]; clear he hR
    go_enter Tryz.func83, Tryz.ntmps83
    go_wp2
    go_ret
    exact ⟨rfl, by go_grown⟩
  | true =>
    have he : allBetweenB l n a b = !(l.any fun s => !betweenB s a b) := by simp only [allBetweenB, hn, Bool.true_and]
    rw [he]; clear he
    go_enter Tryz.func83, Tryz.ntmps83
    go_wp2_with fail
    refine (containsFunc_int _ isFn_between _ (fun s => !betweenB s a b) _ l _ (hR.mono (ext_of_below (below_two _ _ _))) (tells_between l a b w _ _)).mono ?_
    rintro e w1 ⟨rfl, hb1⟩
    go_wp2
    go_ret
    exact ⟨rfl, (below_two _ _ _).trans (hb1.mono (by simp; omega))⟩

end Go.Proofs.YtmmlocjiegkjeaaGreatDoor.B1

namespace Go.Proofs.YtmmlocjiegkjeaaGreatDoor.B1

open Go.RowKit Go.PlainAid

set_option linter.unusedVariables false

def numB (m : Mat) (n : Int) : Int :=
  if (betweenB m.price 0 10000 && betweenB m.redox (-1000) 1000) = false then 1
  else if (betweenB m.least 0 10000 && betweenB m.most m.least 10000 && betweenB m.step 1 10000) = false then 1
  else if allWithinB m.content n 0 1000 = false then 1
  else if 1000 < (tot m.content).lo then 12 else 0

theorem field_lo (x y : Value) (w : World) : Sem.run Tryz.prog (Instr.field 30 (.agg #[x, y]) 0) w = .ok x w := by kernel_rfl

theorem below_box (w : World) (a : Obj) : Below w.heap.size w (w.alloc a) := by go_grown

set_option maxRecDepth 100000 in
theorem checkNumbers_any (m : Mat) (c : Value) (n : Int) (w : World) (h : RSps w c m.content) :
    Calls Tryz.prog 95 #[.agg #[.string m.name, .int .i64 m.price, .int .i64 m.redox, .int .i64 m.least, .int .i64 m.most, .int .i64 m.step, c], .int .i64 n] w fun e w' => e = .returned (.int .i64 (numB m n)) ∧ Below w.heap.size w w' := by
  have hA := below_box w (.cells #[.string m.name, .int .i64 m.price, .int .i64 m.redox, .int .i64 m.least, .int .i64 m.most, .int .i64 m.step, c] 49)
  have hB := Blk.new w #[.string m.name, .int .i64 m.price, .int .i64 m.redox, .int .i64 m.least, .int .i64 m.most, .int .i64 m.step, c] 49
  go_enter Tryz.func95, Tryz.ntmps95
  go_wp2_with fail
  refine (betweenN _ _ _ _).mono ?_
  rintro e w1 ⟨rfl, rfl⟩
  cases h1 : betweenB m.price 0 10000 with
  | false => go_wp2; go_ret; exact ⟨ret_int (by simp [numB, h1]), hA⟩
  | true =>
  go_wp2_with fail
  refine (betweenN _ _ _ _).mono ?_
  rintro e w1 ⟨rfl, rfl⟩
  cases h2 : betweenB m.redox (-1000) 1000 with
  | false => go_wp2; go_ret; exact ⟨ret_int (by simp [numB, h2]), hA⟩
  | true =>
  go_wp2_with fail
  refine (betweenN _ _ _ _).mono ?_
  rintro e w1 ⟨rfl, rfl⟩
  cases h3 : betweenB m.least 0 10000 with
  | false => go_wp2; go_ret; exact ⟨ret_int (by simp [numB, h1, h2, h3]), hA⟩
  | true =>
  go_wp2_with fail
  refine (betweenN _ _ _ _).mono ?_
  rintro e w1 ⟨rfl, rfl⟩
  cases h4 : betweenB m.most m.least 10000 with
  | false => go_wp2; go_ret; exact ⟨ret_int (by simp [numB, h1, h2, h3, h4]), hA⟩
  | true =>
  go_wp2_with fail
  refine (betweenN _ _ _ _).mono ?_
  rintro e w1 ⟨rfl, rfl⟩
  cases h5 : betweenB m.step 1 10000 with
  | false => go_wp2; go_ret; exact ⟨ret_int (by simp [numB, h1, h2, h3, h4, h5]), hA⟩
  | true =>
  go_wp2_with fail
  refine (allWithin_any c m.content n 0 1000 _ (h.mono (ext_of_below hA))).mono ?_
  rintro e w1 ⟨rfl, hb1⟩
  have hA1 := hA.trans (hb1.mono (by simp))
  have B1 := hB.below hb1 (by simp)
  have c6 : w1.cell? ⟨w.heap.size, 6, none⟩ = some c := B1.cell 6 _ rfl
  clear hb1 hB hA B1
  cases h6 : allWithinB m.content n 0 1000 with
  | false => go_wp2; go_ret; exact ⟨ret_int (by simp [numB, h1, h2, h3, h4, h5, h6]), hA1⟩
  | true =>
  go_wp2_with fail
  refine (total_any c m.content _ (h.mono (ext_of_below hA1))).mono ?_
  rintro e w2 ⟨rfl, hb2⟩
  have hA2 := hA1.trans (hb2.mono hA1.size)
  clear hb2 hA1
  have hfd := fun w => field_lo (.int .i64 (tot m.content).lo) (.int .i64 (tot m.content).hi) w
  by_cases h7 : 1000 < (tot m.content).lo
  · go_wp2; go_ret; exact ⟨ret_int (by simp [numB, h1, h2, h3, h4, h5, h6, h7]), hA2⟩
  · go_wp2; go_ret; exact ⟨ret_int (by simp [numB, h1, h2, h3, h4, h5, h6, h7]), hA2⟩

theorem checkNumbers_v (m : Mat) (v : Value) (n : Int) (w : World) (h : VMat w v m) :
    Calls Tryz.prog 95 #[v, .int .i64 n] w fun e w' => e = .returned (.int .i64 (numB m n)) ∧ Below w.heap.size w w' := by
  obtain ⟨c, rfl, h1, _⟩ := h
  exact checkNumbers_any m c n w h1

end Go.Proofs.YtmmlocjiegkjeaaGreatDoor.B1

namespace Go.Proofs.YtmmlocjiegkjeaaGreatDoor.B1

open Go.RowKit Go.PlainAid

set_option linter.unusedVariables false

def matsB (l : List Mat) (n : Int) : Int := if 12 < l.length then 3 else if l.length = 0 then 1 else seqB Mat.name (fun m => numB m n) [] l

theorem same_mat (m : Mat) (v : Value) (p : Nat) (x : ByteArray) (w : World) (h : VMat w v m) (h1 : w.cell? ⟨p, 0, none⟩ = some (.string x)) :
    Calls Tryz.prog 94 #[v, .pointer (some ⟨p, 0, none⟩)] w fun e w' => e = .returned (.bool (eqS m.name x)) ∧ Below w.heap.size w w' := by
  obtain ⟨c, rfl, h2, _⟩ := h
  have b1 := cell_lt h1
  simp only at b1
  clear h2
  go_enter Tryz.func94, Tryz.ntmps94
  go_wp2
  go_ret
  exact ⟨rfl, by go_grown⟩

theorem isFn_sameMat : IsFn 94 := fun xs w => by kernel_rfl

theorem same_prp (m : Prp) (v : Value) (p : Nat) (x : ByteArray) (w : World) (h : VPrp w v m) (h1 : w.cell? ⟨p, 0, none⟩ = some (.string x)) :
    Calls Tryz.prog 99 #[v, .pointer (some ⟨p, 0, none⟩)] w fun e w' => e = .returned (.bool (eqS m.name x)) ∧ Below w.heap.size w w' := by
  obtain ⟨c, rfl, h2, _⟩ := h
  have b1 := cell_lt h1
  simp only at b1
  clear h2
  go_enter Tryz.func99, Tryz.ntmps99
  go_wp2
  go_ret
  exact ⟨rfl, by go_grown⟩

theorem isFn_samePrp : IsFn 99 := fun xs w => by kernel_rfl

theorem tells_mat (l : List Mat) (p : Nat) (x : ByteArray) (w : World) (h1 : w.cell? ⟨p, 0, none⟩ = some (.string x)) :
    Tells 94 #[.pointer (some ⟨p, 0, none⟩)] VMat w l (fun m => eqS m.name x) :=
  fun m v w1 _ hv hb => same_mat m v p x w1 (hv.mono (ext_of_below hb)) (ext_of_below hb _ _ h1)

theorem tells_prp (l : List Prp) (p : Nat) (x : ByteArray) (w : World) (h1 : w.cell? ⟨p, 0, none⟩ = some (.string x)) :
    Tells 99 #[.pointer (some ⟨p, 0, none⟩)] VPrp w l (fun m => eqS m.name x) :=
  fun m v w1 _ hv hb => same_prp m v p x w1 (hv.mono (ext_of_below hb)) (ext_of_below hb _ _ h1)

set_option maxRecDepth 100000 in
theorem checkMaterials_any (a0 : Option Addr) (n0 cap0 : Nat) (v1 v2 v3 x4 x5 x6 : Value) (l : List Mat) (w : World) (h : RMats w v1 l) (hn0 : n0 ≤ 140737488351232) :
    Calls Tryz.prog 79 #[.agg #[.slice a0 n0 cap0, v1, v2, v3, x4, x5, x6]] w fun e w' => e = .returned (.int .i64 (matsB l n0)) ∧ Below w.heap.size w w' := by
  have hR := h
  obtain ⟨a, kap, rfl, hc1, ⟨hc2, hm⟩, hl⟩ := h
  have hA := below_box w (.cells #[.slice a0 n0 cap0, .slice a l.length kap, v2, v3, x4, x5, x6] 32)
  by_cases h12 : 12 < l.length
  · have he : matsB l n0 = 3 := by simp [matsB, h12]
    rw [he]; clear he hl
    go_enter Tryz.func79, Tryz.ntmps79
    go_wp2
    go_ret
    exact ⟨rfl, hA⟩
  by_cases h0 : l.length = 0
  · have he : matsB l n0 = 1 := by simp [matsB, h0]
    rw [he]; clear he hl
    have h1 : ((l.length : Int) == 0) = true := by simp [h0]
    clear h0
    go_enter Tryz.func79, Tryz.ntmps79
    go_wp2
    go_ret
    exact ⟨rfl, hA⟩
  have he : matsB l n0 = seqB Mat.name (fun m => numB m n0) [] l := by simp [matsB, h12, h0]
  rw [he]; clear he
  have h1 : ((l.length : Int) == 0) = false := by simp [h0]
  have h2 : decide ((12 : Int) < (l.length : Int)) = false := decide_eq_false (by omega)
  clear h0
  have hB := Blk.new w #[.slice a0 n0 cap0, .slice a l.length kap, v2, v3, x4, x5, x6] 32
  have hsz : w.heap.size + 1 ≤ (w.alloc (.cells #[.slice a0 n0 cap0, .slice a l.length kap, v2, v3, x4, x5, x6] 32)).heap.size := by simp
  have hR0 := hR.mono (ext_of_below hA)
  go_enter Tryz.func79, Tryz.ntmps79
  go_wp2
  generalize w.alloc (.cells #[.slice a0 n0 cap0, .slice a l.length kap, v2, v3, x4, x5, x6] 32) = W at *
  go_loopw [17] (fun i wr => ∃ (k : Nat), k ≤ l.length ∧ i = .int .i64 k ∧ Hid (seqB Mat.name (fun m => numB m n0) [] l = seqB Mat.name (fun m => numB m n0) (l.take k) (l.drop k)) ∧ Below W.heap.size W wr) (fun i _ => l.length - (intOf i).toNat)
  case atStart => exact ⟨0, Nat.zero_le _, rfl, rfl, Below.refl _ _⟩
  case round =>
    obtain ⟨k, hk, rfl, hx, hb⟩ := hrel
    have hfinB := hA.trans (hb.mono (by omega))
    have hsz2 := hb.size
    clear h1 h2 h12
    by_cases hlt : k < l.length
    · have hst := Lib.hid (seqB_step Mat.name (fun m => numB m n0) l k hlt)
      have hRr := hR0.mono (ext_of_below hb)
      obtain ⟨b, off, rfl, c, ⟨g0, g1, g2, g3, g4, g5, g6⟩, hc, hs⟩ := (hl k hlt)
      have hbl := cell_lt g0
      simp only at g0 g1 g2 g3 g4 g5 g6 hbl
      have hlt2 : w.heap.size < wr.heap.size := by omega
      have hcS := hc
      obtain ⟨ac, kc, rfl, -, -, -⟩ := hcS
      have hV : VMat wr (.agg #[.string l[k].name, .int .i64 l[k].price, .int .i64 l[k].redox, .int .i64 l[k].least, .int .i64 l[k].most, .int .i64 l[k].step, .slice ac l[k].content.length kc]) l[k] := ⟨_, rfl, hc.mono (ext_of_below hfinB), hs⟩
      obtain ⟨hcc, hzz⟩ := bcell hfinB
      have hBr := hB.below hb (by omega)
      have e0 : wr.cell? ⟨w.heap.size, 0, none⟩ = some (.slice a0 n0 cap0) := hBr.cell 0 _ rfl
      have e1 : wr.cell? ⟨w.heap.size, 1, none⟩ = some (.slice (some ⟨b, off, none⟩) l.length kap) := hBr.cell 1 _ rfl
      clear hl hc hB hA hR hR0
      generalize l[k] = s at *
      clear hsz hsz2
      go_wp2_with fail
      refine (isName_any s.name _ hs.1).mono ?_
      rintro e w1 ⟨rfl, rfl⟩
      have hAm := below_box wr (.cells #[.string s.name, .int .i64 s.price, .int .i64 s.redox, .int .i64 s.least, .int .i64 s.most, .int .i64 s.step, .slice ac s.content.length kc] 49)
      have hBm := Blk.new wr #[.string s.name, .int .i64 s.price, .int .i64 s.redox, .int .i64 s.least, .int .i64 s.most, .int .i64 s.step, .slice ac s.content.length kc] 49
      cases hn : nameB s.name with
      | false =>
        have hfin := hx.out.trans hst.out
        rw [if_pos hn] at hfin
        have HF := Lib.hid hfin
        clear hfin hn
        go_wp2
        go_ret
        exact ⟨ret_int HF.out.symm, hfinB.trans (hAm.mono (by omega))⟩
      | true =>
        go_wp2_with fail
        refine (containsFunc_mat _ isFn_sameMat _ (fun m => eqS m.name s.name) _ (l.take k) _ (RMats.mono (ext_of_below hAm) (hRr.take k hk)) (tells_mat _ _ _ _ (hBm.cell 0 _ rfl))).mono ?_
        rintro e w1 ⟨rfl, hb1⟩
        have hW1 := hAm.trans (hb1.mono (by simp))
        have hBm1 := hBm.below hb1 (by simp)
        cases hs1 : (l.take k).any (fun m => eqS m.name s.name) with
        | true =>
          have hfin := hx.out.trans hst.out
          rw [if_neg (by simp [hn]), if_pos hs1] at hfin
          have HF := Lib.hid hfin
          clear hfin hn hs1
          go_wp2
          go_ret
          exact ⟨ret_int HF.out.symm, hfinB.trans (hW1.mono (by omega))⟩
        | false =>
          have hfin := hx.out.trans hst.out
          rw [if_neg (by simp [hn]), if_neg (by simp [hs1])] at hfin
          have HF := Lib.hid hfin
          have d0 : w1.cell? ⟨wr.heap.size, 0, none⟩ = some (.string s.name) := hBm1.cell 0 _ rfl
          have d1 : w1.cell? ⟨wr.heap.size, 1, none⟩ = some (.int .i64 s.price) := hBm1.cell 1 _ rfl
          have d2 : w1.cell? ⟨wr.heap.size, 2, none⟩ = some (.int .i64 s.redox) := hBm1.cell 2 _ rfl
          have d3 : w1.cell? ⟨wr.heap.size, 3, none⟩ = some (.int .i64 s.least) := hBm1.cell 3 _ rfl
          have d4 : w1.cell? ⟨wr.heap.size, 4, none⟩ = some (.int .i64 s.most) := hBm1.cell 4 _ rfl
          have d5 : w1.cell? ⟨wr.heap.size, 5, none⟩ = some (.int .i64 s.step) := hBm1.cell 5 _ rfl
          have d6 : w1.cell? ⟨wr.heap.size, 6, none⟩ = some (.slice ac s.content.length kc) := hBm1.cell 6 _ rfl
          have f0 : w1.cell? ⟨w.heap.size, 0, none⟩ = some (.slice a0 n0 cap0) := (ext_of_below hW1) _ _ e0
          clear hfin hn hs1 hBm1 hb1 hBm hAm e0 e1 g0 g1 g2 g3 g4 g5 g6 hcc hzz
          go_wp2_with fail
          refine (checkNumbers_v s _ n0 _ (hV.mono (ext_of_below hW1))).mono ?_
          rintro e w2 ⟨rfl, hb2⟩
          have hW2 := hfinB.trans ((hW1.mono (Nat.le_refl _)).trans (hb2.mono hW1.size) |>.mono (by omega))
          have hW2' := hb.trans ((hW1.mono (Nat.le_refl _)).trans (hb2.mono hW1.size) |>.mono hb.size)
          clear hb2 hW1 hV hb
          by_cases hz : numB s n0 = 0
          · have hfin := HF.out
            rw [if_pos hz] at hfin
            have HX := Lib.hid hfin
            clear hfin HF hx hst
            go_wp2
            go_roundw
            case rel => exact ⟨k + 1, by omega, by go_num, HX, hW2'⟩
            case measure => simp [intOf]; omega
          · have hfin := HF.out
            rw [if_neg hz] at hfin
            have HX := Lib.hid hfin
            have hz' : (numB s n0 != 0) = true := by simp [hz]
            clear hfin HF hx hst hz
            go_wp2
            go_ret
            exact ⟨ret_int HX.out.symm, hW2⟩
    · have hfin := hx.out
      rw [seqB_end _ _ _ _ (by omega)] at hfin
      have HF := Lib.hid hfin
      clear hfin hx hl
      go_wp2
      go_ret
      exact ⟨ret_int HF.out.symm, hfinB⟩

end Go.Proofs.YtmmlocjiegkjeaaGreatDoor.B1

namespace Go.Proofs.YtmmlocjiegkjeaaGreatDoor.B1

open Go.RowKit Go.PlainAid

set_option linter.unusedVariables false

def prpB (n : Int) (p : Prp) : Int := if (allBetweenB p.coefs n (-10000) 10000 && withinB p.target (-10000) 10000) = false then 1 else 0

def prpsB (l : List Prp) (n : Int) : Int := if 6 < l.length then 3 else seqB Prp.name (prpB n) [] l

set_option maxRecDepth 100000 in
theorem checkProperties_any (a0 : Option Addr) (n0 cap0 : Nat) (v1 v2 v3 x4 x5 x6 : Value) (l : List Prp) (w : World) (h : RPrps w v3 l) :
    Calls Tryz.prog 81 #[.agg #[.slice a0 n0 cap0, v1, v2, v3, x4, x5, x6]] w fun e w' => e = .returned (.int .i64 (prpsB l n0)) ∧ Below w.heap.size w w' := by
  have hR := h
  obtain ⟨a, kap, rfl, hc1, ⟨hc2, hm⟩, hl⟩ := h
  have hA := below_box w (.cells #[.slice a0 n0 cap0, v1, v2, .slice a l.length kap, x4, x5, x6] 32)
  by_cases h12 : 6 < l.length
  · have he : prpsB l n0 = 3 := by simp [prpsB, h12]
    rw [he]; clear he hl
    go_enter Tryz.func81, Tryz.ntmps81
    go_wp2
    go_ret
    exact ⟨rfl, hA⟩
  have he : prpsB l n0 = seqB Prp.name (prpB n0) [] l := by simp [prpsB, h12]
  rw [he]; clear he
  have h2 : decide ((6 : Int) < (l.length : Int)) = false := decide_eq_false (by omega)
  have hB := Blk.new w #[.slice a0 n0 cap0, v1, v2, .slice a l.length kap, x4, x5, x6] 32
  have hsz : w.heap.size + 1 ≤ (w.alloc (.cells #[.slice a0 n0 cap0, v1, v2, .slice a l.length kap, x4, x5, x6] 32)).heap.size := by simp
  have hR0 := hR.mono (ext_of_below hA)
  go_enter Tryz.func81, Tryz.ntmps81
  go_wp2
  generalize w.alloc (.cells #[.slice a0 n0 cap0, v1, v2, .slice a l.length kap, x4, x5, x6] 32) = W at *
  go_loopw [12] (fun i wr => ∃ (k : Nat), k ≤ l.length ∧ i = .int .i64 k ∧ Hid (seqB Prp.name (prpB n0) [] l = seqB Prp.name (prpB n0) (l.take k) (l.drop k)) ∧ Below W.heap.size W wr) (fun i _ => l.length - (intOf i).toNat)
  case atStart => exact ⟨0, Nat.zero_le _, rfl, rfl, Below.refl _ _⟩
  case round =>
    obtain ⟨k, hk, rfl, hx, hb⟩ := hrel
    have hfinB := hA.trans (hb.mono (by omega))
    have hsz2 := hb.size
    clear h2 h12
    by_cases hlt : k < l.length
    · have hst := Lib.hid (seqB_step Prp.name (prpB n0) l k hlt)
      have hRr := hR0.mono (ext_of_below hb)
      obtain ⟨b, off, rfl, c, ⟨g0, g1, g2, g3⟩, hc, hs⟩ := (hl k hlt)
      have hbl := cell_lt g0
      simp only at g0 g1 g2 g3 hbl
      have hlt2 : w.heap.size < wr.heap.size := by omega
      have hcS := hc
      obtain ⟨ac, kc, rfl, -, -, -⟩ := hcS
      have hCr := hc.mono (ext_of_below hfinB)
      obtain ⟨hcc, hzz⟩ := bcell hfinB
      have hBr := hB.below hb (by omega)
      have e0 : wr.cell? ⟨w.heap.size, 0, none⟩ = some (.slice a0 n0 cap0) := hBr.cell 0 _ rfl
      have e1 : wr.cell? ⟨w.heap.size, 3, none⟩ = some (.slice (some ⟨b, off, none⟩) l.length kap) := hBr.cell 3 _ rfl
      clear hl hc hB hA hR hR0
      generalize l[k] = s at *
      clear hsz hsz2
      go_wp2_with fail
      refine (isName_any s.name _ hs.1).mono ?_
      rintro e w1 ⟨rfl, rfl⟩
      have hAm := below_box wr (.cells #[.string s.name, .slice ac s.coefs.length kc, .int .i64 s.target.lo, .int .i64 s.target.hi] 51)
      have hBm := Blk.new wr #[.string s.name, .slice ac s.coefs.length kc, .int .i64 s.target.lo, .int .i64 s.target.hi] 51
      cases hn : nameB s.name with
      | false =>
        have hfin := hx.out.trans hst.out
        rw [if_pos hn] at hfin
        have HF := Lib.hid hfin
        clear hfin hn
        go_wp2
        go_ret
        exact ⟨ret_int HF.out.symm, hfinB.trans (hAm.mono (by omega))⟩
      | true =>
        go_wp2_with fail
        refine (containsFunc_prp _ isFn_samePrp _ (fun m => eqS m.name s.name) _ (l.take k) _ (RPrps.mono (ext_of_below hAm) (hRr.take k hk)) (tells_prp _ _ _ _ (hBm.cell 0 _ rfl))).mono ?_
        rintro e w1 ⟨rfl, hb1⟩
        have hW1 := hAm.trans (hb1.mono (by simp))
        have hBm1 := hBm.below hb1 (by simp)
        cases hs1 : (l.take k).any (fun m => eqS m.name s.name) with
        | true =>
          have hfin := hx.out.trans hst.out
          rw [if_neg (by simp [hn]), if_pos hs1] at hfin
          have HF := Lib.hid hfin
          clear hfin hn hs1
          go_wp2
          go_ret
          exact ⟨ret_int HF.out.symm, hfinB.trans (hW1.mono (by omega))⟩
        | false =>
          have hfin := hx.out.trans hst.out
          rw [if_neg (by simp [hn]), if_neg (by simp [hs1])] at hfin
          have HF := Lib.hid hfin
          have d1 : w1.cell? ⟨wr.heap.size, 1, none⟩ = some (.slice ac s.coefs.length kc) := hBm1.cell 1 _ rfl
          have f0 : w1.cell? ⟨w.heap.size, 0, none⟩ = some (.slice a0 n0 cap0) := (ext_of_below hW1) _ _ e0
          clear hfin hn hs1 hb1 hBm hAm e0 e1 g0 g1 g2 g3 hcc hzz
          go_wp2_with fail
          refine (allBetween_any _ s.coefs n0 _ _ _ (hCr.mono (ext_of_below hW1))).mono ?_
          rintro e w2 ⟨rfl, hb2⟩
          have hW2 := hfinB.trans ((hW1.mono (Nat.le_refl _)).trans (hb2.mono hW1.size) |>.mono (by omega))
          have hW2' := hb.trans ((hW1.mono (Nat.le_refl _)).trans (hb2.mono hW1.size) |>.mono hb.size)
          have hBm2 := hBm1.below hb2 hBm1.lt
          have q2 : w2.cell? ⟨wr.heap.size, 2, none⟩ = some (.int .i64 s.target.lo) := hBm2.cell 2 _ rfl
          have q3 : w2.cell? ⟨wr.heap.size, 3, none⟩ = some (.int .i64 s.target.hi) := hBm2.cell 3 _ rfl
          clear hb2 hW1 hCr hb hBm1 hBm2
          cases hz : allBetweenB s.coefs n0 (-10000) 10000 with
          | false =>
            have hp : prpB n0 s = 1 := by simp [prpB, hz]
            have hfin := HF.out
            rw [if_neg (by rw [hp]; decide), hp] at hfin
            have HX := Lib.hid hfin
            clear hfin HF hx hst hp
            go_wp2
            go_ret
            exact ⟨ret_int HX.out.symm, hW2⟩
          | true =>
            go_wp2_with fail
            refine (withinS s.target _ _ _).mono ?_
            rintro e w3 ⟨rfl, hb3⟩
            have hW3 := hW2.trans (hb3.mono hW2.size)
            have hW3' := hW2'.trans (hb3.mono hW2'.size)
            clear hb3 hW2 hW2'
            cases hz2 : withinB s.target (-10000) 10000 with
            | false =>
              have hp : prpB n0 s = 1 := by simp [prpB, hz2]
              have hfin := HF.out
              rw [if_neg (by rw [hp]; decide), hp] at hfin
              have HX := Lib.hid hfin
              clear hfin HF hx hst hp
              go_wp2
              go_ret
              exact ⟨ret_int HX.out.symm, hW3⟩
            | true =>
              have hp : prpB n0 s = 0 := by simp [prpB, hz, hz2]
              have hfin := HF.out
              rw [if_pos hp] at hfin
              have HX := Lib.hid hfin
              clear hfin HF hx hst hp
              go_wp2
              go_roundw
              case rel => exact ⟨k + 1, by omega, by go_num, HX, hW3'⟩
              case measure => simp [intOf]; omega
    · have hfin := hx.out
      rw [seqB_end _ _ _ _ (by omega)] at hfin
      have HF := Lib.hid hfin
      clear hfin hx hl
      go_wp2
      go_ret
      exact ⟨ret_int HF.out.symm, hfinB⟩

end Go.Proofs.YtmmlocjiegkjeaaGreatDoor.B1

namespace Go.Proofs.YtmmlocjiegkjeaaGreatDoor.B1

open Go.RowKit Go.PlainAid

set_option linter.unusedVariables false

def checkB (b : Bat) : Int :=
  if oxB b.oxides ≠ 0 then oxB b.oxides
  else if matsB b.mats b.oxides.length ≠ 0 then matsB b.mats b.oxides.length
  else if allWithinB b.shares b.oxides.length 0 1000 = false then 1
  else if prpsB b.props b.oxides.length ≠ 0 then prpsB b.props b.oxides.length
  else if (withinB b.redox (-10000) 10000 && betweenB b.wanted 1 10000) = false then 1 else 0

set_option maxRecDepth 100000 in
theorem check_any (v : Value) (b : Bat) (w : World) (h : RBat w v b) :
    Calls Tryz.prog 62 #[v] w fun e w' => e = .returned (.int .i64 (checkB b)) ∧ Below w.heap.size w w' := by
  obtain ⟨v0, v1, v2, v3, rfl, h0, h1, h2, h3, i1, i2, i3⟩ := h
  have h0S := h0
  have h1S := h1
  have h2S := h2
  have h3S := h3
  obtain ⟨a0, k0, rfl, -, ⟨-, l0⟩, -⟩ := h0S
  obtain ⟨a1, k1, rfl, -, ⟨-, l1⟩, -⟩ := h1S
  obtain ⟨a2, k2, rfl, -, ⟨-, l2⟩, -⟩ := h2S
  obtain ⟨a3, k3, rfl, -, ⟨-, l3⟩, -⟩ := h3S
  have hA := below_box w (.cells #[.slice a0 b.oxides.length k0, .slice a1 b.mats.length k1, .slice a2 b.shares.length k2, .slice a3 b.props.length k3, .int .i64 b.redox.lo, .int .i64 b.redox.hi, .int .i64 b.wanted] 32)
  have hB := Blk.new w #[.slice a0 b.oxides.length k0, .slice a1 b.mats.length k1, .slice a2 b.shares.length k2, .slice a3 b.props.length k3, .int .i64 b.redox.lo, .int .i64 b.redox.hi, .int .i64 b.wanted] 32
  have H0 := h0.mono (ext_of_below hA)
  go_enter Tryz.func62, Tryz.ntmps62
  go_wp2_with fail
  refine (checkOxides_any _ b.oxides _ H0).mono ?_
  rintro e w1 ⟨rfl, rfl⟩
  clear H0 h0
  by_cases e1 : oxB b.oxides = 0
  case neg =>
    have e1' : (oxB b.oxides != 0) = true := by simp [e1]
    have hfin := Lib.hid (show checkB b = oxB b.oxides by simp [checkB, e1])
    clear hB e1
    go_wp2
    go_ret
    exact ⟨ret_int hfin.out.symm, hA⟩
  have e1' : (oxB b.oxides != 0) = false := by simp [e1]
  have E1 := Lib.hid e1
  clear e1
  go_wp2_with fail
  refine (checkMaterials_any a0 _ k0 _ _ _ _ _ _ b.mats _ (h1.mono (ext_of_below hA)) l0).mono ?_
  rintro e w1 ⟨rfl, hb⟩
  have hA1 := hA.trans (hb.mono (by simp))
  have hB1 := hB.below hb (by simp)
  clear hb hB hA h1
  by_cases e2 : matsB b.mats b.oxides.length = 0
  case neg =>
    have e2' : (matsB b.mats b.oxides.length != 0) = true := by simp [e2]
    have hfin := Lib.hid (show checkB b = matsB b.mats b.oxides.length by simp [checkB, E1.out, e2])
    clear hB1 e2
    go_wp2
    go_ret
    exact ⟨ret_int hfin.out.symm, hA1⟩
  have e2' : (matsB b.mats b.oxides.length != 0) = false := by simp [e2]
  have E2 := Lib.hid e2
  clear e2
  have c0 : w1.cell? ⟨w.heap.size, 0, none⟩ = some (.slice a0 b.oxides.length k0) := hB1.cell 0 _ rfl
  have c2 : w1.cell? ⟨w.heap.size, 2, none⟩ = some (.slice a2 b.shares.length k2) := hB1.cell 2 _ rfl
  go_wp2_with fail
  refine (allWithin_any _ b.shares _ _ _ _ (h2.mono (ext_of_below hA1))).mono ?_
  rintro e w2 ⟨rfl, hb⟩
  have hA2 := hA1.trans (hb.mono hA1.size)
  have hB2 := hB1.below hb hB1.lt
  clear hb hB1 hA1 h2 c0 c2 e1' e2'
  cases e3 : allWithinB b.shares b.oxides.length 0 1000 with
  | false =>
    have hfin := Lib.hid (show checkB b = 1 by simp [checkB, E1.out, E2.out, e3])
    clear hB2
    go_wp2
    go_ret
    exact ⟨ret_int hfin.out.symm, hA2⟩
  | true =>
  have E3 := Lib.hid e3
  clear e3
  have c0 : w2.cell? ⟨w.heap.size, 0, none⟩ = some (.slice a0 b.oxides.length k0) := hB2.cell 0 _ rfl
  have c1 : w2.cell? ⟨w.heap.size, 1, none⟩ = some (.slice a1 b.mats.length k1) := hB2.cell 1 _ rfl
  have c2 : w2.cell? ⟨w.heap.size, 2, none⟩ = some (.slice a2 b.shares.length k2) := hB2.cell 2 _ rfl
  have c3 : w2.cell? ⟨w.heap.size, 3, none⟩ = some (.slice a3 b.props.length k3) := hB2.cell 3 _ rfl
  have c4 : w2.cell? ⟨w.heap.size, 4, none⟩ = some (.int .i64 b.redox.lo) := hB2.cell 4 _ rfl
  have c5 : w2.cell? ⟨w.heap.size, 5, none⟩ = some (.int .i64 b.redox.hi) := hB2.cell 5 _ rfl
  have c6 : w2.cell? ⟨w.heap.size, 6, none⟩ = some (.int .i64 b.wanted) := hB2.cell 6 _ rfl
  go_wp2_with fail
  refine (checkProperties_any a0 _ k0 _ _ _ _ _ _ b.props _ (h3.mono (ext_of_below hA2))).mono ?_
  rintro e w3 ⟨rfl, hb⟩
  have hA3 := hA2.trans (hb.mono hA2.size)
  have hB3 := hB2.below hb hB2.lt
  clear hb hB2 hA2 h3 c0 c1 c2 c3 c4 c5 c6
  by_cases e4 : prpsB b.props b.oxides.length = 0
  case neg =>
    have e4' : (prpsB b.props b.oxides.length != 0) = true := by simp [e4]
    have hfin := Lib.hid (show checkB b = prpsB b.props b.oxides.length by simp [checkB, E1.out, E2.out, E3.out, e4])
    clear hB3 e4
    go_wp2
    go_ret
    exact ⟨ret_int hfin.out.symm, hA3⟩
  have e4' : (prpsB b.props b.oxides.length != 0) = false := by simp [e4]
  have E4 := Lib.hid e4
  clear e4
  have c4 : w3.cell? ⟨w.heap.size, 4, none⟩ = some (.int .i64 b.redox.lo) := hB3.cell 4 _ rfl
  have c5 : w3.cell? ⟨w.heap.size, 5, none⟩ = some (.int .i64 b.redox.hi) := hB3.cell 5 _ rfl
  go_wp2_with fail
  refine (withinS b.redox _ _ _).mono ?_
  rintro e w4 ⟨rfl, hb⟩
  have hA4 := hA3.trans (hb.mono hA3.size)
  have hB4 := hB3.below hb hB3.lt
  clear hb hB3 hA3 c4 c5 e4'
  cases e5 : withinB b.redox (-10000) 10000 with
  | false =>
    have hfin := Lib.hid (show checkB b = 1 by simp [checkB, E1.out, E2.out, E3.out, E4.out, e5])
    clear hB4
    go_wp2
    go_ret
    exact ⟨ret_int hfin.out.symm, hA4⟩
  | true =>
  have c6 : w4.cell? ⟨w.heap.size, 6, none⟩ = some (.int .i64 b.wanted) := hB4.cell 6 _ rfl
  go_wp2_with fail
  refine (betweenN b.wanted _ _ _).mono ?_
  rintro e w5 ⟨rfl, rfl⟩
  cases e6 : betweenB b.wanted 1 10000 with
  | false =>
    have hfin := Lib.hid (show checkB b = 1 by simp [checkB, E1.out, E2.out, E3.out, E4.out, e6])
    clear hB4 c6
    go_wp2
    go_ret
    exact ⟨ret_int hfin.out.symm, hA4⟩
  | true =>
    have hfin := Lib.hid (show checkB b = 0 by simp [checkB, E1.out, E2.out, E3.out, E4.out, e5, e6])
    clear hB4 c6
    go_wp2
    go_ret
    exact ⟨ret_int hfin.out.symm, hA4⟩

def recB (b : Bat) (r : List Int) : Int := if allBetweenB r b.mats.length 0 10000 = true then 0 else 1

theorem checkRecipe_any (v rv : Value) (b : Bat) (r : List Int) (w : World) (h : RBat w v b) (hr : RInts w rv r) :
    Calls Tryz.prog 63 #[v, rv] w fun e w' => e = .returned (.int .i64 (recB b r)) ∧ Below w.heap.size w w' := by
  obtain ⟨v0, v1, v2, v3, rfl, h0, h1, h2, h3, i1, i2, i3⟩ := h
  obtain ⟨a0, k0, rfl, -, ⟨-, l0⟩, -⟩ := h0
  obtain ⟨a1, k1, rfl, -, ⟨-, l1⟩, -⟩ := h1
  obtain ⟨a2, k2, rfl, -, ⟨-, l2⟩, -⟩ := h2
  obtain ⟨a3, k3, rfl, -, ⟨-, l3⟩, -⟩ := h3
  have hA := below_box w (.cells #[.slice a0 b.oxides.length k0, .slice a1 b.mats.length k1, .slice a2 b.shares.length k2, .slice a3 b.props.length k3, .int .i64 b.redox.lo, .int .i64 b.redox.hi, .int .i64 b.wanted] 32)
  go_enter Tryz.func63, Tryz.ntmps63
  go_wp2_with fail
  refine (allBetween_any rv r _ _ _ _ (hr.mono (ext_of_below hA))).mono ?_
  rintro e w1 ⟨rfl, hb⟩
  have hA1 := hA.trans (hb.mono (by simp))
  clear hb hA
  cases e1 : allBetweenB r b.mats.length 0 10000 with
  | false =>
    have hfin := Lib.hid (show recB b r = 1 by simp [recB, e1])
    go_wp2
    go_ret
    exact ⟨ret_int hfin.out.symm, hA1⟩
  | true =>
    have hfin := Lib.hid (show recB b r = 0 by simp [recB, e1])
    go_wp2
    go_ret
    exact ⟨ret_int hfin.out.symm, hA1⟩

def bothB (b : Bat) (r : List Int) : Int := if checkB b ≠ 0 then checkB b else recB b r

theorem _root_.Go.Proofs.YtmmlocjiegkjeaaGreatDoor.RBat.agg {w : World} {v : Value} {b : Bat} (h : RBat w v b) : ∃ a0 k0 a1 k1 a2 k2 a3 k3, v = .agg #[.slice a0 b.oxides.length k0, .slice a1 b.mats.length k1, .slice a2 b.shares.length k2, .slice a3 b.props.length k3, .int .i64 b.redox.lo, .int .i64 b.redox.hi, .int .i64 b.wanted] := by
  obtain ⟨v0, v1, v2, v3, rfl, h0, h1, h2, h3, i1, i2, i3⟩ := h
  obtain ⟨a0, k0, rfl, -, ⟨-, l0⟩, -⟩ := h0
  obtain ⟨a1, k1, rfl, -, ⟨-, l1⟩, -⟩ := h1
  obtain ⟨a2, k2, rfl, -, ⟨-, l2⟩, -⟩ := h2
  obtain ⟨a3, k3, rfl, -, ⟨-, l3⟩, -⟩ := h3
  exact ⟨a0, k0, a1, k1, a2, k2, a3, k3, rfl⟩

set_option maxRecDepth 100000 in
theorem checkBoth_any (v rv : Value) (b : Bat) (r : List Int) (w : World) (h : RBat w v b) (hr : RInts w rv r) :
    Calls Tryz.prog 44 #[v, rv] w fun e w' => e = .returned (.int .i64 (bothB b r)) ∧ Below w.heap.size w w' := by
  obtain ⟨a0, k0, a1, k1, a2, k2, a3, k3, rfl⟩ := h.agg
  have hA := below_box w (.cells #[.slice a0 b.oxides.length k0, .slice a1 b.mats.length k1, .slice a2 b.shares.length k2, .slice a3 b.props.length k3, .int .i64 b.redox.lo, .int .i64 b.redox.hi, .int .i64 b.wanted] 32)
  have hB := Blk.new w #[.slice a0 b.oxides.length k0, .slice a1 b.mats.length k1, .slice a2 b.shares.length k2, .slice a3 b.props.length k3, .int .i64 b.redox.lo, .int .i64 b.redox.hi, .int .i64 b.wanted] 32
  go_enter Tryz.func44, Tryz.ntmps44
  go_wp2_with fail
  refine (check_any _ b _ (h.mono (ext_of_below hA))).mono ?_
  rintro e w1 ⟨rfl, hb⟩
  have hA1 := hA.trans (hb.mono (by simp))
  have hB1 := hB.below hb (by simp)
  clear hb hA hB
  by_cases e1 : checkB b = 0
  case neg =>
    have e1' : (checkB b != 0) = true := by simp [e1]
    have hfin := Lib.hid (show bothB b r = checkB b by simp [bothB, e1])
    clear hB1 e1
    go_wp2
    go_ret
    exact ⟨ret_int hfin.out.symm, hA1⟩
  have e1' : (checkB b != 0) = false := by simp [e1]
  have hfin := Lib.hid (show bothB b r = recB b r by simp [bothB, e1])
  clear e1
  have c0 : w1.cell? ⟨w.heap.size, 0, none⟩ = some (.slice a0 b.oxides.length k0) := hB1.cell 0 _ rfl
  have c1 : w1.cell? ⟨w.heap.size, 1, none⟩ = some (.slice a1 b.mats.length k1) := hB1.cell 1 _ rfl
  have c2 : w1.cell? ⟨w.heap.size, 2, none⟩ = some (.slice a2 b.shares.length k2) := hB1.cell 2 _ rfl
  have c3 : w1.cell? ⟨w.heap.size, 3, none⟩ = some (.slice a3 b.props.length k3) := hB1.cell 3 _ rfl
  have c4 : w1.cell? ⟨w.heap.size, 4, none⟩ = some (.int .i64 b.redox.lo) := hB1.cell 4 _ rfl
  have c5 : w1.cell? ⟨w.heap.size, 5, none⟩ = some (.int .i64 b.redox.hi) := hB1.cell 5 _ rfl
  have c6 : w1.cell? ⟨w.heap.size, 6, none⟩ = some (.int .i64 b.wanted) := hB1.cell 6 _ rfl
  go_wp2_with fail
  refine (checkRecipe_any _ rv b r _ (h.mono (ext_of_below hA1)) (hr.mono (ext_of_below hA1))).mono ?_
  rintro e w2 ⟨rfl, hb⟩
  have hA2 := hA1.trans (hb.mono hA1.size)
  clear hb c0 c1 c2 c3 c4 c5 c6 hB1 hA1
  go_wp2
  go_ret
  exact ⟨ret_int hfin.out.symm, hA2⟩

end Go.Proofs.YtmmlocjiegkjeaaGreatDoor.B1

namespace Go.Proofs.YtmmlocjiegkjeaaGreatDoor.B1

open Go.RowKit Go.PlainAid

set_option linter.unusedVariables false

def grB (n : Int) (s : Sp) : Int := max (wrap64 (n * s.lo)) (wrap64 (n * s.hi))

end Go.Proofs.YtmmlocjiegkjeaaGreatDoor.B1

namespace Go.Proofs.YtmmlocjiegkjeaaGreatDoor.B1

open Go.RowKit Go.PlainAid

set_option linter.unusedVariables false

theorem own_below {w w1 : World} {B base : Nat} {e : TypeId} {size : Nat} {v : Value} {n : Nat} {xs : List Value} (h : w.ownsRow base e size v n xs) (hb : Below B w w1) (hB : ∀ g, v.ownBlock = some g → g < B) : w1.ownsRow base e size v n xs := by
  obtain ⟨h1, h2⟩ := h
  refine ⟨h1, ?_⟩
  rcases h2 with h2 | ⟨g, cap, cur, hv, hg, hh, r⟩
  · exact Or.inl h2
  · refine Or.inr ⟨g, cap, cur, hv, hg, ?_, r⟩
    rw [hb.block g (hB g (by rw [hv]; rfl))]
    exact hh

/-- a slice of the call's own is seen where its block is. -/
theorem own_vis {S : Nat → Prop} {w : World} {base : Nat} {e : TypeId} {size : Nat} {v : Value} {n : Nat} {xs : List Value} (h : w.ownsRow base e size v n xs) (hS : ∀ g, v.ownBlock = some g → S g) : (vis S w).ownsRow base e size v n xs := by
  obtain ⟨h1, h2⟩ := h
  refine ⟨h1, ?_⟩
  rcases h2 with h2 | ⟨g, cap, cur, hv, hg, hh, r⟩
  · exact Or.inl h2
  · exact Or.inr ⟨g, cap, cur, hv, hg, by rw [vis_block (hS g (by rw [hv]; rfl))]; exact hh, r⟩

theorem own_lt {w : World} {base : Nat} {e : TypeId} {size : Nat} {v : Value} {n : Nat} {xs : List Value} (h : w.ownsRow base e size v n xs) : ∀ g, v.ownBlock = some g → g < w.heap.size := fun g hg => (h.lt g hg).2

theorem own_cells {w : World} {base : Nat} {e : TypeId} {size : Nat} {v : Value} {n : Nat} {xs : List Value} (h : w.ownsRow base e size v n xs) :
    (v = .slice none 0 0 ∧ n = 0) ∨ ∃ g cap, v = .slice (some ⟨g, 0, none⟩) n cap ∧ n ≤ cap ∧ cap ≤ 9223372036854775807 ∧ ∀ j (hj : j < xs.length), w.cell? ⟨g, j, none⟩ = some (xs[j]'hj) := by
  rcases h.2 with h2 | ⟨g, cap, cur, hv, hg, hh, h1, h2, h3, h4⟩
  · exact .inl h2
  · refine .inr ⟨g, cap, hv, h1, by simpa [maxLen] using h2, fun j hj => ?_⟩
    subst hv
    rw [h.cellAt j (by rw [← h.1]; exact hj), List.getElem?_eq_getElem hj]

/-- what a slice of the call's own reads as. -/
theorem own_RSl {α : Type} {R : World → Addr → α → Prop} {w : World} {base : Nat} {e : TypeId} {size : Nat} {v : Value} {xs : List Value} {l : List α} (h : w.ownsRow base e size v l.length xs) (hm : l.length ≤ 140737488351232)
    (hR : ∀ g cap, v = .slice (some ⟨g, 0, none⟩) l.length cap → (∀ j (hj : j < xs.length), w.cell? ⟨g, j, none⟩ = some (xs[j]'hj)) → ∀ i (hi : i < l.length), R w ⟨g, i * size, none⟩ (l[i]'hi)) : RSl size R w v l := by
  rcases own_cells h with ⟨h1, h2⟩ | ⟨g, cap, h1, h2, h3, h4⟩
  · exact ⟨none, 0, by rw [h1, h2], by omega, ⟨by omega, hm⟩, fun i hi => by omega⟩
  · refine ⟨some ⟨g, 0, none⟩, cap, h1, h2, ⟨h3, hm⟩, fun i hi => ⟨g, 0, rfl, ?_⟩⟩
    rw [Nat.zero_add]
    exact hR g cap h1 h4 i hi

theorem own_RInts {w : World} {base : Nat} {e : TypeId} {v : Value} {l : List Int} (h : w.ownsRow base e 1 v l.length (l.map (Value.int .i64))) (hm : l.length ≤ 140737488351232) (hi : ∀ x ∈ l, I64 x) : RInts w v l :=
  own_RSl h hm fun g cap _ hc i hil => by
    have := hc i (by simpa using hil)
    rw [List.getElem_map] at this
    exact ⟨by rw [Nat.mul_one]; exact this, hi _ (List.getElem_mem hil)⟩

/-- cells of structs, one behind the other. -/
theorem flat_at {α : Type} (c : α → List Value) (n : Nat) (hn : ∀ x, (c x).length = n) : ∀ (l : List α) (i j : Nat) (hi : i < l.length) (hj : j < n), (l.flatMap c)[i * n + j]? = (c (l[i]'hi))[j]? := by
  intro l
  induction l with
  | nil => intro i j hi; simp at hi
  | cons a l ih =>
    intro i j hi hj
    rw [List.flatMap_cons]
    cases i with
    | zero =>
      rw [Nat.zero_mul, Nat.zero_add, List.getElem?_append_left (by rw [hn]; exact hj)]
      rfl
    | succ i =>
      rw [List.getElem?_append_right (by rw [hn, Nat.succ_mul]; omega), hn, show (i + 1) * n + j - n = i * n + j from by rw [Nat.succ_mul]; omega, ih i j (by simpa using hi) hj]
      rfl

theorem flat_len {α : Type} (c : α → List Value) (n : Nat) (hn : ∀ x, (c x).length = n) : ∀ (l : List α), (l.flatMap c).length = l.length * n := by
  intro l
  induction l with
  | nil => simp
  | cons a l ih => rw [List.flatMap_cons, List.length_append, hn, ih, List.length_cons, Nat.succ_mul, Nat.add_comm]

theorem flat_cell {α : Type} {c : α → List Value} {n : Nat} (hn : ∀ x, (c x).length = n) {l : List α} {w : World} {g : Nat} (hc : ∀ j (hj : j < (l.flatMap c).length), w.cell? ⟨g, j, none⟩ = some ((l.flatMap c)[j]'hj)) (i j : Nat) (hi : i < l.length) (hj : j < n) (u : Value) (hu : (c (l[i]'hi))[j]? = some u) : w.cell? ⟨g, i * n + j, none⟩ = some u := by
  have hlt : i * n + j < (l.flatMap c).length := by
    rw [flat_len c n hn]
    have := Nat.mul_le_mul_right n (show i + 1 ≤ l.length from hi)
    rw [Nat.succ_mul] at this
    omega
  have h1 := flat_at c n hn l i j hi hj
  rw [hu, List.getElem?_eq_getElem hlt] at h1
  rw [hc _ hlt, h1]

def spCells (s : Sp) : List Value := [.int .i64 s.lo, .int .i64 s.hi]

theorem own_RSps {w : World} {base : Nat} {e : TypeId} {v : Value} {l : List Sp} (h : w.ownsRow base e 2 v l.length (l.flatMap spCells)) (hm : l.length ≤ 140737488351232) (hi : ∀ x ∈ l, I64 x.lo ∧ I64 x.hi) : RSps w v l :=
  own_RSl h hm fun g cap _ hc i hil => by
    have h0 := flat_cell (c := spCells) (n := 2) (fun _ => rfl) hc i 0 hil (by omega) _ rfl
    have h1 := flat_cell (c := spCells) (n := 2) (fun _ => rfl) hc i 1 hil (by omega) _ rfl
    exact ⟨h0, h1, (hi _ (List.getElem_mem hil)).1, (hi _ (List.getElem_mem hil)).2⟩

theorem info_int : (Tryz.prog.info? 3).map (fun i => (i.zero, i.size, i.bytes)) = some (some (.int .i64 0), 1, 8) := by kernel_rfl

theorem info_span : (Tryz.prog.info? 30).map (fun i => (i.zero, i.size, i.bytes)) = some (some (.agg #[.int .i64 0, .int .i64 0]), 2, 16) := by kernel_rfl

end Go.Proofs.YtmmlocjiegkjeaaGreatDoor.B1

namespace Go.Proofs.YtmmlocjiegkjeaaGreatDoor.B1

open Go.RowKit Go.PlainAid

set_option linter.unusedVariables false

theorem ext_upto (l : List Int) (ys : List Int) (hl : ys.length = l.length) (h : ∀ j, j < l.length → ys.getD j 0 = l.getD j 0) : ys = l := by
  apply List.ext_getElem hl
  intro j h1 h2
  have := h j h2
  simp [List.getD, List.getElem?_eq_getElem h1, List.getElem?_eq_getElem h2] at this
  exact this

end Go.Proofs.YtmmlocjiegkjeaaGreatDoor.B1

namespace Go.Proofs.YtmmlocjiegkjeaaGreatDoor.B1

open Go.RowKit Go.PlainAid

set_option linter.unusedVariables false

theorem own_drew {w : World} {base : Nat} {e : TypeId} {size : Nat} {v : Value} {n : Nat} {xs : List Value} (h : w.ownsRow base e size v n xs) : w.drew.ownsRow base e size v n xs := h

end Go.Proofs.YtmmlocjiegkjeaaGreatDoor.B1

namespace Go.Proofs.YtmmlocjiegkjeaaGreatDoor.B1

open Go.RowKit Go.PlainAid

set_option linter.unusedVariables false

structure SpIn (s : Sp) (a b : Int) : Prop where
  lo : a ≤ s.lo
  le : s.lo ≤ s.hi
  hi : s.hi ≤ b

structure MatOk (m : Mat) (n : Nat) : Prop where
  price : 0 ≤ m.price ∧ m.price ≤ 10000
  redox : -1000 ≤ m.redox ∧ m.redox ≤ 1000
  least : 0 ≤ m.least ∧ m.least ≤ 10000
  most : m.least ≤ m.most ∧ m.most ≤ 10000
  step : 1 ≤ m.step ∧ m.step ≤ 10000
  len : m.content.length = n
  spans : ∀ s ∈ m.content, SpIn s 0 1000
  sum : (tot m.content).lo ≤ 1000

structure PrpOk (p : Prp) (n : Nat) : Prop where
  len : p.coefs.length = n
  coefs : ∀ c ∈ p.coefs, -10000 ≤ c ∧ c ≤ 10000
  target : SpIn p.target (-10000) 10000

structure OkB (b : Bat) : Prop where
  ox : 1 ≤ b.oxides.length ∧ b.oxides.length ≤ 12
  mt : 1 ≤ b.mats.length ∧ b.mats.length ≤ 12
  mats : ∀ m ∈ b.mats, MatOk m b.oxides.length
  shLen : b.shares.length = b.oxides.length
  shares : ∀ s ∈ b.shares, SpIn s 0 1000
  pr : b.props.length ≤ 6
  props : ∀ p ∈ b.props, PrpOk p b.oxides.length
  redox : SpIn b.redox (-10000) 10000
  wanted : 1 ≤ b.wanted ∧ b.wanted ≤ 10000

theorem within_iff {s : Sp} {a b : Int} (h : withinB s a b = true) : SpIn s a b := by
  unfold withinB at h
  simp only [Bool.and_eq_true, decide_eq_true_eq] at h
  exact ⟨h.1.1, h.1.2, h.2⟩

theorem between_iff {n a b : Int} (h : betweenB n a b = true) : a ≤ n ∧ n ≤ b := by
  unfold betweenB at h
  simpa only [Bool.and_eq_true, decide_eq_true_eq] using h

theorem allWithin_iff {l : List Sp} {n : Nat} {a b : Int} (h : allWithinB l n a b = true) : l.length = n ∧ ∀ s ∈ l, SpIn s a b := by
  unfold allWithinB at h
  simp only [Bool.and_eq_true, beq_iff_eq, Bool.not_eq_true', List.any_eq_false] at h
  refine ⟨by omega, fun s hs => within_iff ?_⟩
  have := h.2 s hs
  simpa using this

theorem allBetween_iff {l : List Int} {n : Nat} {a b : Int} (h : allBetweenB l n a b = true) : l.length = n ∧ ∀ s ∈ l, a ≤ s ∧ s ≤ b := by
  unfold allBetweenB at h
  simp only [Bool.and_eq_true, beq_iff_eq, Bool.not_eq_true', List.any_eq_false] at h
  refine ⟨by omega, fun s hs => between_iff ?_⟩
  have := h.2 s hs
  simpa using this

theorem seqB_zero {α : Type} (name : α → ByteArray) (chk : α → Int) : ∀ (l seen : List α), seqB name chk seen l = 0 → ∀ x ∈ l, chk x = 0 := by
  intro l
  induction l with
  | nil => intro seen h x hx; cases hx
  | cons a l ih =>
    intro seen h x hx
    unfold seqB at h
    split at h
    · omega
    · split at h
      · omega
      · split at h
        · rename_i h0
          rcases List.mem_cons.1 hx with rfl | hx
          · exact h0
          · exact ih _ h x hx
        · rename_i h0
          exact absurd h h0

theorem mat_ok {m : Mat} {n : Nat} (h : numB m n = 0) : MatOk m n := by
  unfold numB at h
  split at h
  · omega
  rename_i h1
  split at h
  · omega
  rename_i h2
  split at h
  · omega
  rename_i h3
  split at h
  · omega
  rename_i h4
  simp only [Bool.not_eq_false, Bool.and_eq_true] at h1 h2 h3
  obtain ⟨e1, e2⟩ := allWithin_iff h3
  exact ⟨between_iff h1.1, between_iff h1.2, between_iff h2.1.1, between_iff h2.1.2, between_iff h2.2, e1, e2, by omega⟩

theorem prp_ok {p : Prp} {n : Nat} (h : prpB n p = 0) : PrpOk p n := by
  unfold prpB at h
  split at h
  · omega
  rename_i h1
  simp only [Bool.not_eq_false, Bool.and_eq_true] at h1
  obtain ⟨e1, e2⟩ := allBetween_iff h1.1
  exact ⟨e1, e2, within_iff h1.2⟩

theorem ok_of {b : Bat} (h : checkB b = 0) : OkB b := by
  unfold checkB at h
  split at h
  · rename_i h1; exact absurd h h1
  rename_i h1
  split at h
  · rename_i h1; exact absurd h h1
  rename_i h2
  split at h
  · omega
  rename_i h3
  split at h
  · rename_i h1; exact absurd h h1
  rename_i h4
  split at h
  · omega
  rename_i h5
  simp only [ne_eq, Decidable.not_not] at h1 h2 h4
  simp only [Bool.not_eq_false, Bool.and_eq_true] at h3 h5
  have o : 1 ≤ b.oxides.length ∧ b.oxides.length ≤ 12 := by
    unfold oxB at h1
    split at h1
    · omega
    split at h1
    · omega
    omega
  have m : 1 ≤ b.mats.length ∧ b.mats.length ≤ 12 ∧ ∀ m ∈ b.mats, numB m b.oxides.length = 0 := by
    unfold matsB at h2
    split at h2
    · omega
    split at h2
    · omega
    exact ⟨by omega, by omega, seqB_zero _ _ _ _ h2⟩
  have p : b.props.length ≤ 6 ∧ ∀ p ∈ b.props, prpB b.oxides.length p = 0 := by
    unfold prpsB at h4
    split at h4
    · omega
    exact ⟨by omega, seqB_zero _ _ _ _ h4⟩
  obtain ⟨e1, e2⟩ := allWithin_iff h3
  exact ⟨o, ⟨m.1, m.2.1⟩, fun x hx => mat_ok (m.2.2 x hx), e1, e2, p.1, fun x hx => prp_ok (p.2 x hx), within_iff h5.1, between_iff h5.2⟩

end Go.Proofs.YtmmlocjiegkjeaaGreatDoor.B1

namespace Go.Proofs.YtmmlocjiegkjeaaGreatDoor.B1

open Go.RowKit Go.PlainAid

set_option linter.unusedVariables false

theorem rec_len {b : Bat} {r : List Int} (h : bothB b r = 0) : checkB b = 0 ∧ r.length = b.mats.length ∧ ∀ x ∈ r, 0 ≤ x ∧ x ≤ 10000 := by
  unfold bothB at h
  split at h
  · rename_i h1; exact absurd h h1
  rename_i h1
  simp only [ne_eq, Decidable.not_not] at h1
  unfold recB at h
  split at h
  · rename_i h2
    exact ⟨h1, allBetween_iff h2⟩
  · omega

end Go.Proofs.YtmmlocjiegkjeaaGreatDoor.B1

namespace Go.Proofs.YtmmlocjiegkjeaaGreatDoor.B1

open Go.RowKit Go.PlainAid

set_option linter.unusedVariables false

def cont (b : Bat) (k q : Nat) : Sp := match b.mats[k]? with | some m => m.content.getD q ⟨0, 0⟩ | none => ⟨0, 0⟩

def loSum (b : Bat) (r : List Int) (c q : Nat) : Int := ((List.range c).map fun k => r.getD k 0 * (cont b k q).lo).sum

def hiSum (b : Bat) (r : List Int) (c q : Nat) : Int := ((List.range c).map fun k => r.getD k 0 * (cont b k q).hi).sum

def gAt (b : Bat) (r : List Int) (c q : Nat) : Sp := ⟨wrap64 (loSum b r c q), wrap64 (hiSum b r c q)⟩

/-- behind c materials, and behind j oxides of the next one. -/
def gTo (b : Bat) (r : List Int) (c j : Nat) : List Sp := (List.range b.oxides.length).map fun q => gAt b r (if q < j then c + 1 else c) q

def gramsB (b : Bat) (r : List Int) : List Sp := gTo b r b.mats.length 0

theorem gTo_len (b : Bat) (r : List Int) (c j : Nat) : (gTo b r c j).length = b.oxides.length := by simp [gTo]

theorem gTo_get (b : Bat) (r : List Int) (c j q : Nat) (h : q < (gTo b r c j).length) : (gTo b r c j)[q] = gAt b r (if q < j then c + 1 else c) q := by simp [gTo]

theorem gTo_next (b : Bat) (r : List Int) (c j : Nat) (h : b.oxides.length ≤ j) : gTo b r c j = gTo b r (c + 1) 0 := by
  unfold gTo
  apply List.map_congr_left
  intro q hq
  have := List.mem_range.1 hq
  rw [if_pos (by omega), if_neg (by omega)]

theorem gAt_succ (b : Bat) (r : List Int) (c q : Nat) (m : Mat) (s : Sp) (hm : b.mats[c]? = some m) (hs : m.content[q]? = some s) :
    gAt b r (c + 1) q = ⟨wrap64 ((gAt b r c q).lo + wrap64 (r.getD c 0 * s.lo)), wrap64 ((gAt b r c q).hi + wrap64 (r.getD c 0 * s.hi))⟩ := by
  have e : cont b c q = s := by simp [cont, hm, List.getD, hs]
  unfold gAt
  simp only [wrap_add', wrap_add]
  unfold loSum hiSum
  rw [List.range_succ, List.map_append, List.map_append, List.map_singleton, List.map_singleton, sum_snoc, sum_snoc, e]

theorem gTo_set (b : Bat) (r : List Int) (c j : Nat) (h : j < b.oxides.length) : (gTo b r c j).set j (gAt b r (c + 1) j) = gTo b r c (j + 1) := by
  apply List.ext_getElem
  · simp [gTo]
  intro q h1 h2
  rw [gTo_get]
  by_cases hq : q = j
  · subst hq
    rw [List.getElem_set_self, if_pos (by omega)]
  · rw [List.getElem_set_ne (by omega), gTo_get]
    by_cases hj : q < j
    · rw [if_pos hj, if_pos (by omega)]
    · rw [if_neg hj, if_neg (by omega)]

theorem flat_set0 (l : List Sp) (j : Nat) (a : Int) (h : j < l.length) : (l.flatMap spCells).set (j * 2) (.int .i64 a) = (l.set j ⟨a, (l[j]'h).hi⟩).flatMap spCells := by
  induction l generalizing j with
  | nil => simp at h
  | cons x l ih =>
    cases j with
    | zero => rfl
    | succ j =>
      rw [show (j + 1) * 2 = j * 2 + 2 from by omega]
      show Value.int .i64 x.lo :: Value.int .i64 x.hi :: ((l.flatMap spCells).set (j * 2) (.int .i64 a)) = Value.int .i64 x.lo :: Value.int .i64 x.hi :: ((l.set j ⟨a, (l[j]'(by simpa using h)).hi⟩).flatMap spCells)
      rw [ih j (by simpa using h)]

theorem flat_set1 (l : List Sp) (j : Nat) (a : Int) (h : j < l.length) : (l.flatMap spCells).set (j * 2 + 1) (.int .i64 a) = (l.set j ⟨(l[j]'h).lo, a⟩).flatMap spCells := by
  induction l generalizing j with
  | nil => simp at h
  | cons x l ih =>
    cases j with
    | zero => rfl
    | succ j =>
      rw [show (j + 1) * 2 + 1 = j * 2 + 1 + 2 from by omega]
      show Value.int .i64 x.lo :: Value.int .i64 x.hi :: ((l.flatMap spCells).set (j * 2 + 1) (.int .i64 a)) = Value.int .i64 x.lo :: Value.int .i64 x.hi :: ((l.set j ⟨(l[j]'(by simpa using h)).lo, a⟩).flatMap spCells)
      rw [ih j (by simpa using h)]

theorem zero_spans (n : Nat) : (madeCells #[Value.int .i64 0, Value.int .i64 0] (n * 2)).toList = (List.replicate n (⟨0, 0⟩ : Sp)).flatMap spCells := by
  apply List.ext_getElem?
  intro j
  by_cases hj : j < n * 2
  · obtain ⟨q, t, ht, rfl⟩ : ∃ q t, t < 2 ∧ j = q * 2 + t := ⟨j / 2, j % 2, by omega, by omega⟩
    rw [flat_at spCells 2 (fun _ => rfl) _ q t (by simp; omega) ht]
    simp only [List.getElem_replicate]
    have : t = 0 ∨ t = 1 := by omega
    rcases this with rfl | rfl
    · simp only [madeCells, spCells, Nat.add_zero] at hj ⊢
      simp
      exact ⟨q * 2, by rw [List.getElem?_range (by omega)], by simp⟩
    · simp only [madeCells, spCells] at hj ⊢
      simp
      exact ⟨q * 2 + 1, by rw [List.getElem?_range (by omega)], by simp [Nat.add_mod]⟩
  · rw [List.getElem?_eq_none (by simp [madeCells]; omega), List.getElem?_eq_none (by rw [flat_len spCells 2 (fun _ => rfl)]; simp; omega)]

theorem gTo_zero (b : Bat) (r : List Int) : gTo b r 0 0 = List.replicate b.oxides.length ⟨0, 0⟩ := by
  apply List.ext_getElem
  · simp [gTo]
  intro q h1 h2
  rw [gTo_get, List.getElem_replicate, if_neg (by omega)]
  simp [gAt, loSum, hiSum, wrap64]

end Go.Proofs.YtmmlocjiegkjeaaGreatDoor.B1

namespace Go.Proofs.YtmmlocjiegkjeaaGreatDoor.B1

open Go.RowKit Go.PlainAid

set_option linter.unusedVariables false

def RetSps (w : World) (l : List Sp) (e : Ending) (w' : World) : Prop := ∃ v, e = .returned v ∧ RSps (vis (w.heap.size ≤ ·) w') v l ∧ Below w.heap.size w w'

set_option maxRecDepth 100000 in
theorem grams_any (vb rv : Value) (b : Bat) (r : List Int) (w : World) (h : RBat w vb b) (hr : RInts w rv r) (hk : OkB b) (hlr : r.length = b.mats.length) :
    Calls Tryz.prog 46 #[vb, rv] w (RetSps w (gramsB b r)) := by
  obtain ⟨v0, v1, v2, v3, rfl, h0, h1, h2, h3, i1, i2, i3⟩ := id h
  obtain ⟨a0, k0, rfl, -, ⟨-, l0⟩, -⟩ := h0
  obtain ⟨a1, k1, rfl, -, ⟨-, l1⟩, hl⟩ := h1
  obtain ⟨a2, k2, rfl, -, ⟨-, l2⟩, -⟩ := h2
  obtain ⟨a3, k3, rfl, -, ⟨-, l3⟩, -⟩ := h3
  obtain ⟨ar, kr, rfl, -, ⟨-, lr⟩, hrl⟩ := hr
  obtain ⟨i0, hi, hz0, hz1, hz2⟩ := info_parts info_span
  have hn := hk.ox
  have hms := hk.mt
  have hmc := fun m hm => (hk.mats m hm).len
  have hA0 := below_box w (.cells #[.slice a0 b.oxides.length k0, .slice a1 b.mats.length k1, .slice a2 b.shares.length k2, .slice a3 b.props.length k3, .int .i64 b.redox.lo, .int .i64 b.redox.hi, .int .i64 b.wanted] 32)
  have hB0 := Blk.new w #[.slice a0 b.oxides.length k0, .slice a1 b.mats.length k1, .slice a2 b.shares.length k2, .slice a3 b.props.length k3, .int .i64 b.redox.lo, .int .i64 b.redox.hi, .int .i64 b.wanted] 32
  clear h
  go_enter Tryz.func46, Tryz.ntmps46
  go_wp2_with (at_make; refine wpList_make_full _ rfl _ _ _ rfl (w.heap.size + 1) 30 i0 (.agg #[.int .i64 0, .int .i64 0]) 2 Tryz.underlying27 hi hz0 hz1 .i64 .i64 _ _ b.oxides.length rfl rfl rfl rfl ?_ ?_ ?_ ?_)
  · rw [hz2]; omega
  · unfold maxLen; omega
  · simp
  intro W1 hown hgrow
  have hA1 := hA0.grown hgrow (by simp) (by intro k hk; cases hk)
  have hC1 : Below (w.heap.size + 1) _ W1 := Below.grown (Below.refl _ _) hgrow (by simp) (by intro k hk; cases hk)
  have hB1 := hB0.below hC1 (by omega)
  have hlt1 : w.heap.size + 1 < W1.heap.size := own_lt hown _ rfl
  rw [zero_spans, ← gTo_zero b r] at hown
  have m1 : W1.cell? ⟨w.heap.size, 1, none⟩ = some (.slice a1 b.mats.length k1) := hB1.cell 1 _ rfl
  clear hA0 hgrow hC1 hB0
  go_wp2
  go_loopw [17] (fun i wr => ∃ (c : Nat), c ≤ b.mats.length ∧ i = .int .i64 c ∧ wr.ownsRow (w.heap.size + 1) 30 2 (.slice (some ⟨w.heap.size + 1, 0, none⟩) b.oxides.length b.oxides.length) b.oxides.length ((gTo b r c 0).flatMap spCells) ∧ Below (w.heap.size + 1) W1 wr) (fun i _ => b.mats.length - (intOf i).toNat)
  case atStart => exact ⟨0, Nat.zero_le _, rfl, hown, Below.refl _ _⟩
  case round =>
    clear hown
    obtain ⟨c, hc, rfl, hown, hb⟩ := hrel
    have hfinB := hA1.trans (hb.mono (by omega))
    by_cases hlt : c < b.mats.length
    · obtain ⟨b1, o1, rfl, vc, ⟨g0, g1, g2, g3, g4, g5, g6⟩, hcon, hs⟩ := hl c hlt
      obtain ⟨ac, kc, rfl, -, ⟨-, lc⟩, hcl⟩ := id hcon
      have hmlen := hmc _ (List.getElem_mem hlt)
      have hget : b.mats[c]? = some (b.mats[c]'hlt) := List.getElem?_eq_getElem hlt
      obtain ⟨b2, o2, rfl, q1, -⟩ := hrl c (by omega)
      have hrget : r.getD c 0 = r[c]'(by omega) := by simp [List.getD, List.getElem?_eq_getElem (show c < r.length by omega)]
      have hcr : c < r.length := by omega
      have hbl := cell_lt g0
      have hbl2 := cell_lt q1
      simp only at g0 g1 g2 g3 g4 g5 g6 hbl hbl2
      simp only [Nat.mul_one] at q1
      obtain ⟨hcc, hzz⟩ := bcell hfinB
      have hlr2 : w.heap.size + 1 < wr.heap.size := own_lt hown _ rfl
      have HG := Lib.hid hget
      have HR := Lib.hid hrget
      have HL := Lib.hid hmlen
      clear hl hrl hmc hs hcon hget hrget hmlen
      generalize b.mats[c] = m at *
      generalize r[c]'(by omega) = rc at *
      go_wp2_with fail
      have hAm := below_box wr (.cells #[.string m.name, .int .i64 m.price, .int .i64 m.redox, .int .i64 m.least, .int .i64 m.most, .int .i64 m.step, .slice ac m.content.length kc] 49)
      have hfin1 := hfinB.trans (hAm.mono hfinB.size)
      have hb1 := hb.trans (hAm.mono (by omega))
      have hown1 := own_below hown hAm (own_lt hown)
      generalize wr.alloc (.cells #[.string m.name, .int .i64 m.price, .int .i64 m.redox, .int .i64 m.least, .int .i64 m.most, .int .i64 m.step, .slice ac m.content.length kc] 49) = Wm at *
      clear hcc hzz hAm hown hb hfinB g0 g1 g2 g3 g4 g5 g6
      have hszm := hfin1.size
      have hwm : w.heap.size + 1 < Wm.heap.size := own_lt hown1 _ rfl
      clear hlr2
      obtain ⟨wo, hwo⟩ : ∃ wo : World, wo = wr := ⟨_, rfl⟩
      subst hwo
      go_loopw [25] (fun i wr => ∃ (j : Nat), j ≤ m.content.length ∧ i = .int .i64 j ∧ wr.ownsRow (w.heap.size + 1) 30 2 (.slice (some ⟨w.heap.size + 1, 0, none⟩) b.oxides.length b.oxides.length) b.oxides.length ((gTo b r c j).flatMap spCells) ∧ Below (w.heap.size + 1) Wm wr) (fun i _ => m.content.length - (intOf i).toNat)
      case atStart => exact ⟨0, Nat.zero_le _, rfl, hown1, Below.refl _ _⟩
      case round =>
        clear hown1
        obtain ⟨j, hj, rfl, hown, hb⟩ := hrel
        have hfin2 := hfin1.trans (hb.mono (by omega))
        by_cases hlj : j < m.content.length
        · obtain ⟨b3, o3, rfl, s1, s2, -, -⟩ := hcl j hlj
          have hsget : m.content[j]? = some (m.content[j]'hlj) := List.getElem?_eq_getElem hlj
          have hjn : j < b.oxides.length := by rw [← HL.out]; exact hlj
          have hstep := gAt_succ b r c j m _ HG.out hsget
          have hset := gTo_set b r c j hjn
          have hjl : j < (gTo b r c j).length := by rw [gTo_len]; exact hjn
          have hold := gTo_get b r c j j hjl
          rw [if_neg (Nat.lt_irrefl j)] at hold
          rw [HR.out] at hstep
          have hbl3 := cell_lt s1
          simp only at s1 s2 hbl3
          obtain ⟨hcc, hzz⟩ := bcell hfin2
          have HS := Lib.hid hstep
          have HT := Lib.hid hset
          clear hcl hsget hstep hset
          generalize m.content[j] = s at *
          go_wp2_with fail
          have W2 := below_box wr (.cells #[.int .i64 s.lo, .int .i64 s.hi] 30)
          have B2 := Blk.new wr #[.int .i64 s.lo, .int .i64 s.hi] 30
          have hown2 := own_below hown W2 (own_lt hown)
          have hb2 := hb.trans (W2.mono (by have := hb.size; omega))
          have q1' := ext_of_below (hfin2.trans (W2.mono hfin2.size)) _ _ q1
          have p0 := B2.cell 0 (.int .i64 s.lo) rfl
          have p1 := B2.cell 1 (.int .i64 s.hi) rfl
          have hnr : w.heap.size + 1 < wr.heap.size := own_lt hown _ rfl
          generalize hgn : wr.heap.size = nr at *
          generalize wr.alloc (.cells #[.int .i64 s.lo, .int .i64 s.hi] 30) = W4 at *
          have t0 := hown2.cellAt (j * 2) (by omega)
          have t1 := hown2.cellAt (j * 2 + 1) (by omega)
          rw [show (j * 2) = j * 2 + 0 from rfl, flat_at spCells 2 (fun _ => rfl) _ j 0 hjl (by omega), hold] at t0
          rw [flat_at spCells 2 (fun _ => rfl) _ j 1 hjl (by omega), hold] at t1
          replace t0 : W4.cell? ⟨w.heap.size + 1, j * 2, none⟩ = some (.int .i64 (gAt b r c j).lo) := t0
          replace t1 : W4.cell? ⟨w.heap.size + 1, j * 2 + 1, none⟩ = some (.int .i64 (gAt b r c j).hi) := t1
          have z0 := hown2.frozenAt (j * 2)
          have z1 := hown2.frozenAt (j * 2 + 1)
          have hown3 := (hown2.stored (j * 2) (.int .i64 (wrap64 ((gAt b r c j).lo + wrap64 (rc * s.lo))))).1
          rw [flat_set0 _ j _ hjl, hold] at hown3
          have hown4 := (hown3.stored (j * 2 + 1) (.int .i64 (wrap64 ((gAt b r c j).hi + wrap64 (rc * s.hi))))).1
          rw [flat_set1 _ j _ (by simpa using hjl)] at hown4
          simp only [List.getElem_set_self, List.set_set] at hown4
          rw [← HS.out, HT.out] at hown4
          have hb4 := (hb2.setCell (p := ⟨w.heap.size + 1, j * 2, none⟩) (by simp) (.int .i64 (wrap64 ((gAt b r c j).lo + wrap64 (rc * s.lo))))).setCell (p := ⟨w.heap.size + 1, j * 2 + 1, none⟩) (by simp) (.int .i64 (wrap64 ((gAt b r c j).hi + wrap64 (rc * s.hi))))
          have j1 : (0 : Int) ≤ (j : Int) := Int.natCast_nonneg _
          have j2 : (j : Int) < (b.oxides.length : Int) := by omega
          have j3 : (0 : Int) ≤ (c : Int) := Int.natCast_nonneg _
          have j4 : (c : Int) < (b.mats.length : Int) := by omega
          have HO := Lib.hid hown4
          have HB := Lib.hid hb4
          clear hown hown2 hown3 hown4 hb2 hb4 W2 B2 hcc hzz hb hfin2 hold HS HT s1 s2 hgn
          generalize gAt b r c j = g at *
          go_region
          go_wp2
          go_region
          go_wp2
          go_roundw
          case rel => exact ⟨j + 1, by omega, by go_num, own_drew (own_drew HO.out), HB.out.drew.drew⟩
          case measure => simp [intOf]; omega
        · have hnext := gTo_next b r c j (by rw [← HL.out]; omega)
          rw [hnext] at hown
          have hbF := hb1.trans hb
          clear hnext hcl hb hfin2
          go_wp2
          go_roundw
          case rel => exact ⟨c + 1, by omega, by go_num, hown, hbF⟩
          case measure => simp [intOf]; omega
    · have hfin : (gTo b r c 0) = gramsB b r := by unfold gramsB; rw [show c = b.mats.length from by omega]
      rw [hfin] at hown
      have hRI := own_RSps (l := gramsB b r) (by unfold gramsB; rw [gTo_len]; exact own_vis (S := (w.heap.size ≤ ·)) hown (by intro g hg; simp [Value.ownBlock] at hg; omega)) (by unfold gramsB; rw [gTo_len]; omega)
        (by intro x hx; unfold gramsB gTo at hx; obtain ⟨q, _, rfl⟩ := List.mem_map.1 hx; exact ⟨wrap_I64 _, wrap_I64 _⟩)
      have HR := Lib.hid hRI
      clear hRI hown hfin hl hrl hmc hb
      go_wp2
      go_ret
      exact ⟨_, rfl, HR.out, hfinB⟩

end Go.Proofs.YtmmlocjiegkjeaaGreatDoor.B1

namespace Go.Proofs.YtmmlocjiegkjeaaGreatDoor.B1

open Go.RowKit Go.PlainAid

set_option linter.unusedVariables false

def maxTo (l : List Int) (k : Nat) : Int := (l.take k).foldl max (l.getD 0 0)

def maxB (l : List Int) : Int := l.foldl max (l.getD 0 0)

theorem maxTo_succ (l : List Int) (k : Nat) (h : k < l.length) : maxTo l (k + 1) = max (maxTo l k) l[k] := by
  unfold maxTo
  rw [List.take_succ_eq_append_getElem h, List.foldl_append]
  rfl

set_option maxRecDepth 100000 in
theorem max_any (v : Value) (l : List Int) (w : World) (h : RInts w v l) (hn : 1 ≤ l.length) :
    Calls Tryz.prog 85 #[v] w fun e w' => e = .returned (.int .i64 (maxB l)) ∧ w = w' := by
  obtain ⟨a, kap, rfl, hc1, ⟨hc2, hm⟩, hl⟩ := h
  obtain ⟨b, off, rfl, h0, -⟩ := hl 0 (by omega)
  simp only [Nat.zero_mul, Nat.add_zero] at h0
  have hge : ¬ (l.length : Int) < 1 := by omega
  have hpos : 0 < l.length := by omega
  have hM : l[0] = maxTo l 1 := by
    have := maxTo_succ l 0 (by omega)
    rw [this]; unfold maxTo
    simp [List.getD, List.getElem?_eq_getElem hpos]
  have HM := Lib.hid hM
  clear hM
  go_enter Tryz.func85, Tryz.ntmps85
  go_wp2
  go_loop [3, 4] (fun m i => ∃ (k : Nat) (x : Int), 1 ≤ k ∧ k ≤ l.length ∧ i = .int .i64 k ∧ m = .int .i64 x ∧ Hid (x = maxTo l k)) (fun _ i => l.length - (intOf i).toNat)
  case atStart => exact ⟨1, _, by omega, by omega, rfl, rfl, HM⟩
  case round =>
    obtain ⟨k, x, hk1, hk, rfl, rfl, hx⟩ := hrel
    by_cases hlt : k < l.length
    · obtain ⟨b', off', e, h1, -⟩ := hl k hlt
      simp only [Option.some.injEq, Addr.mk.injEq, and_true] at e
      obtain ⟨rfl, rfl⟩ := e
      simp only [Nat.mul_one] at h1
      have hst := maxTo_succ l k hlt
      rw [← hx.out] at hst
      have HS := Lib.hid hst
      clear hl hst hx h0
      generalize l[k] = y at *
      by_cases hxy : x < y
      · have hX : maxTo l (k + 1) = y := by rw [HS.out]; omega
        have HX := Lib.hid hX.symm
        clear hX HS
        go_wp2
        go_round
        case rel => exact ⟨k + 1, _, by omega, by omega, by go_num, rfl, HX⟩
        case measure => simp [intOf]; omega
      · have hX : maxTo l (k + 1) = x := by rw [HS.out]; omega
        have HX := Lib.hid hX.symm
        clear hX HS
        go_wp2
        go_round
        case rel => exact ⟨k + 1, _, by omega, by omega, by go_num, rfl, HX⟩
        case measure => simp [intOf]; omega
    · have hX : x = maxB l := by rw [hx.out]; unfold maxTo maxB; rw [List.take_of_length_le (by omega)]
      have HX := Lib.hid hX
      clear hX hx hl
      go_wp2
      go_ret
      exact ⟨ret_int HX.out, rfl⟩

end Go.Proofs.YtmmlocjiegkjeaaGreatDoor.B1

namespace Go.Proofs.YtmmlocjiegkjeaaGreatDoor.B1

open Go.RowKit Go.PlainAid

set_option linter.unusedVariables false

structure MeanOk (c : List Int) (g : List Sp) : Prop where
  len : c.length = g.length
  n : 1 ≤ c.length ∧ c.length ≤ 12
  hc : ∀ x ∈ c, -10000 ≤ x ∧ x ≤ 10000
  hg : ∀ s ∈ g, 0 ≤ s.lo ∧ s.lo ≤ s.hi ∧ s.hi ≤ 1000000000
  pos : 1 ≤ (g.map Sp.lo).sum

def pickB (t c : Int) (s : Sp) : Int := if t ≤ c then s.hi else s.lo

def sumTo (c : List Int) (g : List Sp) (t : Int) (k : Nat) : Int := ((List.range k).map fun i => c.getD i 0 * pickB t (c.getD i 0) (g.getD i ⟨0, 0⟩)).sum

def wTo (c : List Int) (g : List Sp) (t : Int) (k : Nat) : Int := ((List.range k).map fun i => pickB t (c.getD i 0) (g.getD i ⟨0, 0⟩)).sum

def meanB (c : List Int) (g : List Sp) (t : Int) : Int := -(-(sumTo c g t c.length) / wTo c g t c.length)

def meansB (c : List Int) (g : List Sp) : List Int := c.map (meanB c g)

def gmB (c : List Int) (g : List Sp) : Int := maxB (meansB c g)

theorem sumTo_succ (c : List Int) (g : List Sp) (t : Int) (k : Nat) : sumTo c g t (k + 1) = sumTo c g t k + c.getD k 0 * pickB t (c.getD k 0) (g.getD k ⟨0, 0⟩) := by
  unfold sumTo
  rw [List.range_succ, List.map_append, List.map_singleton, sum_snoc]

theorem wTo_succ (c : List Int) (g : List Sp) (t : Int) (k : Nat) : wTo c g t (k + 1) = wTo c g t k + pickB t (c.getD k 0) (g.getD k ⟨0, 0⟩) := by
  unfold wTo
  rw [List.range_succ, List.map_append, List.map_singleton, sum_snoc]

theorem pick_bd {g : List Sp} (hg : ∀ s ∈ g, 0 ≤ s.lo ∧ s.lo ≤ s.hi ∧ s.hi ≤ 1000000000) (t x : Int) (k : Nat) (hk : k < g.length) : (g.getD k ⟨0, 0⟩).lo ≤ pickB t x (g.getD k ⟨0, 0⟩) ∧ 0 ≤ pickB t x (g.getD k ⟨0, 0⟩) ∧ pickB t x (g.getD k ⟨0, 0⟩) ≤ 1000000000 := by
  have h := hg _ (List.getElem_mem hk)
  rw [show g.getD k ⟨0, 0⟩ = g[k] from by simp [List.getD, List.getElem?_eq_getElem hk]]
  unfold pickB
  split <;> omega

theorem wTo_bd {c : List Int} {g : List Sp} (h : MeanOk c g) (t : Int) : ∀ k, k ≤ c.length → 0 ≤ wTo c g t k ∧ wTo c g t k ≤ 1000000000 * k ∧ ((g.take k).map Sp.lo).sum ≤ wTo c g t k := by
  intro k
  induction k with
  | zero => intro _; simp [wTo]
  | succ k ih =>
    intro hk
    have h1 := ih (by omega)
    have h2 := pick_bd h.hg t (c.getD k 0) k (by rw [← h.len]; omega)
    have hkl : k < g.length := by rw [← h.len]; omega
    rw [wTo_succ, List.take_succ_eq_append_getElem hkl, List.map_append, List.map_singleton, sum_snoc]
    rw [show g.getD k ⟨0, 0⟩ = g[k] from by simp [List.getD, List.getElem?_eq_getElem hkl]] at h2 ⊢
    refine ⟨by omega, by omega, by omega⟩

theorem mul_bd {a b : Int} (ha : -10000 ≤ a ∧ a ≤ 10000) (hb : 0 ≤ b ∧ b ≤ 1000000000) : -10000000000000 ≤ a * b ∧ a * b ≤ 10000000000000 := by
  have h1 : a * b ≤ 10000 * b := Int.mul_le_mul_of_nonneg_right ha.2 hb.1
  have h2 : -10000 * b ≤ a * b := Int.mul_le_mul_of_nonneg_right ha.1 hb.1
  omega

theorem sumTo_bd {c : List Int} {g : List Sp} (h : MeanOk c g) (t : Int) : ∀ k, k ≤ c.length → -(10000000000000 * k) ≤ sumTo c g t k ∧ sumTo c g t k ≤ 10000000000000 * k := by
  intro k
  induction k with
  | zero => intro _; simp [sumTo]
  | succ k ih =>
    intro hk
    have h1 := ih (by omega)
    have h2 := pick_bd h.hg t (c.getD k 0) k (by rw [← h.len]; omega)
    have h3 := h.hc _ (List.getElem_mem (show k < c.length by omega))
    rw [show c[k]'(by omega) = c.getD k 0 from by simp [List.getD, List.getElem?_eq_getElem (show k < c.length by omega)]] at h3
    have h4 := mul_bd h3 ⟨h2.2.1, h2.2.2⟩
    rw [sumTo_succ]
    refine ⟨by omega, by omega⟩

theorem w_pos {c : List Int} {g : List Sp} (h : MeanOk c g) (t : Int) : 1 ≤ wTo c g t c.length := by
  have h1 := (wTo_bd h t c.length (Nat.le_refl _)).2.2
  rw [List.take_of_length_le (by rw [h.len]; exact Nat.le_refl _)] at h1
  have := h.pos
  omega

theorem mean_I64 {c : List Int} {g : List Sp} (h : MeanOk c g) (t : Int) : -200000000000000 ≤ meanB c g t ∧ meanB c g t ≤ 200000000000000 := by
  have h1 := sumTo_bd h t c.length (Nat.le_refl _)
  have h2 := Int.natAbs_ediv_le_natAbs (-(sumTo c g t c.length)) (wTo c g t c.length)
  have h3 := h.n
  unfold meanB
  omega

theorem sum_step2 {c : List Int} {g : List Sp} {t : Int} {k : Nat} {x y : Int} (hx : x = wrap64 (sumTo c g t k)) (hy : y = wrap64 (wTo c g t k)) :
    wrap64 (x + wrap64 (c.getD k 0 * pickB t (c.getD k 0) (g.getD k ⟨0, 0⟩))) = wrap64 (sumTo c g t (k + 1)) ∧ wrap64 (y + pickB t (c.getD k 0) (g.getD k ⟨0, 0⟩)) = wrap64 (wTo c g t (k + 1)) := by
  rw [hx, hy, wrap_add', wrap_add, wrap_add, sumTo_succ, wTo_succ]
  exact ⟨rfl, rfl⟩

set_option maxRecDepth 100000 in
theorem greatestMean_any (vc vg : Value) (c : List Int) (g : List Sp) (w : World) (hc : RInts w vc c) (hg : RSps w vg g) (hk : MeanOk c g) :
    Calls Tryz.prog 67 #[vc, vg] w fun e w' => e = .returned (.int .i64 (gmB c g)) ∧ Below w.heap.size w w' := by
  obtain ⟨ac, kc, rfl, -, ⟨-, lc⟩, hcl⟩ := hc
  obtain ⟨ag, kg, rfl, -, ⟨-, lg⟩, hgl⟩ := hg
  obtain ⟨i0, hi, hz0, hz1, hz2⟩ := info_parts info_int
  have hn := hk.n
  have hlen : c.length ≤ g.length := by rw [hk.len]; exact Nat.le_refl _
  go_enter Tryz.func67, Tryz.ntmps67
  go_wp2
  go_loopw [5, 15] (fun v i wr => ∃ (k : Nat) (l : List Int), k ≤ c.length ∧ i = .int .i64 k ∧ Hid (l = (c.take k).map (meanB c g)) ∧ wr.ownsRow w.heap.size 3 1 v l.length (l.map (Value.int .i64)) ∧ Below w.heap.size w wr) (fun _ i _ => c.length - (intOf i).toNat)
  case atStart => exact ⟨0, [], Nat.zero_le _, rfl, rfl, World.ownsRow_nil _ _ _ _, Below.refl _ _⟩
  case round =>
    obtain ⟨k, l, hkk, rfl, hx, hown, hb⟩ := hrel
    by_cases hlt : k < c.length
    · obtain ⟨b1, o1, rfl, q1, -⟩ := hcl k hlt
      simp only [Nat.mul_one] at q1
      have hbl := cell_lt q1
      simp only at hbl
      obtain ⟨hcc, hzz⟩ := bcell hb
      have hll : l.length ≤ 12 := by rw [hx.out]; simp; omega
      have hsn : l ++ [meanB c g (c[k]'hlt)] = (c.take (k + 1)).map (meanB c g) := by
        rw [hx.out, List.take_succ_eq_append_getElem hlt, List.map_append, List.map_singleton]
      have HSN := Lib.hid hsn
      clear hsn hx
      generalize c[k] = t at *
      go_wp2_with fail
      obtain ⟨wo, hwo⟩ : ∃ wo : World, wo = wr := ⟨_, rfl⟩
      subst hwo
      clear q1
      go_loop [8, 9, 21] (fun x y i => ∃ (j : Nat) (p q : Int), j ≤ c.length ∧ i = .int .i64 j ∧ x = .int .i64 p ∧ y = .int .i64 q ∧ Hid (p = wrap64 (sumTo c g t j) ∧ q = wrap64 (wTo c g t j))) (fun _ _ i => c.length - (intOf i).toNat)
      case atStart => exact ⟨0, 0, 0, Nat.zero_le _, rfl, rfl, rfl, by simp [Hid, sumTo, wTo, wrap64]⟩
      case round =>
        obtain ⟨j, p, q, hj, rfl, rfl, rfl, hpq⟩ := hrel
        by_cases hlj : j < c.length
        · obtain ⟨b1', o1', e, q1, -⟩ := hcl j hlj
          simp only [Option.some.injEq, Addr.mk.injEq, and_true] at e
          obtain ⟨rfl, rfl⟩ := e
          obtain ⟨b2, o2, rfl, q2, q3, -, -⟩ := hgl j (by omega)
          have hst := sum_step2 hpq.out.1 hpq.out.2
          have hlg : j < g.length := by omega
          rw [show c.getD j 0 = c[j]'hlj from by simp [List.getD, List.getElem?_eq_getElem hlj], show g.getD j ⟨0, 0⟩ = g[j]'hlg from by simp [List.getD, List.getElem?_eq_getElem hlg]] at hst
          have hbl2 := cell_lt q2
          simp only [Nat.mul_one] at q1 q2 q3 hbl2
          have HS := Lib.hid hst
          clear hst hpq hcl hgl hown HSN
          generalize c[j] = x at *
          generalize g[j]'hlg = s at *
          by_cases htx : t ≤ x
          · have hp : pickB t x s = s.hi := by simp [pickB, htx]
            have HP := Lib.hid hp
            clear hp
            go_wp2
            go_round
            case rel => exact ⟨j + 1, _, _, by omega, by go_num, rfl, rfl, by have := HS.out; rw [HP.out] at this; exact this⟩
            case measure => simp [intOf]; omega
          · have hp : pickB t x s = s.lo := by simp [pickB, htx]
            have HP := Lib.hid hp
            clear hp
            go_wp2
            go_round
            case rel => exact ⟨j + 1, _, _, by omega, by go_num, rfl, rfl, by have := HS.out; rw [HP.out] at this; exact this⟩
            case measure => simp [intOf]; omega
        · have hje : j = c.length := by omega
          have hsb := sumTo_bd hk t c.length (Nat.le_refl _)
          have hwb := wTo_bd hk t c.length (Nat.le_refl _)
          have hwp := w_pos hk t
          have hp : p = sumTo c g t c.length := by rw [hpq.out.1, hje]; exact wrap_id _ (by unfold I64; omega)
          have hq : q = wTo c g t c.length := by rw [hpq.out.2, hje]; exact wrap_id _ (by unfold I64; omega)
          have hup := up_any p q
          have hmb := mean_I64 hk t
          have HM : Hid (meanB c g t = -(-p / q)) := by unfold meanB; rw [hp, hq]; rfl
          have hp1 : -9223372036854775807 ≤ p ∧ p ≤ 9223372036854775807 := by omega
          have hq1 : 0 < q ∧ q ≤ 9223372036854775807 := by omega
          clear hpq hp hq hsb hwb hwp hcl hgl
          go_wp2_with fail
          refine (hup _ hp1 hq1).mono ?_
          rintro e w1 ⟨rfl, rfl⟩
          rw [← HM.out]
          have hown2 := hown.alloc (.cells #[.int .i64 (meanB c g t)] 3)
          go_wp2_with (at_builtin; refine wpList_append_own _ rfl _ _ 35 rfl w.heap.size 3 i0 (.int .i64 0) 1 8 Tryz.underlying35 hi hz0 hz1 hz2 rfl (by decide) _ l.length _ rfl hown2 ⟨wo.heap.size, 0, none⟩ 1 1 [.int .i64 (meanB c g t)] rfl rfl (cell_one_new _ _ _) (by simp [Value.oneCell']) (by unfold maxLen; omega) (by omega) (by simp; have := hb.size; omega) ?_; intro v6 w6 hown6 hgrow6 _)
          have hB6 := (hb.alloc hb.size (.cells #[.int .i64 (meanB c g t)] 3)).grown hgrow6 (by simp; have := hb.size; omega) (fun q hq => (hown2.lt q hq).1)
          have hownF : w6.ownsRow w.heap.size 3 1 v6 (l ++ [meanB c g t]).length ((l ++ [meanB c g t]).map (Value.int .i64)) := by simpa using hown6
          clear hown6 hown2 hgrow6 hown hb hup
          go_roundw
          case rel => exact ⟨k + 1, l ++ [meanB c g t], by omega, by go_num, HSN, hownF, hB6⟩
          case measure => simp [intOf]; omega
    · have hl : l = meansB c g := by rw [hx.out, List.take_of_length_le (by omega)]; rfl
      subst hl
      have hRI := own_RInts (l := meansB c g) hown (by unfold meansB; rw [List.length_map]; omega) (by intro x hx; obtain ⟨t, _, rfl⟩ := List.mem_map.1 hx; have := mean_I64 hk t; unfold I64; omega)
      have hml := max_any u5 (meansB c g) wr hRI (by unfold meansB; rw [List.length_map]; omega)
      clear hRI hown hx hcl hgl
      go_wp2_with fail
      refine hml.mono ?_
      rintro e w1 ⟨rfl, rfl⟩
      clear hml
      go_wp2
      go_ret
      exact ⟨rfl, hb⟩

end Go.Proofs.YtmmlocjiegkjeaaGreatDoor.B1

namespace Go.Proofs.YtmmlocjiegkjeaaGreatDoor.B1

open Go.RowKit Go.PlainAid

set_option linter.unusedVariables false

def negB (c : List Int) : List Int := c.map fun x => -x

def valueB (c : List Int) (g : List Sp) : Sp := ⟨-(gmB (negB c) g), gmB c g⟩

theorem neg_ok {c : List Int} {g : List Sp} (h : MeanOk c g) : MeanOk (negB c) g := by
  refine ⟨by simp [negB, h.len], by simpa [negB] using h.n, ?_, h.hg, h.pos⟩
  intro x hx
  obtain ⟨y, hy, rfl⟩ := List.mem_map.1 hx
  have := h.hc y hy
  omega

theorem foldl_max_bd (lo hi : Int) : ∀ (l : List Int) (a : Int), lo ≤ a ∧ a ≤ hi → (∀ x ∈ l, lo ≤ x ∧ x ≤ hi) → lo ≤ l.foldl max a ∧ l.foldl max a ≤ hi := by
  intro l
  induction l with
  | nil => intro a h _; exact h
  | cons x l ih =>
    intro a h hl
    have := hl x List.mem_cons_self
    exact ih _ (by omega) fun y hy => hl y (List.mem_cons_of_mem _ hy)

theorem gm_bd {c : List Int} {g : List Sp} (h : MeanOk c g) : -200000000000000 ≤ gmB c g ∧ gmB c g ≤ 200000000000000 := by
  have hm : ∀ x ∈ meansB c g, -200000000000000 ≤ x ∧ x ≤ 200000000000000 := by
    intro x hx
    obtain ⟨t, _, rfl⟩ := List.mem_map.1 hx
    exact mean_I64 h t
  unfold gmB maxB
  refine foldl_max_bd _ _ _ _ ?_ hm
  have hl : 0 < (meansB c g).length := by have := h.n; simp [meansB]; omega
  rw [show (meansB c g).getD 0 0 = (meansB c g)[0] from by simp [List.getD, List.getElem?_eq_getElem hl]]
  exact hm _ (List.getElem_mem hl)

def RetSp (w : World) (s : Sp) (e : Ending) (w' : World) : Prop := e = .returned (.agg #[.int .i64 s.lo, .int .i64 s.hi]) ∧ Below w.heap.size w w'

set_option maxRecDepth 100000 in
theorem value_any (vc vg : Value) (c : List Int) (g : List Sp) (w : World) (hc : RInts w vc c) (hg : RSps w vg g) (hk : MeanOk c g) :
    Calls Tryz.prog 48 #[vc, vg] w (RetSp w (valueB c g)) := by
  obtain ⟨ac, kc, rfl, -, ⟨-, lc⟩, hcl⟩ := id hc
  obtain ⟨i0, hi, hz0, hz1, hz2⟩ := info_parts info_int
  have hn := hk.n
  have hA0 := below_box w (.cells #[.int .i64 0, .int .i64 0] 30)
  have hB0 := Blk.new w #[.int .i64 0, .int .i64 0] 30
  go_enter Tryz.func48, Tryz.ntmps48
  go_wp2_with (at_make; refine wpList_make_full _ rfl _ _ _ rfl (w.heap.size + 1) 3 i0 (.int .i64 0) 1 Tryz.underlying35 hi hz0 hz1 .i64 .i64 _ _ c.length rfl rfl rfl rfl ?_ ?_ ?_ ?_)
  · rw [hz2]; omega
  · unfold maxLen; omega
  · simp
  intro W1 hown hgrow
  have hA1 := hA0.grown hgrow (by simp) (by intro k hk; cases hk)
  have hC1 : Below (w.heap.size + 1) _ W1 := Below.grown (Below.refl _ _) hgrow (by simp) (by intro k hk; cases hk)
  have hB1 := hB0.below hC1 (by omega)
  have hlt1 : w.heap.size + 1 < W1.heap.size := own_lt hown _ rfl
  rw [toList_madeCells_one, show List.replicate c.length (Value.int .i64 0) = (List.replicate c.length (0 : Int)).map (Value.int .i64) from by simp] at hown
  clear hA0 hgrow hC1 hB0
  go_wp2
  go_loopw [13] (fun i wr => ∃ (k : Nat) (ys : List Int), k ≤ c.length ∧ i = .int .i64 k ∧ Hid (ys.length = c.length ∧ ∀ j, j < k → ys.getD j 0 = (negB c).getD j 0) ∧ wr.ownsRow (w.heap.size + 1) 3 1 (.slice (some ⟨w.heap.size + 1, 0, none⟩) c.length c.length) c.length (ys.map (Value.int .i64)) ∧ Below (w.heap.size + 1) W1 wr) (fun i _ => c.length - (intOf i).toNat)
  case atStart => exact ⟨0, List.replicate c.length 0, Nat.zero_le _, rfl, ⟨by simp, by intro j hj; omega⟩, hown, Below.refl _ _⟩
  case round =>
    clear hown
    obtain ⟨k, ys, hkk, rfl, hx, hown, hb⟩ := hrel
    have hfinB := hA1.trans (hb.mono (by omega))
    by_cases hlt : k < c.length
    · obtain ⟨b1, o1, rfl, q1, -⟩ := hcl k hlt
      simp only [Nat.mul_one] at q1
      have hxk := hk.hc _ (List.getElem_mem hlt)
      have hng : (negB c).getD k 0 = -(c[k]'hlt) := by simp [negB, List.getD, List.getElem?_eq_getElem hlt]
      have hst : ∀ x, x = -(c[k]'hlt) → (ys.set k x).length = c.length ∧ ∀ j, j < k + 1 → (ys.set k x).getD j 0 = (negB c).getD j 0 := by
        intro x hxx
        refine ⟨by simpa using hx.out.1, fun j hj => ?_⟩
        by_cases hjk : j = k
        · subst hjk
          rw [hng, ← hxx]
          simp [List.getD, hx.out.1, hlt]
        · have h1 := hx.out.2 j (by omega)
          rw [← h1]
          simp only [List.getD]
          rw [List.getElem?_set_ne (by omega)]
      have HST := Lib.hid hst
      have e1 := hown.cellAt k (by omega)
      rw [List.getElem?_map, List.getElem?_eq_getElem (by rw [hx.out.1]; exact hlt), Option.map_some] at e1
      have e2 := hown.frozenAt k
      have hbl := cell_lt q1
      simp only at hbl
      obtain ⟨hcc, hzz⟩ := bcell hfinB
      clear hst hng hcl hc
      generalize c[k] = x at *
      have hown2 := (hown.stored k (.int .i64 (-x))).1
      rw [← List.map_set] at hown2
      have hb2 := hb.setCell (p := ⟨w.heap.size + 1, k, none⟩) (by simp) (.int .i64 (-x))
      clear hown hfinB hb
      go_wp2
      go_roundw
      case rel => exact ⟨k + 1, _, by omega, by go_num, HST.out _ rfl, hown2, hb2⟩
      case measure => simp [intOf]; omega
    · have hfin := ext_upto (negB c) ys (by rw [hx.out.1]; simp [negB]) (fun j hj => hx.out.2 j (by simp [negB] at hj; omega))
      subst hfin
      have hRI := own_RInts (l := negB c) (by unfold negB; rw [List.length_map]; exact hown) (by unfold negB; rw [List.length_map]; exact lc) (by intro x hx; obtain ⟨m, hm, rfl⟩ := List.mem_map.1 hx; have := hk.hc m hm; unfold I64; omega)
      have hg1 := greatestMean_any _ vg (negB c) g wr hRI (hg.mono (ext_of_below hfinB)) (neg_ok hk)
      have hBr := hB1.below hb (by omega)
      have hgb1 := gm_bd (neg_ok hk)
      clear hx hown hRI hcl hb hA1 hB1
      go_wp2_with fail
      refine hg1.mono ?_
      rintro e w2 ⟨rfl, hb2⟩
      have hA2 := hfinB.trans (hb2.mono hfinB.size)
      have hB2 := hBr.below hb2 hBr.lt
      have hg2 := greatestMean_any _ vg c g w2 (hc.mono (ext_of_below hA2)) (hg.mono (ext_of_below hA2)) hk
      clear hg1 hb2 hfinB hBr
      go_wp2_with fail
      refine hg2.mono ?_
      rintro e w3 ⟨rfl, hb3⟩
      have hA3 := hA2.trans (hb3.mono hA2.size)
      have hB3 := hB2.below hb3 hB2.lt
      have z0 : w3.cell? ⟨w.heap.size, 0, none⟩ = some (.int .i64 0) := hB3.cell 0 _ rfl
      have z1 : w3.cell? ⟨w.heap.size, 1, none⟩ = some (.int .i64 0) := hB3.cell 1 _ rfl
      have f0 := hB3.frozen 0
      have f1 := hB3.frozen 1
      clear hg2 hb3 hA2 hB2 hc hg
      go_wp2
      have B3 := (hB3.set 0 (.int .i64 (-(gmB (negB c) g)))).set 1 (.int .i64 (gmB c g))
      have d0 := B3.cell 0 (.int .i64 (-(gmB (negB c) g))) rfl
      have d1 := B3.cell 1 (.int .i64 (gmB c g)) rfl
      exact bodyPost_ret (v := .agg #[.int .i64 (-(gmB (negB c) g)), .int .i64 (gmB c g)]) (by simp only [results, Tryz.results48]; simp [go_sem, d0, d1]) rfl ⟨rfl, (hA3.setCell (p := ⟨w.heap.size, 0, none⟩) (by simp) _).setCell (p := ⟨w.heap.size, 1, none⟩) (by simp) _⟩

end Go.Proofs.YtmmlocjiegkjeaaGreatDoor.B1

namespace Go.Proofs.YtmmlocjiegkjeaaGreatDoor.B1

open Go.RowKit Go.PlainAid

set_option linter.unusedVariables false

theorem cont_ok {b : Bat} (h : OkB b) (k q : Nat) (hk : k < b.mats.length) (hq : q < b.oxides.length) : SpIn (cont b k q) 0 1000 := by
  have hm := h.mats _ (List.getElem_mem hk)
  unfold cont
  rw [List.getElem?_eq_getElem hk]
  have hl : q < (b.mats[k]).content.length := by rw [hm.len]; exact hq
  have := hm.spans _ (List.getElem_mem hl)
  simp only [List.getD, List.getElem?_eq_getElem hl, Option.getD_some]
  exact this

theorem prod_bd {a c : Int} (ha : 0 ≤ a ∧ a ≤ 10000) (hc : 0 ≤ c ∧ c ≤ 1000) : 0 ≤ a * c ∧ a * c ≤ 10000000 := by
  have h1 : a * c ≤ 10000 * c := Int.mul_le_mul_of_nonneg_right ha.2 hc.1
  have h2 : 0 ≤ a * c := Int.mul_nonneg ha.1 hc.1
  omega

theorem sums_ok {b : Bat} (h : OkB b) {r : List Int} (hr : ∀ x ∈ r, 0 ≤ x ∧ x ≤ 10000) (hl : r.length = b.mats.length) (q : Nat) (hq : q < b.oxides.length) :
    ∀ c, c ≤ b.mats.length → 0 ≤ loSum b r c q ∧ loSum b r c q ≤ hiSum b r c q ∧ hiSum b r c q ≤ 10000000 * c := by
  intro c
  induction c with
  | zero => intro _; simp [loSum, hiSum]
  | succ c ih =>
    intro hc
    have h1 := ih (by omega)
    have h2 := cont_ok h c q (by omega) hq
    have h3 := hr _ (List.getElem_mem (show c < r.length by omega))
    have e : r.getD c 0 = r[c]'(by omega) := by simp [List.getD, List.getElem?_eq_getElem (show c < r.length by omega)]
    have h4 := prod_bd h3 ⟨h2.lo, by have := h2.le; have := h2.hi; omega⟩
    have h5 := prod_bd h3 ⟨by have := h2.le; have := h2.lo; omega, h2.hi⟩
    have h6 : r[c]'(by omega) * (cont b c q).lo ≤ r[c]'(by omega) * (cont b c q).hi := Int.mul_le_mul_of_nonneg_left h2.le h3.1
    unfold loSum hiSum at h1 ⊢
    rw [List.range_succ, List.map_append, List.map_append, List.map_singleton, List.map_singleton, sum_snoc, sum_snoc, e]
    omega

theorem gAt_ok {b : Bat} (h : OkB b) {r : List Int} (hr : ∀ x ∈ r, 0 ≤ x ∧ x ≤ 10000) (hl : r.length = b.mats.length) (q : Nat) (hq : q < b.oxides.length) :
    gAt b r b.mats.length q = ⟨loSum b r b.mats.length q, hiSum b r b.mats.length q⟩ := by
  have h1 := sums_ok h hr hl q hq b.mats.length (Nat.le_refl _)
  have h2 := h.mt
  unfold gAt
  rw [wrap_id _ (by unfold I64; omega), wrap_id _ (by unfold I64; omega)]

theorem grams_ok {b : Bat} (h : OkB b) {r : List Int} (hr : ∀ x ∈ r, 0 ≤ x ∧ x ≤ 10000) (hl : r.length = b.mats.length) :
    ∀ s ∈ gramsB b r, 0 ≤ s.lo ∧ s.lo ≤ s.hi ∧ s.hi ≤ 120000000 := by
  intro s hs
  unfold gramsB gTo at hs
  obtain ⟨q, hq, rfl⟩ := List.mem_map.1 hs
  have hq := List.mem_range.1 hq
  rw [if_neg (by omega), gAt_ok h hr hl q hq]
  have h1 := sums_ok h hr hl q hq b.mats.length (Nat.le_refl _)
  have h2 := h.mt
  simp only
  omega

theorem sum_bd (f : Sp → Int) (m : Int) (hm : 0 ≤ m) : ∀ l : List Sp, (∀ s ∈ l, 0 ≤ f s ∧ f s ≤ m) → 0 ≤ (l.map f).sum ∧ (l.map f).sum ≤ m * l.length := by
  intro l
  induction l with
  | nil => intro _; simp
  | cons a l ih =>
    intro h
    have h1 := ih fun s hs => h s (List.mem_cons_of_mem _ hs)
    have h2 := h a List.mem_cons_self
    rw [List.map_cons, List.sum_cons, List.length_cons, Int.natCast_succ, Int.mul_add]
    omega

theorem tot_ok {b : Bat} (h : OkB b) {r : List Int} (hr : ∀ x ∈ r, 0 ≤ x ∧ x ≤ 10000) (hl : r.length = b.mats.length) :
    (tot (gramsB b r)).lo = ((gramsB b r).map Sp.lo).sum ∧ (tot (gramsB b r)).hi = ((gramsB b r).map Sp.hi).sum ∧ 0 ≤ ((gramsB b r).map Sp.lo).sum ∧ ((gramsB b r).map Sp.lo).sum ≤ 1440000000 ∧ 0 ≤ ((gramsB b r).map Sp.hi).sum ∧ ((gramsB b r).map Sp.hi).sum ≤ 1440000000 := by
  have hg := grams_ok h hr hl
  have hlen : (gramsB b r).length = b.oxides.length := gTo_len _ _ _ _
  have ho := h.ox
  have h1 := sum_bd Sp.lo 120000000 (by omega) (gramsB b r) fun s hs => by have := hg s hs; omega
  have h2 := sum_bd Sp.hi 120000000 (by omega) (gramsB b r) fun s hs => by have := hg s hs; omega
  rw [hlen] at h1 h2
  unfold tot
  simp only
  rw [wrap_id _ (by unfold I64; omega), wrap_id _ (by unfold I64; omega)]
  omega

theorem value_I64 {c : List Int} {g : List Sp} (h : MeanOk c g) : I64 (valueB c g).lo ∧ I64 (valueB c g).hi := by
  have h1 := gm_bd h
  have h2 := gm_bd (neg_ok h)
  unfold valueB I64
  simp only
  omega

/-- a list of spans, and an error. -/
def RetSpsE (w : World) (p : List Sp × Int) (e : Ending) (w' : World) : Prop := ∃ v, e = .returned (.tuple #[v, .int .i64 p.2]) ∧ RSps (vis (w.heap.size ≤ ·) w') v p.1 ∧ Below w.heap.size w w'

theorem RSps_nil (w : World) : RSps w (.slice none 0 0) [] := ⟨none, 0, rfl, Nat.le_refl _, ⟨by omega, by simp⟩, fun i h => by simp at h⟩

end Go.Proofs.YtmmlocjiegkjeaaGreatDoor.B1

namespace Go.Proofs.YtmmlocjiegkjeaaGreatDoor.B1

open Go.RowKit Go.PlainAid

set_option linter.unusedVariables false

def SomeB (w : World) (e : Ending) (w' : World) : Prop := ∃ t : Bool, e = .returned (.bool t) ∧ Below w.heap.size w w'

set_option maxRecDepth 100000 in
theorem great_any (v : Value) (b : Bat) (w : World) (h : RBat w v b) : Calls Tryz.prog 4 #[v] w (SomeB w) := by
  obtain ⟨v0, v1, v2, v3, rfl, h0, h1, h2, h3, i1, i2, i3⟩ := h
  obtain ⟨a0, k0, rfl, -, ⟨-, l0⟩, hl0⟩ := h0
  obtain ⟨a1, k1, rfl, -, ⟨-, l1⟩, hl1⟩ := h1
  obtain ⟨a2, k2, rfl, -, ⟨-, l2⟩, hl2⟩ := h2
  obtain ⟨a3, k3, rfl, -, ⟨-, l3⟩, hl3⟩ := h3
  have hA := below_box w (.cells #[.slice a0 b.oxides.length k0, .slice a1 b.mats.length k1, .slice a2 b.shares.length k2, .slice a3 b.props.length k3, .int .i64 b.redox.lo, .int .i64 b.redox.hi, .int .i64 b.wanted] 32)
  have hB := Blk.new w #[.slice a0 b.oxides.length k0, .slice a1 b.mats.length k1, .slice a2 b.shares.length k2, .slice a3 b.props.length k3, .int .i64 b.redox.lo, .int .i64 b.redox.hi, .int .i64 b.wanted] 32
  by_cases g0 : 20 < b.oxides.length
  · clear hl0 hl1 hl2 hl3 hB
    go_enter Tryz.func4, Tryz.ntmps4
    go_wp2
    go_ret
    exact ⟨_, rfl, hA⟩
  have d0 : decide ((20 : Int) < (b.oxides.length : Int)) = false := decide_eq_false (by omega)
  by_cases g1 : 20 < b.mats.length
  · clear hl0 hl1 hl2 hl3 hB
    go_enter Tryz.func4, Tryz.ntmps4
    go_wp2
    go_ret
    exact ⟨_, rfl, hA⟩
  have d1 : decide ((20 : Int) < (b.mats.length : Int)) = false := decide_eq_false (by omega)
  by_cases g2 : 20 < b.shares.length
  · clear hl0 hl1 hl2 hl3 hB
    go_enter Tryz.func4, Tryz.ntmps4
    go_wp2
    go_ret
    exact ⟨_, rfl, hA⟩
  have d2 : decide ((20 : Int) < (b.shares.length : Int)) = false := decide_eq_false (by omega)
  by_cases g3 : 20 < b.props.length
  · clear hl0 hl1 hl2 hl3 hB
    go_enter Tryz.func4, Tryz.ntmps4
    go_wp2
    go_ret
    exact ⟨_, rfl, hA⟩
  have d3 : decide ((20 : Int) < (b.props.length : Int)) = false := decide_eq_false (by omega)
  go_enter Tryz.func4, Tryz.ntmps4
  go_wp2
  generalize w.alloc (.cells #[.slice a0 b.oxides.length k0, .slice a1 b.mats.length k1, .slice a2 b.shares.length k2, .slice a3 b.props.length k3, .int .i64 b.redox.lo, .int .i64 b.redox.hi, .int .i64 b.wanted] 32) = W at *
  have f0 := hB.cell 0 (.slice a0 b.oxides.length k0) rfl
  have f1 := hB.cell 1 (.slice a1 b.mats.length k1) rfl
  have f3 := hB.cell 3 (.slice a3 b.props.length k3) rfl
  clear d0 d1 d2 d3 g0 g1 g2 g3
  go_loop [3, 4] (fun n i => ∃ (k : Nat) (x : Int), k ≤ b.oxides.length ∧ i = .int .i64 k ∧ n = .int .i64 x) (fun _ i => b.oxides.length - (intOf i).toNat)
  case atStart => exact ⟨0, 0, Nat.zero_le _, rfl, rfl⟩
  case round =>
    obtain ⟨k, x, hk, rfl, rfl⟩ := hrel
    by_cases hlt : k < b.oxides.length
    · obtain ⟨b1, o1, rfl, q1, q2⟩ := hl0 k hlt
      simp only [Nat.mul_one] at q1
      replace q1 := ext_of_below hA _ _ q1
      clear hl0 hl1 hl2 hl3
      generalize b.oxides[k] = s at *
      go_wp2
      go_round
      case rel => exact ⟨k + 1, _, by omega, by go_num, rfl⟩
      case measure => simp [intOf]; omega
    · clear hl0
      go_wp2
      clear hlt hk
      go_loop [3, 5] (fun n i => ∃ (k : Nat) (x : Int), k ≤ b.mats.length ∧ i = .int .i64 k ∧ n = .int .i64 x) (fun _ i => b.mats.length - (intOf i).toNat)
      case atStart => exact ⟨0, _, Nat.zero_le _, rfl, rfl⟩
      case round =>
        obtain ⟨k, x, hk, rfl, rfl⟩ := hrel
        by_cases hlt : k < b.mats.length
        · obtain ⟨b1, o1, rfl, vc, ⟨q0, q1, q2, q3, q4, q5, q6⟩, hc, hs⟩ := hl1 k hlt
          obtain ⟨ac, kc, rfl, -, ⟨-, hcm⟩, -⟩ := id hc
          simp only at q0 q6
          replace q0 := ext_of_below hA _ _ q0
          replace q6 := ext_of_below hA _ _ q6
          have hsn := hs.1
          clear hl1 hl2 hl3 hc hs q1 q2 q3 q4 q5
          generalize b.mats[k] = s at *
          by_cases h20 : 20 < s.content.length
          · go_wp2
            go_ret
            exact ⟨_, rfl, hA⟩
          · go_wp2
            go_round
            case rel => exact ⟨k + 1, _, by omega, by go_num, rfl⟩
            case measure => simp [intOf]; omega
        · clear hl1
          go_wp2
          clear hlt hk
          go_loop [3, 6] (fun n i => ∃ (k : Nat) (x : Int), k ≤ b.props.length ∧ i = .int .i64 k ∧ n = .int .i64 x) (fun _ i => b.props.length - (intOf i).toNat)
          case atStart => exact ⟨0, _, Nat.zero_le _, rfl, rfl⟩
          case round =>
            obtain ⟨k, x, hk, rfl, rfl⟩ := hrel
            by_cases hlt : k < b.props.length
            · obtain ⟨b1, o1, rfl, vc, ⟨q0, q1, q2, q3⟩, hc, hs⟩ := hl3 k hlt
              obtain ⟨ac, kc, rfl, -, ⟨-, hcm⟩, -⟩ := id hc
              simp only at q0 q1
              replace q0 := ext_of_below hA _ _ q0
              replace q1 := ext_of_below hA _ _ q1
              have hsn := hs.1
              clear hl2 hl3 hc hs q2 q3
              generalize b.props[k] = s at *
              by_cases h20 : 20 < s.coefs.length
              · go_wp2
                go_ret
                exact ⟨_, rfl, hA⟩
              · go_wp2
                go_round
                case rel => exact ⟨k + 1, _, by omega, by go_num, rfl⟩
                case measure => simp [intOf]; omega
            · clear hl3 hl2
              by_cases hx : 2000 < x
              · go_wp2
                go_ret
                exact ⟨_, rfl, hA⟩
              · go_wp2
                go_ret
                exact ⟨_, rfl, hA⟩

end Go.Proofs.YtmmlocjiegkjeaaGreatDoor.B1

namespace Go.Proofs.YtmmlocjiegkjeaaGreatDoor.B1

open Go.RowKit Go.PlainAid

set_option linter.unusedVariables false

def grE (n : Int) (s : Sp) : Int := max (n * s.lo) (n * s.hi)

theorem mul_le_of {a b m : Int} (ha : -m ≤ a ∧ a ≤ m) (hb : 0 ≤ b) : -(m * b) ≤ a * b ∧ a * b ≤ m * b := by
  have h1 : a * b ≤ m * b := Int.mul_le_mul_of_nonneg_right ha.2 hb
  have h2 : -m * b ≤ a * b := Int.mul_le_mul_of_nonneg_right ha.1 hb
  rw [Int.neg_mul] at h2
  omega

theorem gr_exact {n : Int} {s : Sp} (hn : -20000 ≤ n ∧ n ≤ 20000) (h0 : 0 ≤ s.lo) (h1 : s.lo ≤ s.hi) (h2 : s.hi ≤ 2000000000) : grB n s = grE n s ∧ -(20000 * s.hi) ≤ grE n s ∧ grE n s ≤ 20000 * s.hi := by
  have a1 := mul_le_of (m := 20000) (by omega) h0 (a := n)
  have a2 := mul_le_of (m := 20000) (by omega) (show 0 ≤ s.hi by omega) (a := n)
  unfold grB grE
  rw [wrap_id _ (by unfold I64; omega), wrap_id _ (by unfold I64; omega)]
  exact ⟨rfl, by omega, by omega⟩

theorem getD_mem {α : Type} {l : List α} {k : Nat} {d : α} (h : k < l.length) : l.getD k d ∈ l := by
  rw [show l.getD k d = l[k] from by simp [List.getD, List.getElem?_eq_getElem h]]
  exact List.getElem_mem h

end Go.Proofs.YtmmlocjiegkjeaaGreatDoor.B1

namespace Go.Proofs.YtmmlocjiegkjeaaGreatDoor.B1

open Go.RowKit Go.PlainAid Go.ChangeShapes Go.WideShapes Go.ChangeAt

set_option linter.unusedVariables false

section

variable {H : Type} {enc : TypeId × Value → H} {w : World} {base : Nat} {spare : Nat → Bool} {held : Bool}

def Light (t : TypeId) (d : DataW H) : Prop := ∀ n ∈ d.weights Tryz.prog t, n ≤ 140737488351232

/-- cells that read at a type are those of something. -/
def Rd {α : Type} (enc : TypeId × Value → H) (w : World) (base : Nat) (spare : Nat → Bool) (held : Bool) (t : TypeId) (V : List Value → α → Prop) : Prop :=
  ∀ fuel cs x, DataW.trod enc Tryz.prog w base spare held fuel t cs = some x → Light t x.1 → ∃ a, V cs a

theorem wf_I64 {n : Int} (h : (Lit.int .i64 n).wf = true) : I64 n := by
  simp only [Lit.wf, Bool.and_eq_true, decide_eq_true_eq, IntKind.min, IntKind.max, IntKind.signed, IntKind.bits] at h
  unfold I64
  simp at h
  omega

def CInt (cs : List Value) (n : Int) : Prop := cs = [.int .i64 n] ∧ I64 n

theorem rd_int : Rd enc w base spare held 3 CInt := fun fuel cs x h _ => by
  obtain ⟨n, rfl, _, hw⟩ := DataW.trod_int Tryz.underlying3 h
  exact ⟨n, rfl, wf_I64 hw⟩

def CStr (cs : List Value) (s : ByteArray) : Prop := cs = [.string s] ∧ s.size ≤ 140737488351232

theorem rd_str : Rd enc w base spare held 9 CStr := fun fuel cs x h hl => by
  obtain ⟨s, rfl, rfl, hw⟩ := DataW.trod_string Tryz.underlying9 h
  refine ⟨s, rfl, ?_⟩
  have := hl s.data.toList.length (by simp [DataW.weights])
  simpa using this

theorem plain_add (b off k : Nat) : (⟨b, off, none⟩ : Addr).add k = ⟨b, off + k, none⟩ := by
  unfold Addr.add
  split
  · rename_i h; subst h; rfl
  · rfl

theorem weights_elem {e : TypeId} : ∀ {l : List (DataW H)} {d : DataW H}, d ∈ l → ∀ n ∈ d.weights Tryz.prog e, n ∈ DataW.weightsAll Tryz.prog e l
  | a :: l, d, h, n, hn => by
    simp only [DataW.weightsAll, List.mem_append]
    rcases List.mem_cons.1 h with rfl | h
    · exact .inl hn
    · exact .inr (weights_elem h n hn)

theorem rd_slice {α : Type} {t e : TypeId} {sz : Nat} {V : List Value → α → Prop} {R : World → Addr → α → Prop} (ht : Tryz.prog.underlying t = some (.slice e)) (hC : Tryz.prog.cellsOf e = sz) (h0 : 0 < sz) (hb : 0 < Tryz.prog.bytesOf e)
    (he : Rd enc w base spare held e V) (hlink : ∀ b o cs a, V cs a → cs.length = sz → (∀ j (h : j < cs.length), w.cell? ⟨b, o + j, none⟩ = some (cs[j]'h)) → R w ⟨b, o, none⟩ a) :
    Rd enc w base spare held t fun cs l => ∃ v, cs = [v] ∧ RSl sz R w v l := by
  intro fuel cs x h hl
  rcases DataW.trod_slice ht h with ⟨rfl, rfl⟩ | ⟨a, len, cap, elems, rest, n, rfl, rfl, rfl, _, hlc, hcm, hlen, hel, _, _⟩
  · exact ⟨[], _, rfl, none, 0, rfl, Nat.le_refl _, ⟨by omega, by simp⟩, fun i hi => by simp at hi⟩
  · have hw : len ≤ 140737488351232 := by
      have := hl ((elems.length + rest.length) * Tryz.prog.bytesOf e) (by simp [DataW.weights, ht])
      have h1 : len * 1 ≤ (elems.length + rest.length) * Tryz.prog.bytesOf e := Nat.mul_le_mul (by omega) hb
      omega
    have key : ∀ i, i < len → ∃ x : α, (∃ cs', V cs' x ∧ cs'.length = sz ∧ ∀ j, j < sz → w.cell? (a.add (i * sz + j)) = cs'[j]?) := by
      intro i hi
      have h1 := hel i hi
      rw [List.getElem?_eq_getElem (by omega)] at h1
      obtain ⟨cs', hc, ht'⟩ := Option.bind_eq_some_iff.1 h1
      rw [hC] at hc
      obtain ⟨_, hcl, hat⟩ := World.cells?_some hc
      obtain ⟨x, hx⟩ := he _ _ _ ht' fun m hm => hl m (by
        simp only [DataW.weights, ht, List.mem_cons, List.mem_append]
        exact .inr (.inl (weights_elem (List.mem_map_of_mem (List.getElem_mem (by omega))) m hm)))
      refine ⟨x, cs', hx, hcl, fun j hj => ?_⟩
      rw [← Go.Deep.add_add]
      exact hat j hj
    refine ⟨(List.range len).attach.map fun i => (key i.1 (List.mem_range.1 i.2)).choose, _, rfl, some a, cap, by simp, by simpa using hlc, ⟨by simpa [maxLen] using hcm, by simpa using hw⟩, fun i hi => ?_⟩
    have hi' : i < len := by simpa using hi
    obtain ⟨cs', hV, hcl, hat⟩ := (key i hi').choose_spec
    obtain ⟨b, off, spot⟩ := a
    have hspot : spot = none := by
      by_cases hi0 : i = 0
      · subst hi0
        have := hat 0 h0
        rw [List.getElem?_eq_getElem (by omega)] at this
        simp only [Nat.zero_mul, Nat.add_zero, Addr.add, if_true] at this
        exact World.cell?_spot this
      · have hl0 : 0 < len := by omega
        obtain ⟨cs0, _, hcl0, hat0⟩ := (key 0 hl0).choose_spec
        have := hat0 0 h0
        rw [List.getElem?_eq_getElem (by omega)] at this
        simp only [Nat.zero_mul, Nat.add_zero, Addr.add, if_true] at this
        exact World.cell?_spot this
    subst hspot
    refine ⟨b, off, rfl, ?_⟩
    have hget : ((List.range len).attach.map fun i => (key i.1 (List.mem_range.1 i.2)).choose)[i]'hi = (key i hi').choose := by simp only [List.getElem_map, List.getElem_attach, List.getElem_range]
    rw [hget]
    refine hlink _ _ cs' _ hV hcl fun j hj => ?_
    have h2 := hat j (by omega)
    rw [List.getElem?_eq_getElem hj] at h2
    rw [plain_add] at h2
    rw [Nat.add_assoc]
    exact h2

theorem rd_ints : Rd enc w base spare held 35 fun cs l => ∃ v, cs = [v] ∧ RInts w v l :=
  rd_slice Tryz.underlying35 (by kernel_rfl) (by decide) (by rw [show Tryz.prog.bytesOf 3 = 8 from by kernel_rfl]; decide) rd_int fun b o cs a ⟨h1, h2⟩ _ hc => by
    subst h1
    exact ⟨by simpa using hc 0 (by simp), h2⟩

theorem rd_strs : Rd enc w base spare held 25 fun cs l => ∃ v, cs = [v] ∧ RStrs w v l :=
  rd_slice Tryz.underlying25 (by kernel_rfl) (by decide) (by rw [show Tryz.prog.bytesOf 9 = 16 from by kernel_rfl]; decide) rd_str fun b o cs a ⟨h1, h2⟩ _ hc => by
    subst h1
    exact ⟨by simpa using hc 0 (by simp), h2⟩

end

end Go.Proofs.YtmmlocjiegkjeaaGreatDoor.B1

namespace Go.Proofs.YtmmlocjiegkjeaaGreatDoor.B1

open Go.RowKit Go.PlainAid Go.ChangeShapes Go.WideShapes Go.ChangeAt

set_option linter.unusedVariables false

theorem len2 {α : Type} : ∀ {cs : List α}, cs.length = 2 → ∃ c0 c1, cs = [c0, c1]
  | [c0, c1], _ => ⟨_, _, rfl⟩

theorem len4 {α : Type} : ∀ {cs : List α}, cs.length = 4 → ∃ c0 c1 c2 c3, cs = [c0, c1, c2, c3]
  | [c0, c1, c2, c3], _ => ⟨_, _, _, _, rfl⟩

theorem len7 {α : Type} : ∀ {cs : List α}, cs.length = 7 → ∃ c0 c1 c2 c3 c4 c5 c6, cs = [c0, c1, c2, c3, c4, c5, c6]
  | [c0, c1, c2, c3, c4, c5, c6], _ => ⟨_, _, _, _, _, _, _, rfl⟩

section

variable {H : Type} {enc : TypeId × Value → H} {w : World} {base : Nat} {spare : Nat → Bool} {held : Bool}

theorem struct_field {t : TypeId} {fs : Array Field} {fuel : Nat} {cs : List Value} {x : DataW H × List MemPlace} (ht : Tryz.prog.underlying t = some (.struct fs)) (h : DataW.trod enc Tryz.prog w base spare held fuel t cs = some x) (hl : Light t x.1) :
    cs.length = Tryz.prog.cellsOf t ∧ ∀ (i : Nat) (ft : TypeId) (o : Nat), fs[i]?.map (fun f => (f.type, f.offset)) = some (ft, o) → ∃ n y, DataW.trod enc Tryz.prog w base spare held n ft ((cs.drop o).take (Tryz.prog.cellsOf ft)) = some y ∧ Light ft y.1 := by
  obtain ⟨xs, n, rfl, rfl, hcl, hxl, hf⟩ := DataW.trod_struct ht h
  refine ⟨hcl, fun i ft o hio => ?_⟩
  obtain ⟨f, hi, hfo⟩ := Option.map_eq_some_iff.1 hio
  obtain ⟨rfl, rfl⟩ := Prod.mk.inj hfo
  have hlt : i < fs.size := (Array.getElem?_eq_some_iff.1 hi).1
  have h1 := hf i f hi
  rw [List.getElem?_eq_getElem (by omega)] at h1
  refine ⟨n, _, h1, fun m hm => hl m ?_⟩
  simp only [DataW.weights, ht]
  refine DataW.weights_mem_each (j := i) (t := f.type) (d := (xs[i]'(by omega)).1) ?_ ?_ m hm
  · rw [List.getElem?_map]
    have : fs.toList[i]? = some f := by simpa using hi
    rw [this]; rfl
  · rw [List.getElem?_map, List.getElem?_eq_getElem (by omega)]; rfl

theorem cells_int : Tryz.prog.cellsOf 3 = 1 := by kernel_rfl

theorem cells_string : Tryz.prog.cellsOf 9 = 1 := by kernel_rfl

theorem cells_span : Tryz.prog.cellsOf 30 = 2 := by kernel_rfl

theorem cells_mat : Tryz.prog.cellsOf 49 = 7 := by kernel_rfl

theorem cells_prp : Tryz.prog.cellsOf 51 = 4 := by kernel_rfl

theorem cells_bat : Tryz.prog.cellsOf 32 = 7 := by kernel_rfl

theorem cells_ints : Tryz.prog.cellsOf 35 = 1 := by kernel_rfl

theorem cells_strs : Tryz.prog.cellsOf 25 = 1 := by kernel_rfl

theorem cells_sps : Tryz.prog.cellsOf 27 = 1 := by kernel_rfl

theorem cells_mats : Tryz.prog.cellsOf 26 = 1 := by kernel_rfl

theorem cells_prps : Tryz.prog.cellsOf 28 = 1 := by kernel_rfl

def CSp (cs : List Value) (s : Sp) : Prop := cs = [.int .i64 s.lo, .int .i64 s.hi] ∧ I64 s.lo ∧ I64 s.hi

theorem rd_span : Rd enc w base spare held 30 CSp := fun fuel cs x h hl => by
  obtain ⟨hc, hf⟩ := struct_field Tryz.underlying30 h hl
  rw [cells_span] at hc
  obtain ⟨c0, c1, rfl⟩ := len2 hc
  obtain ⟨n0, y0, h0, l0⟩ := hf 0 3 0 rfl
  obtain ⟨n1, y1, h1, l1⟩ := hf 1 3 1 rfl
  simp only [cells_int, List.drop_zero, List.drop_succ_cons, List.take_succ_cons, List.take_zero] at h0 h1
  obtain ⟨a, e0, i0⟩ := rd_int _ _ _ h0 l0
  obtain ⟨b, e1, i1⟩ := rd_int _ _ _ h1 l1
  simp only [List.cons.injEq, and_true] at e0 e1
  subst e0 e1
  exact ⟨⟨a, b⟩, rfl, i0, i1⟩

theorem rd_sps : Rd enc w base spare held 27 fun cs l => ∃ v, cs = [v] ∧ RSps w v l :=
  rd_slice Tryz.underlying27 cells_span (by decide) (by rw [show Tryz.prog.bytesOf 30 = 16 from by kernel_rfl]; decide) rd_span fun b o cs a ⟨h1, h2, h3⟩ _ hc => by
    subst h1
    exact ⟨by simpa using hc 0 (by simp), by simpa using hc 1 (by simp), h2, h3⟩

def CMat (w : World) (cs : List Value) (m : Mat) : Prop :=
  ∃ c, cs = [.string m.name, .int .i64 m.price, .int .i64 m.redox, .int .i64 m.least, .int .i64 m.most, .int .i64 m.step, c] ∧ RSps w c m.content ∧ m.name.size ≤ 140737488351232 ∧ I64 m.price ∧ I64 m.redox ∧ I64 m.least ∧ I64 m.most ∧ I64 m.step

theorem rd_mat : Rd enc w base spare held 49 (CMat w) := fun fuel cs x h hl => by
  obtain ⟨hc, hf⟩ := struct_field Tryz.underlying49 h hl
  rw [cells_mat] at hc
  obtain ⟨c0, c1, c2, c3, c4, c5, c6, rfl⟩ := len7 hc
  obtain ⟨n0, y0, h0, l0⟩ := hf 0 9 0 rfl
  obtain ⟨n1, y1, h1, l1⟩ := hf 1 3 1 rfl
  obtain ⟨n2, y2, h2, l2⟩ := hf 2 3 2 rfl
  obtain ⟨n3, y3, h3, l3⟩ := hf 3 3 3 rfl
  obtain ⟨n4, y4, h4, l4⟩ := hf 4 3 4 rfl
  obtain ⟨n5, y5, h5, l5⟩ := hf 5 3 5 rfl
  obtain ⟨n6, y6, h6, l6⟩ := hf 6 27 6 rfl
  simp only [cells_int, cells_string, cells_sps, List.drop_zero, List.drop_succ_cons, List.take_succ_cons, List.take_zero] at h0 h1 h2 h3 h4 h5 h6
  obtain ⟨a0, e0, i0⟩ := rd_str _ _ _ h0 l0
  obtain ⟨a1, e1, i1⟩ := rd_int _ _ _ h1 l1
  obtain ⟨a2, e2, i2⟩ := rd_int _ _ _ h2 l2
  obtain ⟨a3, e3, i3⟩ := rd_int _ _ _ h3 l3
  obtain ⟨a4, e4, i4⟩ := rd_int _ _ _ h4 l4
  obtain ⟨a5, e5, i5⟩ := rd_int _ _ _ h5 l5
  obtain ⟨a6, v6, e6, i6⟩ := rd_sps _ _ _ h6 l6
  simp only [List.cons.injEq, and_true] at e0 e1 e2 e3 e4 e5 e6
  subst e0 e1 e2 e3 e4 e5 e6
  exact ⟨⟨a0, a1, a2, a3, a4, a5, a6⟩, _, rfl, i6, i0, i1, i2, i3, i4, i5⟩

theorem rd_mats : Rd enc w base spare held 26 fun cs l => ∃ v, cs = [v] ∧ RMats w v l :=
  rd_slice Tryz.underlying26 cells_mat (by decide) (by rw [show Tryz.prog.bytesOf 49 = 80 from by kernel_rfl]; decide) rd_mat fun b o cs a ⟨c, h1, h2⟩ _ hc => by
    subst h1
    exact ⟨c, ⟨by simpa using hc 0 (by simp), by simpa using hc 1 (by simp), by simpa using hc 2 (by simp), by simpa using hc 3 (by simp), by simpa using hc 4 (by simp), by simpa using hc 5 (by simp), by simpa using hc 6 (by simp)⟩, h2⟩

def CPrp (w : World) (cs : List Value) (m : Prp) : Prop :=
  ∃ c, cs = [.string m.name, c, .int .i64 m.target.lo, .int .i64 m.target.hi] ∧ RInts w c m.coefs ∧ m.name.size ≤ 140737488351232 ∧ I64 m.target.lo ∧ I64 m.target.hi

theorem rd_prp : Rd enc w base spare held 51 (CPrp w) := fun fuel cs x h hl => by
  obtain ⟨hc, hf⟩ := struct_field Tryz.underlying51 h hl
  rw [cells_prp] at hc
  obtain ⟨c0, c1, c2, c3, rfl⟩ := len4 hc
  obtain ⟨n0, y0, h0, l0⟩ := hf 0 9 0 rfl
  obtain ⟨n1, y1, h1, l1⟩ := hf 1 35 1 rfl
  obtain ⟨n2, y2, h2, l2⟩ := hf 2 30 2 rfl
  simp only [cells_string, cells_ints, cells_span, List.drop_zero, List.drop_succ_cons, List.take_succ_cons, List.take_zero] at h0 h1 h2
  obtain ⟨a0, e0, i0⟩ := rd_str _ _ _ h0 l0
  obtain ⟨a1, v1, e1, i1⟩ := rd_ints _ _ _ h1 l1
  obtain ⟨a2, e2, i2, i3⟩ := rd_span _ _ _ h2 l2
  simp only [List.cons.injEq, and_true] at e0 e1 e2
  obtain ⟨rfl, rfl⟩ := e2
  subst e0 e1
  exact ⟨⟨a0, a1, a2⟩, _, rfl, i1, i0, i2, i3⟩

theorem rd_prps : Rd enc w base spare held 28 fun cs l => ∃ v, cs = [v] ∧ RPrps w v l :=
  rd_slice Tryz.underlying28 cells_prp (by decide) (by rw [show Tryz.prog.bytesOf 51 = 56 from by kernel_rfl]; decide) rd_prp fun b o cs a ⟨c, h1, h2⟩ _ hc => by
    subst h1
    exact ⟨c, ⟨by simpa using hc 0 (by simp), by simpa using hc 1 (by simp), by simpa using hc 2 (by simp), by simpa using hc 3 (by simp)⟩, h2⟩

theorem rd_bat : Rd enc w base spare held 32 fun cs b => RBat w (.agg cs.toArray) b := fun fuel cs x h hl => by
  obtain ⟨hc, hf⟩ := struct_field Tryz.underlying32 h hl
  rw [cells_bat] at hc
  obtain ⟨c0, c1, c2, c3, c4, c5, c6, rfl⟩ := len7 hc
  obtain ⟨n0, y0, h0, l0⟩ := hf 0 25 0 rfl
  obtain ⟨n1, y1, h1, l1⟩ := hf 1 26 1 rfl
  obtain ⟨n2, y2, h2, l2⟩ := hf 2 27 2 rfl
  obtain ⟨n3, y3, h3, l3⟩ := hf 3 28 3 rfl
  obtain ⟨n4, y4, h4, l4⟩ := hf 4 30 4 rfl
  obtain ⟨n5, y5, h5, l5⟩ := hf 5 3 6 rfl
  simp only [cells_int, cells_strs, cells_mats, cells_sps, cells_prps, cells_span, List.drop_zero, List.drop_succ_cons, List.take_succ_cons, List.take_zero] at h0 h1 h2 h3 h4 h5
  obtain ⟨a0, v0, e0, i0⟩ := rd_strs _ _ _ h0 l0
  obtain ⟨a1, v1, e1, i1⟩ := rd_mats _ _ _ h1 l1
  obtain ⟨a2, v2, e2, i2⟩ := rd_sps _ _ _ h2 l2
  obtain ⟨a3, v3, e3, i3⟩ := rd_prps _ _ _ h3 l3
  obtain ⟨a4, e4, i4, i4'⟩ := rd_span _ _ _ h4 l4
  obtain ⟨a5, e5, i5⟩ := rd_int _ _ _ h5 l5
  simp only [List.cons.injEq, and_true] at e0 e1 e2 e3 e4 e5
  obtain ⟨rfl, rfl⟩ := e4
  subst e0 e1 e2 e3 e5
  exact ⟨⟨a0, a1, a2, a3, a4, a5⟩, _, _, _, _, rfl, i0, i1, i2, i3, i4, i4', i5⟩

end

end Go.Proofs.YtmmlocjiegkjeaaGreatDoor.B1

namespace Go.Proofs.YtmmlocjiegkjeaaGreatDoor.B1

open Go.ChangeShapes Go.WideShapes Go.ChangeAt Go.RowKit Go.PlainAid

set_option linter.unusedVariables false

theorem own : ownKnob Tryz.prog.godebug = none := by kernel_rfl

end Go.Proofs.YtmmlocjiegkjeaaGreatDoor.B1

namespace Go.Proofs.YtmmlocjiegkjeaaGreatDoor.B1

open Go.RowKit Go.PlainAid

set_option linter.unusedVariables false

/-- a span, and an error. -/
def RetSpE (w : World) (p : Sp × Int) (e : Ending) (w' : World) : Prop := e = .returned (.tuple #[.agg #[.int .i64 p.1.lo, .int .i64 p.1.hi], .int .i64 p.2]) ∧ Below w.heap.size w w'

def valB (b : Bat) (r : List Int) (n : Nat) : Sp × Int :=
  if bothB b r ≠ 0 then (⟨0, 0⟩, bothB b r) else if h : n < b.props.length then (if (tot (gramsB b r)).lo = 0 then (⟨0, 0⟩, 8) else (valueB (b.props[n]).coefs (gramsB b r), 0)) else (⟨0, 0⟩, 7)

theorem coefs_ok {b : Bat} (h : OkB b) {r : List Int} (hr : ∀ x ∈ r, 0 ≤ x ∧ x ≤ 10000) (hl : r.length = b.mats.length) (hp : (tot (gramsB b r)).lo ≠ 0) {p : Prp} (hm : p ∈ b.props) : MeanOk p.coefs (gramsB b r) := by
  have hg := grams_ok h hr hl
  have ht := tot_ok h hr hl
  have hlen : (gramsB b r).length = b.oxides.length := gTo_len _ _ _ _
  have hq := h.props p hm
  exact ⟨by rw [hlen, hq.len], by rw [hq.len]; exact h.ox, hq.coefs, fun s hs => by have := hg s hs; omega, by rw [ht.1] at hp; omega⟩

set_option maxRecDepth 100000 in
theorem val_any (v rv : Value) (b : Bat) (r : List Int) (n : Nat) (hn : (n : Int) ≤ 1000000) (w : World) (h : RBat w v b) (hr : RInts w rv r) :
    Calls Tryz.prog 17 #[v, rv, .int .i64 n] w (RetSpE w (valB b r n)) := by
  obtain ⟨a0, k0, a1, k1, a2, k2, a3, k3, rfl⟩ := h.agg
  have hA := below_two w (.cells #[.slice a0 b.oxides.length k0, .slice a1 b.mats.length k1, .slice a2 b.shares.length k2, .slice a3 b.props.length k3, .int .i64 b.redox.lo, .int .i64 b.redox.hi, .int .i64 b.wanted] 32) (.cells #[.int .i64 0, .int .i64 0] 30)
  have hB := (Blk.new w #[.slice a0 b.oxides.length k0, .slice a1 b.mats.length k1, .slice a2 b.shares.length k2, .slice a3 b.props.length k3, .int .i64 b.redox.lo, .int .i64 b.redox.hi, .int .i64 b.wanted] 32).alloc (.cells #[.int .i64 0, .int .i64 0] 30)
  have hC : Blk ((w.alloc (.cells #[.slice a0 b.oxides.length k0, .slice a1 b.mats.length k1, .slice a2 b.shares.length k2, .slice a3 b.props.length k3, .int .i64 b.redox.lo, .int .i64 b.redox.hi, .int .i64 b.wanted] 32)).alloc (.cells #[.int .i64 0, .int .i64 0] 30)) (w.heap.size + 1) #[.int .i64 0, .int .i64 0] 30 := by
    have := Blk.new (w.alloc (.cells #[.slice a0 b.oxides.length k0, .slice a1 b.mats.length k1, .slice a2 b.shares.length k2, .slice a3 b.props.length k3, .int .i64 b.redox.lo, .int .i64 b.redox.hi, .int .i64 b.wanted] 32)) #[.int .i64 0, .int .i64 0] 30
    simpa using this
  go_enter Tryz.func17, Tryz.ntmps17
  go_wp2_with fail
  generalize (w.alloc (.cells #[.slice a0 b.oxides.length k0, .slice a1 b.mats.length k1, .slice a2 b.shares.length k2, .slice a3 b.props.length k3, .int .i64 b.redox.lo, .int .i64 b.redox.hi, .int .i64 b.wanted] 32)).alloc (.cells #[.int .i64 0, .int .i64 0] 30) = W at *
  refine (checkBoth_any _ _ b r _ (h.mono (ext_of_below hA)) (hr.mono (ext_of_below hA))).mono ?_
  rintro e w1 ⟨rfl, hb1⟩
  have hA1 := hA.trans (hb1.mono hA.size)
  have hB1 := hB.below hb1 hB.lt
  have hC1 := hC.below hb1 hC.lt
  clear hA hB hC hb1
  by_cases e1 : bothB b r = 0
  case neg =>
    have e1' : (bothB b r != 0) = true := by simp [e1]
    have hfin := Lib.hid (show valB b r n = (⟨0, 0⟩, bothB b r) by simp [valB, e1])
    have z0 : w1.cell? ⟨w.heap.size + 1, 0, none⟩ = some (.int .i64 0) := hC1.cell 0 _ rfl
    have z1 : w1.cell? ⟨w.heap.size + 1, 1, none⟩ = some (.int .i64 0) := hC1.cell 1 _ rfl
    have y0 := hC1.frozen 0
    have y1 := hC1.frozen 1
    clear hB1 e1
    go_wp2
    have B9 := (hC1.set 0 (.int .i64 0)).set 1 (.int .i64 0)
    have d0 := B9.cell 0 (.int .i64 0) rfl
    have d1 := B9.cell 1 (.int .i64 0) rfl
    unfold RetSpE
    rw [hfin.out]
    exact bodyPost_ret (v := .tuple #[.agg #[.int .i64 0, .int .i64 0], .int .i64 (bothB b r)]) (by simp only [results, Tryz.results17]; simp [go_sem, d0, d1]) rfl ⟨rfl, (hA1.setCell (p := ⟨w.heap.size + 1, 0, none⟩) (by simp) _).setCell (p := ⟨w.heap.size + 1, 1, none⟩) (by simp) _⟩
  have e1' : (bothB b r != 0) = false := by simp [e1]
  obtain ⟨g1, g2, g3⟩ := rec_len e1
  have hok := ok_of g1
  have f0 := hB1.cell 0 (.slice a0 b.oxides.length k0) rfl
  have f1 := hB1.cell 1 (.slice a1 b.mats.length k1) rfl
  have f2 := hB1.cell 2 (.slice a2 b.shares.length k2) rfl
  have f3 := hB1.cell 3 (.slice a3 b.props.length k3) rfl
  have f4 := hB1.cell 4 (.int .i64 b.redox.lo) rfl
  have f5 := hB1.cell 5 (.int .i64 b.redox.hi) rfl
  have f6 := hB1.cell 6 (.int .i64 b.wanted) rfl
  have E1 := Lib.hid e1
  have G2 := Lib.hid g2
  have G3 := Lib.hid g3
  have hp6 := hok.pr
  clear e1 g1 g2 g3
  by_cases hnp : n < b.props.length
  case neg =>
    have hfin := Lib.hid (show valB b r n = (⟨0, 0⟩, 7) by simp [valB, E1.out, hnp])
    have hbt := between_any n 0 ((b.props.length : Int) - 1) w1
    rw [show (decide ((0 : Int) ≤ n) && decide ((n : Int) ≤ (b.props.length : Int) - 1)) = false from by simp; omega] at hbt
    have z0 : w1.cell? ⟨w.heap.size + 1, 0, none⟩ = some (.int .i64 0) := hC1.cell 0 _ rfl
    have z1 : w1.cell? ⟨w.heap.size + 1, 1, none⟩ = some (.int .i64 0) := hC1.cell 1 _ rfl
    have y0 := hC1.frozen 0
    have y1 := hC1.frozen 1
    clear hnp
    go_wp2_with fail
    refine hbt.mono ?_
    rintro e w2 ⟨rfl, rfl⟩
    clear hbt
    go_wp2
    have B9 := (hC1.set 0 (.int .i64 0)).set 1 (.int .i64 0)
    have d0 := B9.cell 0 (.int .i64 0) rfl
    have d1 := B9.cell 1 (.int .i64 0) rfl
    unfold RetSpE
    rw [hfin.out]
    exact bodyPost_ret (v := .tuple #[.agg #[.int .i64 0, .int .i64 0], .int .i64 7]) (by simp only [results, Tryz.results17]; simp [go_sem, d0, d1]) rfl ⟨rfl, (hA1.setCell (p := ⟨w.heap.size + 1, 0, none⟩) (by simp) _).setCell (p := ⟨w.heap.size + 1, 1, none⟩) (by simp) _⟩
  have hbt := between_any n 0 ((b.props.length : Int) - 1) w1
  rw [show (decide ((0 : Int) ≤ n) && decide ((n : Int) ≤ (b.props.length : Int) - 1)) = true from by simp; omega] at hbt
  have hgr := grams_any _ rv b r w1 (h.mono (ext_of_below hA1)) (hr.mono (ext_of_below hA1)) hok G2.out
  go_wp2_with fail
  refine hbt.mono ?_
  rintro e w2 ⟨rfl, rfl⟩
  clear hbt
  go_wp2_with fail
  refine hgr.mono ?_
  rintro e w2 ⟨vg, rfl, hvg, hb2⟩
  have hA2 := hA1.trans (hb2.mono hA1.size)
  have hB2 := hB1.below hb2 hB1.lt
  have hC2 := hC1.below hb2 hC1.lt
  have hvg2 := hvg.mono (vis_ext _ _)
  clear hgr f0 f1 f2 f3 f4 f5 f6 hB1 hC1 hA1 hb2 hvg
  go_wp2_with fail
  refine (total_any vg (gramsB b r) w2 hvg2).mono ?_
  rintro e w3 ⟨rfl, hb3⟩
  have hA3 := hA2.trans (hb3.mono hA2.size)
  have hB3 := hB2.below hb3 hB2.lt
  have hC3 := hC2.below hb3 hC2.lt
  have hvg3 := hvg2.mono (ext_of_below hb3)
  have hfd := fun w => field_lo (.int .i64 (tot (gramsB b r)).lo) (.int .i64 (tot (gramsB b r)).hi) w
  clear hB2 hC2 hA2 hb3 hvg2 e1'
  have z0 : w3.cell? ⟨w.heap.size + 1, 0, none⟩ = some (.int .i64 0) := hC3.cell 0 _ rfl
  have z1 : w3.cell? ⟨w.heap.size + 1, 1, none⟩ = some (.int .i64 0) := hC3.cell 1 _ rfl
  have y0 := hC3.frozen 0
  have y1 := hC3.frozen 1
  by_cases hz : (tot (gramsB b r)).lo = 0
  · have hfin := Lib.hid (show valB b r n = (⟨0, 0⟩, 8) by simp [valB, E1.out, hz, hnp])
    have hz' : ((tot (gramsB b r)).lo == 0) = true := by simp [hz]
    clear hz hvg3 hB3
    go_wp2
    have B9 := (hC3.set 0 (.int .i64 0)).set 1 (.int .i64 0)
    have d0 := B9.cell 0 (.int .i64 0) rfl
    have d1 := B9.cell 1 (.int .i64 0) rfl
    unfold RetSpE
    rw [hfin.out]
    exact bodyPost_ret (v := .tuple #[.agg #[.int .i64 0, .int .i64 0], .int .i64 8]) (by simp only [results, Tryz.results17]; simp [go_sem, d0, d1]) rfl ⟨rfl, (hA3.setCell (p := ⟨w.heap.size + 1, 0, none⟩) (by simp) _).setCell (p := ⟨w.heap.size + 1, 1, none⟩) (by simp) _⟩
  have hfin := Lib.hid (show valB b r n = (valueB (b.props[n]'hnp).coefs (gramsB b r), 0) by simp [valB, E1.out, hz, hnp])
  have hz' : ((tot (gramsB b r)).lo == 0) = false := by simp [hz]
  have hmo := coefs_ok hok G3.out G2.out hz (List.getElem_mem hnp)
  have m3 : w3.cell? ⟨w.heap.size, 3, none⟩ = some (.slice a3 b.props.length k3) := hB3.cell 3 _ rfl
  obtain ⟨v0, v1, v2, v3, ev, q0, q1, q2, q3, i1, i2, i3⟩ := h
  simp only [Value.agg.injEq, Array.mk.injEq, List.cons.injEq, and_true] at ev
  obtain ⟨-, -, -, rfl, -⟩ := ev
  obtain ⟨ap, kp, ep, -, ⟨-, lp⟩, hl3⟩ := q3
  simp only [Value.slice.injEq, true_and] at ep
  obtain ⟨rfl, rfl⟩ := ep
  obtain ⟨b1, o1, rfl, vc, ⟨t0, t1, t2, t3⟩, hco, hs⟩ := hl3 n hnp
  obtain ⟨ac, kc, rfl, -, -, -⟩ := id hco
  simp only at t1
  have t1' := ext_of_below hA3 _ _ t1
  have hbp := cell_lt t1
  simp only at hbp
  have hva := value_any _ vg _ _ w3 (hco.mono (ext_of_below hA3)) hvg3 hmo
  have hvi := value_I64 hmo
  clear hl3 t0 t1 t2 t3 q0 q1 q2 hs i1 i2 i3 hco hmo hB3 hz
  generalize b.props[n] = p at *
  go_wp2_with fail
  refine hva.mono ?_
  rintro e w4 ⟨rfl, hb4⟩
  have hA4 := hA3.trans (hb4.mono hA3.size)
  have hC4 := hC3.below hb4 hC3.lt
  clear hva hb4 hA3 hC3 z0 z1 y0 y1
  have z0 : w4.cell? ⟨w.heap.size + 1, 0, none⟩ = some (.int .i64 0) := hC4.cell 0 _ rfl
  have z1 : w4.cell? ⟨w.heap.size + 1, 1, none⟩ = some (.int .i64 0) := hC4.cell 1 _ rfl
  have y0 := hC4.frozen 0
  have y1 := hC4.frozen 1
  go_wp2
  have B9 := (hC4.set 0 (.int .i64 (valueB p.coefs (gramsB b r)).lo)).set 1 (.int .i64 (valueB p.coefs (gramsB b r)).hi)
  have d0 := B9.cell 0 (.int .i64 (valueB p.coefs (gramsB b r)).lo) rfl
  have d1 := B9.cell 1 (.int .i64 (valueB p.coefs (gramsB b r)).hi) rfl
  unfold RetSpE
  rw [hfin.out]
  exact bodyPost_ret (v := .tuple #[.agg #[.int .i64 (valueB p.coefs (gramsB b r)).lo, .int .i64 (valueB p.coefs (gramsB b r)).hi], .int .i64 0]) (by simp only [results, Tryz.results17]; simp [go_sem, d0, d1]) rfl ⟨rfl, (hA4.setCell (p := ⟨w.heap.size + 1, 0, none⟩) (by simp) _).setCell (p := ⟨w.heap.size + 1, 1, none⟩) (by simp) _⟩

end Go.Proofs.YtmmlocjiegkjeaaGreatDoor.B1

namespace Go.Proofs.YtmmlocjiegkjeaaGreatDoor.B1

open Go.RowKit Go.PlainAid

set_option linter.unusedVariables false

set_option maxHeartbeats 1000000 in
set_option maxRecDepth 100000 in
theorem brings_any (vb rv : Value) (b : Bat) (r : List Int) (w : World) (h : RBat w vb b) (hr : RInts w rv r) (hk : OkB b) (hlr : r.length = b.mats.length) :
    Calls Tryz.prog 70 #[vb, rv] w (RetSps w (gramsB b r)) := by
  obtain ⟨v0, v1, v2, v3, rfl, h0, h1, h2, h3, i1, i2, i3⟩ := id h
  obtain ⟨a0, k0, rfl, -, ⟨-, l0⟩, -⟩ := h0
  obtain ⟨a1, k1, rfl, -, ⟨-, l1⟩, hl⟩ := h1
  obtain ⟨a2, k2, rfl, -, ⟨-, l2⟩, -⟩ := h2
  obtain ⟨a3, k3, rfl, -, ⟨-, l3⟩, -⟩ := h3
  obtain ⟨ar, kr, rfl, -, ⟨-, lr⟩, hrl⟩ := hr
  obtain ⟨i0, hi, hz0, hz1, hz2⟩ := info_parts info_span
  have hn := hk.ox
  have hms := hk.mt
  have hmc := fun m hm => (hk.mats m hm).len
  have hlr1 : r.length ≤ b.mats.length := by omega
  have hlr2 : b.mats.length ≤ r.length := by omega
  have hA0 := below_box w (.cells #[.slice a0 b.oxides.length k0, .slice a1 b.mats.length k1, .slice a2 b.shares.length k2, .slice a3 b.props.length k3, .int .i64 b.redox.lo, .int .i64 b.redox.hi, .int .i64 b.wanted] 32)
  have hB0 := Blk.new w #[.slice a0 b.oxides.length k0, .slice a1 b.mats.length k1, .slice a2 b.shares.length k2, .slice a3 b.props.length k3, .int .i64 b.redox.lo, .int .i64 b.redox.hi, .int .i64 b.wanted] 32
  clear h hlr
  go_enter Tryz.func70, Tryz.ntmps70
  go_wp2_with (at_make; refine wpList_make_full _ rfl _ _ _ rfl (w.heap.size + 1) 30 i0 (.agg #[.int .i64 0, .int .i64 0]) 2 Tryz.underlying27 hi hz0 hz1 .i64 .i64 _ _ b.oxides.length rfl rfl rfl rfl ?_ ?_ ?_ ?_)
  · rw [hz2]; omega
  · unfold maxLen; omega
  · simp
  intro W1 hown hgrow
  have hA1 := hA0.grown hgrow (by simp) (by intro k hk; cases hk)
  have hC1 : Below (w.heap.size + 1) _ W1 := Below.grown (Below.refl _ _) hgrow (by simp) (by intro k hk; cases hk)
  have hB1 := hB0.below hC1 (by omega)
  have hlt1 : w.heap.size + 1 < W1.heap.size := own_lt hown _ rfl
  rw [zero_spans, ← gTo_zero b r] at hown
  clear hA0 hgrow hC1 hB0
  go_wp2
  go_loopw [6] (fun i wr => ∃ (c : Nat), c ≤ b.mats.length ∧ i = .int .i64 c ∧ wr.ownsRow (w.heap.size + 1) 30 2 (.slice (some ⟨w.heap.size + 1, 0, none⟩) b.oxides.length b.oxides.length) b.oxides.length ((gTo b r c 0).flatMap spCells) ∧ Below (w.heap.size + 1) W1 wr) (fun i _ => b.mats.length - (intOf i).toNat)
  case atStart => exact ⟨0, Nat.zero_le _, rfl, hown, Below.refl _ _⟩
  case round =>
    clear hown
    obtain ⟨c, hc, rfl, hown, hb⟩ := hrel
    have hfinB := hA1.trans (hb.mono (by omega))
    by_cases hlt : c < b.mats.length
    · obtain ⟨b1, o1, rfl, vc, ⟨g0, g1, g2, g3, g4, g5, g6⟩, hcon, hs⟩ := hl c hlt
      obtain ⟨ac, kc, rfl, -, ⟨-, lc⟩, hcl⟩ := id hcon
      have hmlen := hmc _ (List.getElem_mem hlt)
      have hget : b.mats[c]? = some (b.mats[c]'hlt) := List.getElem?_eq_getElem hlt
      obtain ⟨b2, o2, rfl, q1, -⟩ := hrl c (by omega)
      have hrget : r.getD c 0 = r[c]'(by omega) := by simp [List.getD, List.getElem?_eq_getElem (show c < r.length by omega)]
      have hcr : c < r.length := by omega
      have hbl := cell_lt g0
      have hbl2 := cell_lt q1
      simp only at g6 hbl hbl2
      simp only [Nat.mul_one] at q1
      have HG := Lib.hid hget
      have HR := Lib.hid hrget
      have HL := Lib.hid hmlen
      have hml1 : b.mats[c].content.length ≤ b.oxides.length := by omega
      have hml2 : b.oxides.length ≤ b.mats[c].content.length := by omega
      clear hl hrl hmc hs hcon hget hrget hmlen g0 g1 g2 g3 g4 g5
      generalize b.mats[c] = m at *
      generalize r[c]'(by omega) = rc at *
      go_wp2_with fail
      obtain ⟨wo, rfl⟩ : ∃ wo : World, wo = wr := ⟨_, rfl⟩
      have hwo : w.heap.size + 1 < wo.heap.size := own_lt hown _ rfl
      go_loopw [7] (fun i wr => ∃ (j : Nat), j ≤ b.oxides.length ∧ i = .int .i64 j ∧ wr.ownsRow (w.heap.size + 1) 30 2 (.slice (some ⟨w.heap.size + 1, 0, none⟩) b.oxides.length b.oxides.length) b.oxides.length ((gTo b r c j).flatMap spCells) ∧ Below (w.heap.size + 1) wo wr) (fun i _ => b.oxides.length - (intOf i).toNat)
      case atStart => exact ⟨0, Nat.zero_le _, rfl, hown, Below.refl _ _⟩
      case round =>
        clear hown
        obtain ⟨j, hj, rfl, hown, hbw⟩ := hrel
        have hfin2 := hfinB.trans (hbw.mono (by omega))
        by_cases hlj : j < b.oxides.length
        · have hjm : j < m.content.length := by omega
          obtain ⟨b3, o3, rfl, s1, s2, -, -⟩ := hcl j hjm
          have hsget : m.content[j]? = some (m.content[j]'hjm) := List.getElem?_eq_getElem hjm
          have hstep := gAt_succ b r c j m _ HG.out hsget
          have hset := gTo_set b r c j hlj
          have hjl : j < (gTo b r c j).length := by rw [gTo_len]; exact hlj
          have hold := gTo_get b r c j j hjl
          rw [if_neg (Nat.lt_irrefl j)] at hold
          rw [HR.out] at hstep
          have hbl3 := cell_lt s1
          simp only at s1 s2 hbl3
          have HS := Lib.hid hstep
          have HT := Lib.hid hset
          have hB2 := hB1.below (hb.trans (hbw.mono (by omega))) (by omega)
          have f1 : wr.cell? ⟨w.heap.size, 1, none⟩ = some (.slice (some ⟨b1, o1, none⟩) b.mats.length k1) := hB2.cell 1 _ rfl
          replace q1 := ext_of_below hfin2 _ _ q1
          replace g6 := ext_of_below hfin2 _ _ g6
          replace s1 := ext_of_below hfin2 _ _ s1
          replace s2 := ext_of_below hfin2 _ _ s2
          clear hcl hsget hstep hset
          generalize m.content[j] = s at *
          have hb2 := hbw
          have t0 := hown.cellAt (j * 2) (by omega)
          have t1 := hown.cellAt (j * 2 + 1) (by omega)
          rw [show (j * 2) = j * 2 + 0 from rfl, flat_at spCells 2 (fun _ => rfl) _ j 0 hjl (by omega), hold] at t0
          rw [flat_at spCells 2 (fun _ => rfl) _ j 1 hjl (by omega), hold] at t1
          replace t0 : wr.cell? ⟨w.heap.size + 1, j * 2, none⟩ = some (.int .i64 (gAt b r c j).lo) := t0
          replace t1 : wr.cell? ⟨w.heap.size + 1, j * 2 + 1, none⟩ = some (.int .i64 (gAt b r c j).hi) := t1
          have z0 := hown.frozenAt (j * 2)
          have z1 := hown.frozenAt (j * 2 + 1)
          have hown3 := (hown.stored (j * 2) (.int .i64 (wrap64 ((gAt b r c j).lo + wrap64 (rc * s.lo))))).1
          rw [flat_set0 _ j _ hjl, hold] at hown3
          have hown4 := (hown3.stored (j * 2 + 1) (.int .i64 (wrap64 ((gAt b r c j).hi + wrap64 (rc * s.hi))))).1
          rw [flat_set1 _ j _ (by simpa using hjl)] at hown4
          simp only [List.getElem_set_self, List.set_set] at hown4
          rw [← HS.out, HT.out] at hown4
          have hb4 := (hb2.setCell (p := ⟨w.heap.size + 1, j * 2, none⟩) (by simp) (.int .i64 (wrap64 ((gAt b r c j).lo + wrap64 (rc * s.lo))))).setCell (p := ⟨w.heap.size + 1, j * 2 + 1, none⟩) (by simp) (.int .i64 (wrap64 ((gAt b r c j).hi + wrap64 (rc * s.hi))))
          have j1 : (0 : Int) ≤ (j : Int) := Int.natCast_nonneg _
          have j2 : (j : Int) < (b.oxides.length : Int) := by omega
          have j3 : (0 : Int) ≤ (c : Int) := Int.natCast_nonneg _
          have j4 : (c : Int) < (b.mats.length : Int) := by omega
          have HO := Lib.hid hown4
          have HB := Lib.hid hb4
          clear hown hown3 hown4 hb2 hb4 hb hbw hfin2 hold HS HT hB2 hB1 hA1 hfinB
          generalize gAt b r c j = g at *
          have j5 : (j : Int) < (m.content.length : Int) := by omega
          have j6 : (c : Int) < (r.length : Int) := by omega
          have hne1 : b1 ≠ w.heap.size + 1 := by omega
          have hne2 : b2 ≠ w.heap.size + 1 := by omega
          have hne3 : b3 ≠ w.heap.size + 1 := by omega
          clear hk i1 i2 i3 l0 l2 l3 HG HR HL
          go_wp2_with fail
          go_region
          go_wp2_with fail
          go_region
          go_wp2
          go_roundw
          case rel => exact ⟨j + 1, by omega, by go_num, own_drew (own_drew HO.out), HB.out.drew.drew⟩
          case measure => simp [intOf]; omega
        · have hnext := gTo_next b r c j (by omega)
          rw [hnext] at hown
          have hbF := hb.trans (hbw.mono (by omega))
          clear hnext hcl hbw hfin2 hk HG HR HL
          go_wp2
          go_roundw
          case rel => exact ⟨c + 1, by omega, by go_num, hown, hbF⟩
          case measure => simp [intOf]; omega
    · have hfin : (gTo b r c 0) = gramsB b r := by unfold gramsB; rw [show c = b.mats.length from by omega]
      rw [hfin] at hown
      have hRI := own_RSps (l := gramsB b r) (by unfold gramsB; rw [gTo_len]; exact own_vis (S := (w.heap.size ≤ ·)) hown (by intro g hg; simp [Value.ownBlock] at hg; omega)) (by unfold gramsB; rw [gTo_len]; omega)
        (by intro x hx; unfold gramsB gTo at hx; obtain ⟨q, _, rfl⟩ := List.mem_map.1 hx; exact ⟨wrap_I64 _, wrap_I64 _⟩)
      have HR := Lib.hid hRI
      clear hRI hown hfin hl hrl hmc hb
      go_wp2
      go_ret
      exact ⟨_, rfl, HR.out, hfinB⟩

end Go.Proofs.YtmmlocjiegkjeaaGreatDoor.B1

namespace Go.Proofs.YtmmlocjiegkjeaaGreatDoor.B1

open Go.RowKit Go.PlainAid

set_option linter.unusedVariables false

theorem len_bytes (s : ByteArray) : s.toList.length = s.size := by rw [ByteArray.toList_eq, Array.length_toList]; rfl

set_option maxRecDepth 100000 in
theorem rname_any (s : ByteArray) (w : World) (hm : s.size ≤ 140737488351232) :
    Calls Tryz.prog 86 #[.string s] w fun e w' => e = .returned (.bool (nameB s)) ∧ w = w' := by
  by_cases h0 : s.size = 0
  · have hn : nameB s = false := by simp [nameB, h0]
    rw [hn]
    have h1 : s.toList.isEmpty = true := by
      have : s.toList.length = 0 := by rw [len_bytes, h0]
      rw [List.length_eq_zero_iff.1 this]; rfl
    clear hn
    go_enter Tryz.func86, Tryz.ntmps86
    go_wp2
    go_ret
    exact ⟨rfl, rfl⟩
  have hlt0 : 0 < s.size := by omega
  have hne : s.toList.isEmpty = false := by
    cases h : s.toList with
    | nil =>
      have h2 : s.toList.length = 0 := by rw [h]; rfl
      rw [len_bytes] at h2
      omega
    | cons a t => rfl
  by_cases h16 : 16 < s.size
  · have hn : nameB s = false := by unfold nameB; rw [decide_eq_false (p := s.size ≤ 16) (by omega)]; simp
    rw [hn]
    clear hn
    go_enter Tryz.func86, Tryz.ntmps86
    go_wp2
    go_ret
    exact ⟨rfl, rfl⟩
  have h16b : decide ((16 : Int) < (s.size : Int)) = false := decide_eq_false (by omega)
  have hg := get_bt s 0 hlt0
  by_cases hl : 97 ≤ bt s 0 ∧ bt s 0 ≤ 122
  · obtain ⟨hl1, hl2⟩ := hl
    have hn : nameB s = chsB s 0 := by simp [nameB, letB, hl1, hl2]; omega
    rw [hn]
    clear hn
    go_enter Tryz.func86, Tryz.ntmps86
    go_wp2
    go_loop [3, 4, 5] (fun i _ _ => ∃ k : Nat, k ≤ s.size ∧ i = .int .i64 k ∧ Hid (chsB s 0 = chsB s k)) (fun i _ _ => s.size - (intOf i).toNat)
    case atStart => exact ⟨0, by omega, rfl, rfl⟩
    case round =>
      obtain ⟨k, hk, rfl, hx⟩ := hrel
      clear hg h0 h16 h16b hne hl1 hl2
      by_cases hlt : k < s.size
      · have hst := Lib.hid (chsB_step s k hlt)
        have hg := get_bt s k hlt
        have hge := bt_nonneg s k
        have hle := bt_le s k
        have hfin : ∀ x, chB (bt s k) = x → Hid (chsB s 0 = (x && chsB s (k + 1))) := fun x e => by
          unfold Hid; rw [hx.out, hst.out, e]
        have HFIN := Lib.hid hfin
        clear hx hst hfin
        generalize bt s k = c at *
        go_wp2
        all_goals first
          | (go_ret
             have HX := HFIN.out false (by simp [chB, letB] at *; omega)
             exact ⟨ret_bool (by have := HX.out; simpa using this.symm), rfl⟩)
          | (have HX := HFIN.out true (by simp [chB, letB] at *; omega)
             go_round
             case rel => exact ⟨k + 1, by omega, by go_num, by have := HX.out; simpa [Hid] using this⟩
             case measure => simp [intOf]; omega)
      · have HX := hx
        clear hx
        go_wp2
        go_ret
        exact ⟨ret_bool (by rw [HX.out, chsB_end s k (by omega)]), rfl⟩
  · have hn : nameB s = false := by simp [nameB, letB]; omega
    rw [hn]
    clear hn
    go_enter Tryz.func86, Tryz.ntmps86
    go_wp2
    all_goals go_ret
    all_goals exact ⟨rfl, rfl⟩

set_option maxRecDepth 100000 in
theorem rin_any (v : Value) (l : List ByteArray) (x : ByteArray) (w : World) (h : RStrs w v l) :
    Calls Tryz.prog 87 #[v, .string x] w fun e w' => e = .returned (.bool (l.any fun y => eqS y x)) ∧ w = w' := by
  obtain ⟨a, kap, rfl, hc1, ⟨hc2, hm⟩, hl⟩ := h
  go_enter Tryz.func87, Tryz.ntmps87
  go_wp2
  go_loop [5] (fun i => ∃ (k : Nat), k ≤ l.length ∧ i = .int .i64 k ∧ Hid ((l.take k).any (fun y => eqS y x) = false)) (fun i => l.length - (intOf i).toNat)
  case atStart => exact ⟨0, Nat.zero_le _, rfl, by simp [Hid]⟩
  case round =>
    obtain ⟨k, hk, rfl, hx⟩ := hrel
    by_cases hlt : k < l.length
    · obtain ⟨b, off, rfl, h1, h2⟩ := hl k hlt
      simp only [Nat.mul_one] at h1
      have hst := Lib.hid (any_take l (fun y => eqS y x) k hlt hx.out)
      have hfi := Lib.hid (any_of l (fun y => eqS y x) k hlt)
      clear hl hc1 h2
      generalize l[k] = s at *
      go_wp2
      · have hq : (s.toList == x.toList) = true := by assumption
        go_ret
        exact ⟨ret_bool (hfi.out hq).symm, rfl⟩
      · have hq : (s.toList == x.toList) = false := by assumption
        go_round
        case rel => exact ⟨k + 1, by omega, by go_num, hst.out.trans hq⟩
        case measure => simp [intOf]; omega
    · go_wp2
      go_ret
      refine ⟨ret_bool ?_, rfl⟩
      have := hx.out
      rw [List.take_of_length_le (by omega)] at this
      rw [this]

theorem rwithin_any (s : Sp) (a b : Int) (w : World) :
    Calls Tryz.prog 89 #[.agg #[.int .i64 s.lo, .int .i64 s.hi], .int .i64 a, .int .i64 b] w fun e w' => e = .returned (.bool (withinB s a b)) ∧ Below w.heap.size w w' := by
  go_enter Tryz.func89, Tryz.ntmps89
  go_wp2
  all_goals go_ret
  all_goals (refine ⟨?_, by go_grown⟩; simp [withinB]; try omega)

end Go.Proofs.YtmmlocjiegkjeaaGreatDoor.B1

namespace Go.Proofs.YtmmlocjiegkjeaaGreatDoor.B1

open Go.RowKit Go.PlainAid

set_option linter.unusedVariables false

def BigM (m : Mat) : Prop := 0 ≤ m.price ∧ m.price ≤ 10000 ∧ -1000 ≤ m.redox ∧ m.redox ≤ 1000 ∧ 0 ≤ m.least ∧ m.least ≤ 10000 ∧ m.least ≤ m.most ∧ m.most ≤ 10000 ∧ 1 ≤ m.step ∧ m.step ≤ 10000

theorem numB_bad {m : Mat} (n : Int) (h : ¬ BigM m) : numB m n = 1 := by
  unfold numB
  by_cases h1 : (betweenB m.price 0 10000 && betweenB m.redox (-1000) 1000) = false
  · rw [if_pos h1]
  rw [if_neg h1]
  by_cases h2 : (betweenB m.least 0 10000 && betweenB m.most m.least 10000 && betweenB m.step 1 10000) = false
  · rw [if_pos h2]
  exfalso
  apply h
  simp only [betweenB, Bool.not_eq_false, Bool.and_eq_true, decide_eq_true_eq] at h1 h2
  unfold BigM
  omega

theorem numB_good {m : Mat} (n : Int) (h : BigM m) : numB m n = if allWithinB m.content n 0 1000 = false then 1 else if 1000 < (tot m.content).lo then 12 else 0 := by
  obtain ⟨h1, h2, h3, h4, h5, h6, h7, h8, h9, h10⟩ := h
  unfold numB
  rw [if_neg (by simp [betweenB, h1, h2, h3, h4]), if_neg (by simp [betweenB, h5, h6, h7, h8, h9, h10])]

def loS (l : List Sp) (k : Nat) : Int := ((l.take k).map Sp.lo).sum

theorem loS_succ (l : List Sp) (k : Nat) (h : k < l.length) : loS l (k + 1) = loS l k + l[k].lo := by
  unfold loS
  rw [List.take_succ_eq_append_getElem h, List.map_append, List.map_singleton, sum_snoc]

theorem any_notwithin_end {l : List Sp} {n : Int} (h : (l.length : Int) = n) : allWithinB l n 0 1000 = !(l.any fun s => !withinB s 0 1000) := by
  unfold allWithinB
  rw [h]
  simp

set_option maxHeartbeats 1000000 in
set_option maxRecDepth 100000 in
theorem rmaterial_any (a0 : Option Addr) (n0 cap0 : Nat) (v1 v2 v3 x4 x5 x6 : Value) (m : Mat) (v : Value) (w : World) (h : VMat w v m) (hn0 : n0 ≤ 140737488351232) :
    Calls Tryz.prog 88 #[.agg #[.slice a0 n0 cap0, v1, v2, v3, x4, x5, x6], v] w fun e w' => e = .returned (.int .i64 (numB m n0)) ∧ Below w.heap.size w w' := by
  obtain ⟨c, rfl, hc, hs⟩ := h
  obtain ⟨ac, kc, rfl, -, ⟨-, lc⟩, hcl⟩ := id hc
  have hA := below_two w (.cells #[.slice a0 n0 cap0, v1, v2, v3, x4, x5, x6] 32) (.cells #[.string m.name, .int .i64 m.price, .int .i64 m.redox, .int .i64 m.least, .int .i64 m.most, .int .i64 m.step, .slice ac m.content.length kc] 49)
  by_cases hbig : BigM m
  case neg =>
    have HF := Lib.hid (numB_bad (n0 : Int) hbig)
    have HB := Lib.hid hbig
    clear hbig hcl hc
    go_enter Tryz.func88, Tryz.ntmps88
    go_wp2
    all_goals first
      | (go_ret; exact ⟨ret_int HF.out.symm, hA⟩)
      | (exfalso; have := HB.out; unfold BigM at this; omega)
  obtain ⟨g1, g2, g3, g4, g5, g6, g7, g8, g9, g10⟩ := id hbig
  have HF := Lib.hid (numB_good (n0 : Int) hbig)
  clear hbig
  by_cases hl : m.content.length = n0
  case neg =>
    have hq : ((m.content.length : Int) != (n0 : Int)) = true := by rw [bne_iff_ne]; omega
    have HX := Lib.hid (show numB m n0 = 1 by rw [HF.out, if_pos (by unfold allWithinB; rw [Bool.and_eq_false_iff]; left; simp; omega)])
    clear hl hcl hc
    go_enter Tryz.func88, Tryz.ntmps88
    go_wp2
    go_ret
    exact ⟨ret_int HX.out.symm, hA⟩
  have hq : ((m.content.length : Int) != (n0 : Int)) = false := by rw [bne_eq_false_iff_eq]; omega
  have HW := Lib.hid (any_notwithin_end (l := m.content) (n := (n0 : Int)) (by omega))
  have hle : m.content.length ≤ n0 := by omega
  clear hl
  have hB : Blk ((w.alloc (.cells #[.slice a0 n0 cap0, v1, v2, v3, x4, x5, x6] 32)).alloc (.cells #[.string m.name, .int .i64 m.price, .int .i64 m.redox, .int .i64 m.least, .int .i64 m.most, .int .i64 m.step, .slice ac m.content.length kc] 49)) (w.heap.size + 1) #[.string m.name, .int .i64 m.price, .int .i64 m.redox, .int .i64 m.least, .int .i64 m.most, .int .i64 m.step, .slice ac m.content.length kc] 49 := by
    have := Blk.new (w.alloc (.cells #[.slice a0 n0 cap0, v1, v2, v3, x4, x5, x6] 32)) #[.string m.name, .int .i64 m.price, .int .i64 m.redox, .int .i64 m.least, .int .i64 m.most, .int .i64 m.step, .slice ac m.content.length kc] 49
    simpa using this
  go_enter Tryz.func88, Tryz.ntmps88
  go_wp2
  generalize (w.alloc (.cells #[.slice a0 n0 cap0, v1, v2, v3, x4, x5, x6] 32)).alloc (.cells #[.string m.name, .int .i64 m.price, .int .i64 m.redox, .int .i64 m.least, .int .i64 m.most, .int .i64 m.step, .slice ac m.content.length kc] 49) = W at *
  clear g1 g2 g3 g4 g5 g6 g7 g8 g9 g10 hq
  go_loopw [5, 6] (fun s i wr => ∃ (k : Nat) (x : Int), k ≤ m.content.length ∧ i = .int .i64 k ∧ s = .int .i64 x ∧ Hid (x = loS m.content k) ∧ (0 ≤ x ∧ x ≤ 1000 * k) ∧ Hid ((m.content.take k).any (fun s => !withinB s 0 1000) = false) ∧ Below W.heap.size W wr) (fun _ i _ => m.content.length - (intOf i).toNat)
  case atStart => exact ⟨0, 0, Nat.zero_le _, rfl, rfl, by simp [Hid, loS], ⟨by omega, by omega⟩, by simp [Hid], Below.refl _ _⟩
  case round =>
    obtain ⟨k, x, hk, rfl, rfl, hx, ⟨hx1, hx2⟩, hall, hb⟩ := hrel
    have hfinB := hA.trans (hb.mono hA.size)
    have hBr := hB.below hb hB.lt
    have c6 : wr.cell? ⟨w.heap.size + 1, 6, none⟩ = some (.slice ac m.content.length kc) := hBr.cell 6 _ rfl
    by_cases hlt : k < m.content.length
    · obtain ⟨b1, o1, rfl, q1, q2, -, -⟩ := hcl k hlt
      have hst := Lib.hid (any_take m.content (fun s => !withinB s 0 1000) k hlt hall.out)
      have hno := Lib.hid (any_of m.content (fun s => !withinB s 0 1000) k hlt)
      have hss := Lib.hid (loS_succ m.content k hlt)
      have hbl := cell_lt q1
      simp only at q1 q2 hbl
      replace q1 := ext_of_below hfinB _ _ q1
      replace q2 := ext_of_below hfinB _ _ q2
      clear hcl hc hall hA hB hBr hs
      generalize m.content[k] = s at *
      go_wp2_with fail
      refine (rwithin_any s 0 1000 _).mono ?_
      rintro e w1 ⟨rfl, hb1⟩
      have hb2 := hb.trans (hb1.mono hb.size)
      have hf2 := hfinB.trans (hb1.mono hfinB.size)
      have r6 := ext_of_below hb1 _ _ c6
      have r1 := ext_of_below hb1 _ _ q1
      clear c6 q1 q2 hb1
      cases hw : withinB s 0 1000 with
      | false =>
        have HX := Lib.hid (show numB m n0 = 1 by rw [HF.out, if_pos (by rw [HW.out, hno.out (by simp [hw])]; rfl)])
        clear hw
        go_wp2
        go_ret
        exact ⟨ret_int HX.out.symm, hf2⟩
      | true =>
        have hsl : 0 ≤ s.lo ∧ s.lo ≤ 1000 := by
          simp only [withinB, Bool.and_eq_true, decide_eq_true_eq] at hw
          omega
        obtain ⟨hs1, hs2⟩ := hsl
        have hst2 : Hid ((m.content.take (k + 1)).any (fun s => !withinB s 0 1000) = false) := by
          unfold Hid; rw [hst.out]; simp [hw]
        clear hw
        go_wp2
        go_roundw
        case rel => exact ⟨k + 1, x + s.lo, by omega, by go_num, rfl, by unfold Hid; rw [hss.out, hx.out], ⟨by omega, by omega⟩, hst2, hb2⟩
        case measure => simp [intOf]; omega
    · have hxe := Lib.hid (show x = loS m.content m.content.length by rw [hx.out, show k = m.content.length from by omega])
      have hwe := Lib.hid (show allWithinB m.content n0 0 1000 = true by
        have := hall.out
        rw [List.take_of_length_le (by omega)] at this
        rw [HW.out, this]; rfl)
      have hte := Lib.hid (show (tot m.content).lo = x by
        rw [hxe.out]
        unfold tot
        simp only
        have e : loS m.content m.content.length = (m.content.map Sp.lo).sum := by unfold loS; rw [List.take_length]
        rw [← e, ← hxe.out, wrap_id _ (by unfold I64; omega)])
      clear hx hall hcl hc hB
      by_cases h1 : 1000 < x
      · have HX := Lib.hid (show numB m n0 = 12 by rw [HF.out, if_neg (by rw [hwe.out]; decide), if_pos (by rw [hte.out]; exact h1)])
        go_wp2
        go_ret
        exact ⟨ret_int HX.out.symm, hfinB⟩
      · have HX := Lib.hid (show numB m n0 = 0 by rw [HF.out, if_neg (by rw [hwe.out]; decide), if_neg (by rw [hte.out]; exact h1)])
        go_wp2
        go_ret
        exact ⟨ret_int HX.out.symm, hfinB⟩

theorem any_notbetween_end {l : List Int} {n : Int} (h : (l.length : Int) = n) : allBetweenB l n (-10000) 10000 = !(l.any fun s => !betweenB s (-10000) 10000) := by
  unfold allBetweenB
  rw [h]
  simp

set_option maxHeartbeats 1000000 in
set_option maxRecDepth 100000 in
theorem rproperty_any (a0 : Option Addr) (n0 cap0 : Nat) (v1 v2 v3 x4 x5 x6 : Value) (m : Prp) (v : Value) (w : World) (h : VPrp w v m) (hn0 : n0 ≤ 140737488351232) :
    Calls Tryz.prog 90 #[.agg #[.slice a0 n0 cap0, v1, v2, v3, x4, x5, x6], v] w fun e w' => e = .returned (.int .i64 (prpB n0 m)) ∧ Below w.heap.size w w' := by
  obtain ⟨c, rfl, hc, hs⟩ := h
  obtain ⟨ac, kc, rfl, -, ⟨-, lc⟩, hcl⟩ := id hc
  have hA := below_two w (.cells #[.slice a0 n0 cap0, v1, v2, v3, x4, x5, x6] 32) (.cells #[.string m.name, .slice ac m.coefs.length kc, .int .i64 m.target.lo, .int .i64 m.target.hi] 51)
  by_cases hl : m.coefs.length = n0
  case neg =>
    have hq : ((m.coefs.length : Int) != (n0 : Int)) = true := by rw [bne_iff_ne]; omega
    have HX := Lib.hid (show prpB n0 m = 1 by unfold prpB; rw [if_pos (by rw [Bool.and_eq_false_iff]; left; unfold allBetweenB; rw [Bool.and_eq_false_iff]; left; simp; omega)])
    clear hl hcl hc
    go_enter Tryz.func90, Tryz.ntmps90
    go_wp2
    go_ret
    exact ⟨ret_int HX.out.symm, hA⟩
  have hq : ((m.coefs.length : Int) != (n0 : Int)) = false := by rw [bne_eq_false_iff_eq]; omega
  have HW := Lib.hid (any_notbetween_end (l := m.coefs) (n := (n0 : Int)) (by omega))
  have hle : m.coefs.length ≤ n0 := by omega
  clear hl
  have hB : Blk ((w.alloc (.cells #[.slice a0 n0 cap0, v1, v2, v3, x4, x5, x6] 32)).alloc (.cells #[.string m.name, .slice ac m.coefs.length kc, .int .i64 m.target.lo, .int .i64 m.target.hi] 51)) (w.heap.size + 1) #[.string m.name, .slice ac m.coefs.length kc, .int .i64 m.target.lo, .int .i64 m.target.hi] 51 := by
    have := Blk.new (w.alloc (.cells #[.slice a0 n0 cap0, v1, v2, v3, x4, x5, x6] 32)) #[.string m.name, .slice ac m.coefs.length kc, .int .i64 m.target.lo, .int .i64 m.target.hi] 51
    simpa using this
  have c1 := hB.cell 1 (.slice ac m.coefs.length kc) rfl
  have c2 := hB.cell 2 (.int .i64 m.target.lo) rfl
  have c3 := hB.cell 3 (.int .i64 m.target.hi) rfl
  go_enter Tryz.func90, Tryz.ntmps90
  go_wp2
  generalize (w.alloc (.cells #[.slice a0 n0 cap0, v1, v2, v3, x4, x5, x6] 32)).alloc (.cells #[.string m.name, .slice ac m.coefs.length kc, .int .i64 m.target.lo, .int .i64 m.target.hi] 51) = W at *
  clear hq
  go_loop [5] (fun i => ∃ (k : Nat), k ≤ m.coefs.length ∧ i = .int .i64 k ∧ Hid ((m.coefs.take k).any (fun s => !betweenB s (-10000) 10000) = false)) (fun i => m.coefs.length - (intOf i).toNat)
  case atStart => exact ⟨0, Nat.zero_le _, rfl, by simp [Hid]⟩
  case round =>
    obtain ⟨k, hk, rfl, hall⟩ := hrel
    by_cases hlt : k < m.coefs.length
    · obtain ⟨b1, o1, rfl, q1, -⟩ := hcl k hlt
      have hst := Lib.hid (any_take m.coefs (fun s => !betweenB s (-10000) 10000) k hlt hall.out)
      have hno := Lib.hid (any_of m.coefs (fun s => !betweenB s (-10000) 10000) k hlt)
      have hbl := cell_lt q1
      simp only [Nat.mul_one] at q1 hbl
      replace q1 := ext_of_below hA _ _ q1
      clear hcl hc hall hs hB
      generalize m.coefs[k] = s at *
      by_cases hw : -10000 ≤ s ∧ s ≤ 10000
      · have hst2 : Hid ((m.coefs.take (k + 1)).any (fun s => !betweenB s (-10000) 10000) = false) := by
          unfold Hid; rw [hst.out]; simp [betweenB, hw.1, hw.2]
        obtain ⟨hw1, hw2⟩ := hw
        go_wp2
        go_round
        case rel => exact ⟨k + 1, by omega, by go_num, hst2⟩
        case measure => simp [intOf]; omega
      · have HX := Lib.hid (show prpB n0 m = 1 by
          unfold prpB
          rw [if_pos (by rw [Bool.and_eq_false_iff]; left; rw [HW.out, hno.out (by simp [betweenB]; omega)]; rfl)])
        have HB := Lib.hid hw
        clear hw
        go_wp2
        all_goals first
          | (go_ret; exact ⟨ret_int HX.out.symm, hA⟩)
          | (exfalso; have := HB.out; omega)
    · have hwe := Lib.hid (show allBetweenB m.coefs n0 (-10000) 10000 = true by
        have := hall.out
        rw [List.take_of_length_le (by omega)] at this
        rw [HW.out, this]; rfl)
      clear hall hcl hc hB
      go_wp2_with fail
      refine (rwithin_any m.target (-10000) 10000 _).mono ?_
      rintro e w1 ⟨rfl, hb1⟩
      have hf2 := hA.trans (hb1.mono hA.size)
      cases hw : withinB m.target (-10000) 10000 with
      | false =>
        have HX := Lib.hid (show prpB n0 m = 1 by unfold prpB; rw [hwe.out, hw]; rfl)
        clear hw
        go_wp2
        go_ret
        exact ⟨ret_int HX.out.symm, hf2⟩
      | true =>
        have HX := Lib.hid (show prpB n0 m = 0 by unfold prpB; rw [hwe.out, hw]; rfl)
        clear hw
        go_wp2
        go_ret
        exact ⟨ret_int HX.out.symm, hf2⟩

end Go.Proofs.YtmmlocjiegkjeaaGreatDoor.B1

namespace Go.Proofs.YtmmlocjiegkjeaaGreatDoor.B1

open Go.RowKit Go.PlainAid

set_option linter.unusedVariables false

theorem info_str : (Tryz.prog.info? 9).map (fun i => (i.zero, i.size, i.bytes)) = some (some (.string ⟨#[]⟩), 1, 16) := by kernel_rfl

theorem own_RStrs {w : World} {base : Nat} {e : TypeId} {v : Value} {l : List ByteArray} (h : w.ownsRow base e 1 v l.length (l.map Value.string)) (hm : l.length ≤ 140737488351232) (hi : ∀ x ∈ l, x.size ≤ 140737488351232) : RStrs w v l :=
  own_RSl h hm fun g cap _ hc i hil => by
    have := hc i (by simpa using hil)
    rw [List.getElem_map] at this
    exact ⟨by rw [Nat.mul_one]; exact this, hi _ (List.getElem_mem hil)⟩

/-- where the way through a batch's parts stands. -/
theorem chk_ox {b : Bat} (h : oxB b.oxides ≠ 0) : checkB b = oxB b.oxides := by simp [checkB, h]

theorem chk_mt {b : Bat} (h : oxB b.oxides = 0) (h2 : matsB b.mats b.oxides.length ≠ 0) : checkB b = matsB b.mats b.oxides.length := by simp [checkB, h, h2]

theorem chk_sh {b : Bat} (h : oxB b.oxides = 0) (h2 : matsB b.mats b.oxides.length = 0) (h3 : allWithinB b.shares b.oxides.length 0 1000 = false) : checkB b = 1 := by simp [checkB, h, h2, h3]

theorem chk_pr {b : Bat} (h : oxB b.oxides = 0) (h2 : matsB b.mats b.oxides.length = 0) (h3 : allWithinB b.shares b.oxides.length 0 1000 = true) (h4 : prpsB b.props b.oxides.length ≠ 0) : checkB b = prpsB b.props b.oxides.length := by simp [checkB, h, h2, h3, h4]

theorem chk_end {b : Bat} (h : oxB b.oxides = 0) (h2 : matsB b.mats b.oxides.length = 0) (h3 : allWithinB b.shares b.oxides.length 0 1000 = true) (h4 : prpsB b.props b.oxides.length = 0) : checkB b = if (withinB b.redox (-10000) 10000 && betweenB b.wanted 1 10000) = false then 1 else 0 := by simp [checkB, h, h2, h3, h4]

theorem any_map {α : Type} (l : List α) (f : α → ByteArray) (x : ByteArray) : ((l.map f).any fun y => eqS y x) = l.any fun a => eqS (f a) x := by
  rw [List.any_map]; rfl

theorem grown_drewN {B n : Nat} {a w : World} (h : Below B a w) : Below B a (w.drewN n) := ⟨h.os, h.tape, h.output, h.size, h.block⟩

theorem ext_drewN (w : World) (n : Nat) : Ext w (w.drewN n) := ext_of_below (grown_drewN (Below.refl _ _))

theorem own_drawn {w : World} {base : Nat} {e : TypeId} {size : Nat} {v : Value} {n : Nat} {xs : List Value} (h : w.ownsRow base e size v n xs) : w.drew.ownsRow base e size v n xs := h

def RetN (w : World) (n : Int) (e : Ending) (w' : World) : Prop := e = .returned (.int .i64 n) ∧ Below w.heap.size w w'

set_option maxHeartbeats 4000000 in
set_option maxRecDepth 100000 in
theorem rcheck_any (vb : Value) (b : Bat) (w : World) (h : RBat w vb b) :
    Calls Tryz.prog 68 #[vb] w (RetN w (checkB b)) := by
  obtain ⟨v0, v1, v2, v3, rfl, h0, h1, h2, h3, i1, i2, i3⟩ := h
  obtain ⟨a0, k0, rfl, p0, ⟨p0', l0⟩, hl0⟩ := id h0
  obtain ⟨a1, k1, rfl, -, ⟨-, l1⟩, hl1⟩ := id h1
  obtain ⟨a2, k2, rfl, -, ⟨-, l2⟩, hl2⟩ := id h2
  obtain ⟨a3, k3, rfl, -, ⟨-, l3⟩, hl3⟩ := id h3
  obtain ⟨ii, hi, hz0, hz1, hz2⟩ := info_parts info_str
  have hA := below_box w (.cells #[.slice a0 b.oxides.length k0, .slice a1 b.mats.length k1, .slice a2 b.shares.length k2, .slice a3 b.props.length k3, .int .i64 b.redox.lo, .int .i64 b.redox.hi, .int .i64 b.wanted] 32)
  have hB := Blk.new w #[.slice a0 b.oxides.length k0, .slice a1 b.mats.length k1, .slice a2 b.shares.length k2, .slice a3 b.props.length k3, .int .i64 b.redox.lo, .int .i64 b.redox.hi, .int .i64 b.wanted] 32
  by_cases h12 : 12 < b.oxides.length
  · have HF := Lib.hid (show checkB b = 3 by rw [chk_ox (by simp [oxB, h12])]; simp [oxB, h12])
    clear hl0 hl1 hl2 hl3 h0 h1 h2 h3 hB
    go_enter Tryz.func68, Tryz.ntmps68
    go_wp2
    go_ret
    exact ⟨ret_int HF.out.symm, hA⟩
  by_cases hz : b.oxides.length = 0
  · have HF := Lib.hid (show checkB b = 1 by rw [chk_ox (by simp [oxB, hz])]; simp [oxB, hz])
    have e1 : ((b.oxides.length : Int) == 0) = true := by simp [hz]
    clear hl0 hl1 hl2 hl3 h0 h1 h2 h3 hB hz
    go_enter Tryz.func68, Tryz.ntmps68
    go_wp2
    go_ret
    exact ⟨ret_int HF.out.symm, hA⟩
  have HO := Lib.hid (show oxB b.oxides = seqB (fun x => x) (fun _ => 0) [] b.oxides by simp [oxB, h12, hz])
  have e1 : ((b.oxides.length : Int) == 0) = false := by simp [hz]
  have e2 : decide ((12 : Int) < (b.oxides.length : Int)) = false := decide_eq_false (by omega)
  clear hz h12
  go_enter Tryz.func68, Tryz.ntmps68
  go_wp2
  generalize w.alloc (.cells #[.slice a0 b.oxides.length k0, .slice a1 b.mats.length k1, .slice a2 b.shares.length k2, .slice a3 b.props.length k3, .int .i64 b.redox.lo, .int .i64 b.redox.hi, .int .i64 b.wanted] 32) = W at *
  clear e1 e2
  have H0 := h0.mono (ext_of_below hA)
  have H1 := h1.mono (ext_of_below hA)
  have H2 := h2.mono (ext_of_below hA)
  have H3 := h3.mono (ext_of_below hA)
  clear h0 h1 h2 h3
  go_loopw [3] (fun i wr => ∃ (k : Nat), k ≤ b.oxides.length ∧ i = .int .i64 k ∧ Hid (seqB (fun x => x) (fun _ => 0) [] b.oxides = seqB (fun x => x) (fun _ => 0) (b.oxides.take k) (b.oxides.drop k)) ∧ Below W.heap.size W wr) (fun i _ => b.oxides.length - (intOf i).toNat)
  case atStart => exact ⟨0, Nat.zero_le _, rfl, rfl, Below.refl _ _⟩
  case round =>
    obtain ⟨k, hk, rfl, hx, hb⟩ := hrel
    have hfinB := hA.trans (hb.mono hA.size)
    have hBr := hB.below hb hB.lt
    have f0 := hBr.cell 0 (.slice a0 b.oxides.length k0) rfl
    by_cases hlt : k < b.oxides.length
    · have hst := Lib.hid (seqB_step (fun x => x) (fun _ => 0) b.oxides k hlt)
      have hT := (H0.mono (ext_of_below hb)).take k (by omega)
      obtain ⟨b1, o1, rfl, q1, q2⟩ := hl0 k hlt
      simp only [Nat.mul_one] at q1
      replace q1 := ext_of_below hfinB _ _ q1
      clear hl0 hl1 hl2 hl3 H0 H1 H2 H3 hB hBr hA
      generalize b.oxides[k] = s at *
      go_wp2_with fail
      refine (rname_any s _ q2).mono ?_
      rintro e w1 ⟨rfl, rfl⟩
      cases hn : nameB s with
      | false =>
        have HF := Lib.hid (show checkB b = 5 by
          have e : oxB b.oxides = 5 := by rw [HO.out, hx.out, hst.out, if_pos hn]
          rw [chk_ox (by rw [e]; decide), e])
        clear hn
        go_wp2
        go_ret
        exact ⟨ret_int HF.out.symm, hfinB⟩
      | true =>
        go_wp2_with fail
        have j1 : (0 : Int) ≤ (k : Int) := Int.natCast_nonneg _
        have j2 : (k : Int) ≤ (k0 : Int) := by omega
        have j3 : (k : Int) < (b.oxides.length : Int) := by omega
        go_quiet ((go_at_call 87; exact Calls.quiet_of_same ((rin_any _ (b.oxides.take k) s _ (RStrs.mono (ext_drewN _ _) hT)).mono fun e w' h => ⟨h.1, h.2.symm⟩)))
        cases hs : (b.oxides.take k).any (fun y => eqS y s) with
        | true =>
          have HF := Lib.hid (show checkB b = 6 by
            have e : oxB b.oxides = 6 := by rw [HO.out, hx.out, hst.out, if_neg (by simp [hn]), if_pos hs]
            rw [chk_ox (by rw [e]; decide), e])
          clear hn hs
          go_wp2
          go_ret
          exact ⟨ret_int HF.out.symm, grown_drewN hfinB⟩
        | false =>
          have HX := Lib.hid (hx.out.trans hst.out)
          have HN := Lib.hid hn
          have HS := Lib.hid hs
          clear hn hs
          go_wp2
          go_roundw
          case rel => exact ⟨k + 1, by omega, by go_num, by have := HX.out; rw [if_neg (by simp [HN.out]), if_neg (by simp [HS.out]), if_true] at this; exact this, grown_drewN hb⟩
          case measure => simp [intOf]; omega
    · have E1 := Lib.hid (show oxB b.oxides = 0 by rw [HO.out, hx.out, seqB_end _ _ _ _ (by omega)])
      have f1 := hBr.cell 1 (.slice a1 b.mats.length k1) rfl
      have hko : b.oxides.length ≤ k := by omega
      clear hx hl0
      by_cases h12 : 12 < b.mats.length
      · have HF := Lib.hid (show checkB b = 3 by rw [chk_mt E1.out (by simp [matsB, h12])]; simp [matsB, h12])
        clear hl1 hl2 hl3 H0 H1 H2 H3
        go_wp2
        go_ret
        exact ⟨ret_int HF.out.symm, hfinB⟩
      by_cases hz : b.mats.length = 0
      · have HF := Lib.hid (show checkB b = 1 by rw [chk_mt E1.out (by simp [matsB, hz])]; simp [matsB, hz])
        have e1 : ((b.mats.length : Int) == 0) = true := by simp [hz]
        clear hl1 hl2 hl3 H0 H1 H2 H3 hz
        go_wp2
        go_ret
        exact ⟨ret_int HF.out.symm, hfinB⟩
      have HM := Lib.hid (show matsB b.mats b.oxides.length = seqB Mat.name (fun m => numB m b.oxides.length) [] b.mats by simp [matsB, h12, hz])
      have e1 : ((b.mats.length : Int) == 0) = false := by simp [hz]
      have e2 : decide ((12 : Int) < (b.mats.length : Int)) = false := decide_eq_false (by omega)
      have hm12 : b.mats.length ≤ 12 := by omega
      clear hz h12
      go_wp2
      clear e1 e2
      have hBo := hBr
      have hbo := hb
      have hszo := hb.size
      clear hBr hb hfinB f0 f1
      obtain ⟨wo, rfl⟩ : ∃ wo : World, wo = wr := ⟨_, rfl⟩
      go_loopw [4, 5] (fun u i wr => ∃ (k : Nat) (l : List ByteArray), k ≤ b.mats.length ∧ i = .int .i64 k ∧ Hid (l = (b.mats.take k).map Mat.name) ∧ Hid (seqB Mat.name (fun m => numB m b.oxides.length) [] b.mats = seqB Mat.name (fun m => numB m b.oxides.length) (b.mats.take k) (b.mats.drop k)) ∧ wr.ownsRow W.heap.size 9 1 u l.length (l.map Value.string) ∧ Below W.heap.size W wr) (fun _ i _ => b.mats.length - (intOf i).toNat)
      case atStart => exact ⟨0, [], Nat.zero_le _, rfl, rfl, rfl, World.ownsRow_nil _ _ _ _, hbo⟩
      case round =>
        clear hbo hBo hszo
        obtain ⟨k, l, hk, rfl, hl, hx, hown, hb⟩ := hrel
        have hfinB := hA.trans (hb.mono hA.size)
        have hBr := hB.below hb hB.lt
        have f0 := hBr.cell 0 (.slice a0 b.oxides.length k0) rfl
        have f1 := hBr.cell 1 (.slice a1 b.mats.length k1) rfl
        by_cases hlt : k < b.mats.length
        · have hst := Lib.hid (seqB_step Mat.name (fun m => numB m b.oxides.length) b.mats k hlt)
          have hll : l.length ≤ 12 := by rw [hl.out]; simp; omega
          have hsn := Lib.hid (show l ++ [(b.mats[k]'hlt).name] = (b.mats.take (k + 1)).map Mat.name by rw [hl.out, List.take_succ_eq_append_getElem hlt, List.map_append, List.map_singleton])
          have hany := Lib.hid (any_map (b.mats.take k) Mat.name (b.mats[k]'hlt).name)
          have hns : ∀ x ∈ l, x.size ≤ 140737488351232 := by
            rw [hl.out]
            intro x hx
            obtain ⟨m, hm, rfl⟩ := List.mem_map.1 hx
            obtain ⟨i, hi, rfl⟩ := List.getElem_of_mem (List.mem_of_mem_take hm)
            obtain ⟨-, -, -, c, -, -, hs⟩ := hl1 i hi
            exact hs.1
          obtain ⟨b1, o1, rfl, c, ⟨g0, g1, g2, g3, g4, g5, g6⟩, hc, hs⟩ := hl1 k hlt
          obtain ⟨ac, kc, rfl, -, -, -⟩ := id hc
          have hbl := cell_lt g0
          simp only at g0 g1 g2 g3 g4 g5 g6 hbl
          have hV : VMat w (.agg #[.string b.mats[k].name, .int .i64 b.mats[k].price, .int .i64 b.mats[k].redox, .int .i64 b.mats[k].least, .int .i64 b.mats[k].most, .int .i64 b.mats[k].step, .slice ac b.mats[k].content.length kc]) b.mats[k] := ⟨_, rfl, hc, hs⟩
          have hsn1 := hs.1
          have g0' := g0
          replace g0 := ext_of_below hfinB _ _ g0
          have hRS := own_RStrs hown (by omega) hns
          clear hl1 hl2 hl3 H0 H1 H2 H3 hc hs hns
          generalize b.mats[k] = s at *
          go_wp2_with fail
          refine (rname_any s.name _ hsn1).mono ?_
          rintro e w1 ⟨rfl, rfl⟩
          cases hn : nameB s.name with
          | false =>
            have HF := Lib.hid (show checkB b = 5 by
              have e : matsB b.mats b.oxides.length = 5 := by rw [HM.out, hx.out, hst.out, if_pos hn]
              rw [chk_mt E1.out (by rw [e]; decide), e])
            clear hn
            go_wp2
            go_ret
            exact ⟨ret_int HF.out.symm, hfinB⟩
          | true =>
            go_wp2_with fail
            refine (rin_any _ l s.name _ hRS).mono ?_
            rintro e w1 ⟨rfl, rfl⟩
            cases hs : l.any (fun y => eqS y s.name) with
            | true =>
              have HF := Lib.hid (show checkB b = 6 by
                have e : matsB b.mats b.oxides.length = 6 := by rw [HM.out, hx.out, hst.out, if_neg (by simp [hn]), if_pos (by rw [← hany.out, ← hl.out]; exact hs)]
                rw [chk_mt E1.out (by rw [e]; decide), e])
              clear hn hs
              go_wp2
              go_ret
              exact ⟨ret_int HF.out.symm, hfinB⟩
            | false =>
              have HX : Hid (seqB Mat.name (fun m => numB m b.oxides.length) [] b.mats = if numB s b.oxides.length = 0 then seqB Mat.name (fun m => numB m b.oxides.length) (b.mats.take (k + 1)) (b.mats.drop (k + 1)) else numB s b.oxides.length) := by
                have := hx.out.trans hst.out
                rw [if_neg (by simp [hn]), if_neg (by rw [← hany.out, ← hl.out]; simp [hs])] at this
                exact this
              have hown2 := hown.alloc (.cells #[.string s.name] 9)
              have hszr := hb.size
              clear hn hs hx hst hRS hany hl
              go_wp2_with (at_builtin; refine wpList_append_own _ rfl _ _ 25 rfl W.heap.size 9 ii (.string ⟨#[]⟩) 1 16 Tryz.underlying25 hi hz0 hz1 hz2 rfl (by decide) _ l.length _ rfl hown2 ⟨wr.heap.size, 0, none⟩ 1 1 [.string s.name] rfl rfl (cell_one_new _ _ _) (by simp [Value.oneCell']) (by unfold maxLen; omega) (by omega) (by simp; omega) ?_; intro v6 w6 hown6 hgrow6 _)
              have hb6 := (hb.alloc hb.size (.cells #[.string s.name] 9)).grown hgrow6 (by simp; omega) (fun q hq => (hown2.lt q hq).1)
              have hownF : w6.ownsRow W.heap.size 9 1 v6 (l ++ [s.name]).length ((l ++ [s.name]).map Value.string) := by simpa using hown6
              have hf6 := hA.trans (hb6.mono hA.size)
              have hB6 := hB.below hb6 hB.lt
              clear f0 f1 g0 hown hown2 hown6 hgrow6 hb hfinB hBr hsn1
              have f0 := hB6.cell 0 (.slice a0 b.oxides.length k0) rfl
              have f1 : w6.cell? ⟨w.heap.size, 1, none⟩ = some (.slice (some ⟨b1, o1, none⟩) b.mats.length k1) := hB6.cell 1 _ rfl
              have f2 := hB6.cell 2 (.slice a2 b.shares.length k2) rfl
              have f3 := hB6.cell 3 (.slice a3 b.props.length k3) rfl
              have f4 := hB6.cell 4 (.int .i64 b.redox.lo) rfl
              have f5 := hB6.cell 5 (.int .i64 b.redox.hi) rfl
              have f6 := hB6.cell 6 (.int .i64 b.wanted) rfl
              replace g1 := ext_of_below hf6 _ _ g1
              replace g2 := ext_of_below hf6 _ _ g2
              replace g3 := ext_of_below hf6 _ _ g3
              replace g4 := ext_of_below hf6 _ _ g4
              replace g5 := ext_of_below hf6 _ _ g5
              replace g6 := ext_of_below hf6 _ _ g6
              have g0 : w6.cell? ⟨b1, o1 + k * 7, none⟩ = some (.string s.name) := ext_of_below hf6 _ _ g0'
              have hV6 := hV.mono (ext_of_below hf6)
              clear hV g0' hbl
              have j1 : (0 : Int) ≤ (k : Int) := Int.natCast_nonneg _
              have j3 : (k : Int) < (b.mats.length : Int) := by omega
              refine wp_region_still_tail 6 (by kernel_rfl) (by kernel_rfl) ?_
              simp only [List.take_succ_cons, List.take_zero, List.drop_succ_cons, List.drop_zero]
              repeat still_step
              refine wpStill_nil ?_
              change wpList _ _ _ _ _ w6.drew
              clear g0 g1 g2 g3 g4 g5 g6 f0 f1 f2 f3 f4 f5 f6 j1 j3
              go_wp2_with fail
              refine (rmaterial_any a0 _ k0 _ _ _ _ _ _ s _ _ (hV6.mono (ext_drewN _ 1)) l0).mono ?_
              rintro e w7 ⟨rfl, hb7⟩
              have hb8 := hb6.drew.trans (hb7.mono hb6.size)
              have hf8 := hA.trans (hb8.mono hA.size)
              have hown8 := own_below (own_drawn hownF) hb7 (own_lt (own_drawn hownF))
              clear hV6 hb6 hf6 hB6 hb7 hownF
              by_cases hz : numB s b.oxides.length = 0
              · have HY := Lib.hid (HX.out.trans (if_pos hz))
                have hz' : (numB s b.oxides.length != 0) = false := by simp [hz]
                clear hz
                go_wp2
                go_roundw
                case rel => exact ⟨k + 1, l ++ [s.name], by omega, by go_num, hsn, HY, hown8, hb8⟩
                case measure => simp [intOf]; omega
              · have HY := Lib.hid (show checkB b = numB s b.oxides.length by
                  have e : matsB b.mats b.oxides.length = numB s b.oxides.length := by rw [HM.out, HX.out, if_neg hz]
                  rw [chk_mt E1.out (by rw [e]; exact hz), e])
                have hz' : (numB s b.oxides.length != 0) = true := by simp [hz]
                clear hz
                go_wp2
                go_ret
                exact ⟨ret_int HY.out.symm, hf8⟩
        · have E2 := Lib.hid (show matsB b.mats b.oxides.length = 0 by rw [HM.out, hx.out, seqB_end _ _ _ _ (by omega)])
          have f2 := hBr.cell 2 (.slice a2 b.shares.length k2) rfl
          have hko : b.mats.length ≤ k := by omega
          clear hx hl1 hl hown
          by_cases hln : b.shares.length = b.oxides.length
          case neg =>
            have HF := Lib.hid (show checkB b = 1 by
              rw [chk_sh E1.out E2.out]
              unfold allWithinB
              rw [Bool.and_eq_false_iff]
              left
              simp; omega)
            have hq : ((b.shares.length : Int) != (b.oxides.length : Int)) = true := by rw [bne_iff_ne]; omega
            clear hln hl2 hl3 H0 H1 H2 H3
            go_wp2
            go_ret
            exact ⟨ret_int HF.out.symm, hfinB⟩
          have HW := Lib.hid (any_notwithin_end (l := b.shares) (n := (b.oxides.length : Int)) (by omega))
          have hq : ((b.shares.length : Int) != (b.oxides.length : Int)) = false := by rw [bne_eq_false_iff_eq]; omega
          clear hln
          go_wp2
          have hbo := hb
          clear hq hBr hb hfinB f0 f1 f2
          obtain ⟨w2, rfl⟩ : ∃ w2 : World, w2 = wr := ⟨_, rfl⟩
          go_loopw [7] (fun i wr => ∃ (k : Nat), k ≤ b.shares.length ∧ i = .int .i64 k ∧ Hid ((b.shares.take k).any (fun s => !withinB s 0 1000) = false) ∧ Below W.heap.size W wr) (fun i _ => b.shares.length - (intOf i).toNat)
          case atStart => exact ⟨0, Nat.zero_le _, rfl, by simp [Hid], hbo⟩
          case round =>
            clear hbo
            obtain ⟨k, hk, rfl, hall, hb⟩ := hrel
            have hfinB := hA.trans (hb.mono hA.size)
            have hBr := hB.below hb hB.lt
            have f2 := hBr.cell 2 (.slice a2 b.shares.length k2) rfl
            by_cases hlt : k < b.shares.length
            · obtain ⟨b1, o1, rfl, q1, q2, -, -⟩ := hl2 k hlt
              have hst := Lib.hid (any_take b.shares (fun s => !withinB s 0 1000) k hlt hall.out)
              have hno := Lib.hid (any_of b.shares (fun s => !withinB s 0 1000) k hlt)
              have hbl := cell_lt q1
              simp only at q1 q2 hbl
              replace q1 := ext_of_below hfinB _ _ q1
              replace q2 := ext_of_below hfinB _ _ q2
              clear hl2 hl3 H0 H1 H2 H3 hall hA hB hBr
              generalize b.shares[k] = s at *
              go_wp2_with fail
              refine (rwithin_any s 0 1000 _).mono ?_
              rintro e w1 ⟨rfl, hb1⟩
              have hb2 := hb.trans (hb1.mono hb.size)
              have hf2 := hfinB.trans (hb1.mono hfinB.size)
              clear q1 q2 hb1
              cases hw : withinB s 0 1000 with
              | false =>
                have HX := Lib.hid (show checkB b = 1 by
                  exact chk_sh E1.out E2.out (by rw [HW.out, hno.out (by simp [hw])]; rfl))
                clear hw
                go_wp2
                go_ret
                exact ⟨ret_int HX.out.symm, hf2⟩
              | true =>
                have hst2 : Hid ((b.shares.take (k + 1)).any (fun s => !withinB s 0 1000) = false) := by
                  unfold Hid; rw [hst.out]; simp [hw]
                clear hw
                go_wp2
                go_roundw
                case rel => exact ⟨k + 1, by omega, by go_num, hst2, hb2⟩
                case measure => simp [intOf]; omega
            · have E3 := Lib.hid (show allWithinB b.shares b.oxides.length 0 1000 = true by
                have := hall.out
                rw [List.take_of_length_le (by omega)] at this
                rw [HW.out, this]; rfl)
              have f3 := hBr.cell 3 (.slice a3 b.props.length k3) rfl
              have hko : b.shares.length ≤ k := by omega
              clear hall hl2
              by_cases h6 : 6 < b.props.length
              · have HF := Lib.hid (show checkB b = 3 by rw [chk_pr E1.out E2.out E3.out (by simp [prpsB, h6])]; simp [prpsB, h6])
                clear hl3 H0 H1 H2 H3
                go_wp2
                go_ret
                exact ⟨ret_int HF.out.symm, hfinB⟩
              have HP := Lib.hid (show prpsB b.props b.oxides.length = seqB Prp.name (prpB b.oxides.length) [] b.props by simp [prpsB, h6])
              have e2 : decide ((6 : Int) < (b.props.length : Int)) = false := decide_eq_false (by omega)
              have hm6 : b.props.length ≤ 6 := by omega
              clear h6
              go_wp2
              have hbo := hb
              have hszo := hb.size
              clear hBr hb hfinB f2 f3 e2
              obtain ⟨w3, rfl⟩ : ∃ w3 : World, w3 = wr := ⟨_, rfl⟩
              go_loopw [4, 8] (fun u i wr => ∃ (k : Nat) (l : List ByteArray), k ≤ b.props.length ∧ i = .int .i64 k ∧ Hid (l = (b.props.take k).map Prp.name) ∧ Hid (seqB Prp.name (prpB b.oxides.length) [] b.props = seqB Prp.name (prpB b.oxides.length) (b.props.take k) (b.props.drop k)) ∧ wr.ownsRow W.heap.size 9 1 u l.length (l.map Value.string) ∧ Below W.heap.size W wr) (fun _ i _ => b.props.length - (intOf i).toNat)
              case atStart => exact ⟨0, [], Nat.zero_le _, rfl, rfl, rfl, World.ownsRow_nil _ _ _ _, hbo⟩
              case round =>
                clear hbo hszo
                obtain ⟨k, l, hk, rfl, hl, hx, hown, hb⟩ := hrel
                have hfinB := hA.trans (hb.mono hA.size)
                have hBr := hB.below hb hB.lt
                have f3 := hBr.cell 3 (.slice a3 b.props.length k3) rfl
                by_cases hlt : k < b.props.length
                · have hst := Lib.hid (seqB_step Prp.name (prpB b.oxides.length) b.props k hlt)
                  have hll : l.length ≤ 12 := by rw [hl.out]; simp; omega
                  have hsn := Lib.hid (show l ++ [(b.props[k]'hlt).name] = (b.props.take (k + 1)).map Prp.name by rw [hl.out, List.take_succ_eq_append_getElem hlt, List.map_append, List.map_singleton])
                  have hany := Lib.hid (any_map (b.props.take k) Prp.name (b.props[k]'hlt).name)
                  have hns : ∀ x ∈ l, x.size ≤ 140737488351232 := by
                    rw [hl.out]
                    intro x hx
                    obtain ⟨m, hm, rfl⟩ := List.mem_map.1 hx
                    obtain ⟨i, hi, rfl⟩ := List.getElem_of_mem (List.mem_of_mem_take hm)
                    obtain ⟨-, -, -, c, -, -, hs⟩ := hl3 i hi
                    exact hs.1
                  obtain ⟨b1, o1, rfl, c, ⟨g0, g1, g2, g3⟩, hc, hs⟩ := hl3 k hlt
                  obtain ⟨ac, kc, rfl, -, -, -⟩ := id hc
                  have hbl := cell_lt g0
                  simp only at g0 g1 g2 g3 hbl
                  have hV : VPrp w (.agg #[.string b.props[k].name, .slice ac b.props[k].coefs.length kc, .int .i64 b.props[k].target.lo, .int .i64 b.props[k].target.hi]) b.props[k] := ⟨_, rfl, hc, hs⟩
                  have hsn1 := hs.1
                  have g0' := g0
                  replace g0 := ext_of_below hfinB _ _ g0
                  have hRS := own_RStrs hown (by omega) hns
                  clear hl3 H0 H1 H2 H3 hc hs hns
                  generalize b.props[k] = s at *
                  go_wp2_with fail
                  refine (rname_any s.name _ hsn1).mono ?_
                  rintro e w1 ⟨rfl, rfl⟩
                  cases hn : nameB s.name with
                  | false =>
                    have HF := Lib.hid (show checkB b = 5 by
                      have e : prpsB b.props b.oxides.length = 5 := by rw [HP.out, hx.out, hst.out, if_pos hn]
                      rw [chk_pr E1.out E2.out E3.out (by rw [e]; decide), e])
                    clear hn
                    go_wp2
                    go_ret
                    exact ⟨ret_int HF.out.symm, hfinB⟩
                  | true =>
                    go_wp2_with fail
                    refine (rin_any _ l s.name _ hRS).mono ?_
                    rintro e w1 ⟨rfl, rfl⟩
                    cases hs : l.any (fun y => eqS y s.name) with
                    | true =>
                      have HF := Lib.hid (show checkB b = 6 by
                        have e : prpsB b.props b.oxides.length = 6 := by rw [HP.out, hx.out, hst.out, if_neg (by simp [hn]), if_pos (by rw [← hany.out, ← hl.out]; exact hs)]
                        rw [chk_pr E1.out E2.out E3.out (by rw [e]; decide), e])
                      clear hn hs
                      go_wp2
                      go_ret
                      exact ⟨ret_int HF.out.symm, hfinB⟩
                    | false =>
                      have HX : Hid (seqB Prp.name (prpB b.oxides.length) [] b.props = if prpB b.oxides.length s = 0 then seqB Prp.name (prpB b.oxides.length) (b.props.take (k + 1)) (b.props.drop (k + 1)) else prpB b.oxides.length s) := by
                        have := hx.out.trans hst.out
                        rw [if_neg (by simp [hn]), if_neg (by rw [← hany.out, ← hl.out]; simp [hs])] at this
                        exact this
                      have hown2 := hown.alloc (.cells #[.string s.name] 9)
                      have hszr := hb.size
                      clear hn hs hx hst hRS hany hl
                      go_wp2_with (at_builtin; refine wpList_append_own _ rfl _ _ 25 rfl W.heap.size 9 ii (.string ⟨#[]⟩) 1 16 Tryz.underlying25 hi hz0 hz1 hz2 rfl (by decide) _ l.length _ rfl hown2 ⟨wr.heap.size, 0, none⟩ 1 1 [.string s.name] rfl rfl (cell_one_new _ _ _) (by simp [Value.oneCell']) (by unfold maxLen; omega) (by omega) (by simp; omega) ?_; intro v6 w6 hown6 hgrow6 _)
                      have hb6 := (hb.alloc hb.size (.cells #[.string s.name] 9)).grown hgrow6 (by simp; omega) (fun q hq => (hown2.lt q hq).1)
                      have hownF : w6.ownsRow W.heap.size 9 1 v6 (l ++ [s.name]).length ((l ++ [s.name]).map Value.string) := by simpa using hown6
                      have hf6 := hA.trans (hb6.mono hA.size)
                      have hB6 := hB.below hb6 hB.lt
                      clear f3 g0 hown hown2 hown6 hgrow6 hb hfinB hBr hsn1
                      have f0 := hB6.cell 0 (.slice a0 b.oxides.length k0) rfl
                      have f1 := hB6.cell 1 (.slice a1 b.mats.length k1) rfl
                      have f2 := hB6.cell 2 (.slice a2 b.shares.length k2) rfl
                      have f3 : w6.cell? ⟨w.heap.size, 3, none⟩ = some (.slice (some ⟨b1, o1, none⟩) b.props.length k3) := hB6.cell 3 _ rfl
                      have f4 := hB6.cell 4 (.int .i64 b.redox.lo) rfl
                      have f5 := hB6.cell 5 (.int .i64 b.redox.hi) rfl
                      have f6 := hB6.cell 6 (.int .i64 b.wanted) rfl
                      replace g1 := ext_of_below hf6 _ _ g1
                      replace g2 := ext_of_below hf6 _ _ g2
                      replace g3 := ext_of_below hf6 _ _ g3
                      have g0 : w6.cell? ⟨b1, o1 + k * 4, none⟩ = some (.string s.name) := ext_of_below hf6 _ _ g0'
                      have hV6 := hV.mono (ext_of_below hf6)
                      clear hV g0' hbl
                      have j1 : (0 : Int) ≤ (k : Int) := Int.natCast_nonneg _
                      have j3 : (k : Int) < (b.props.length : Int) := by omega
                      refine wp_region_still_tail 6 (by kernel_rfl) (by kernel_rfl) ?_
                      simp only [List.take_succ_cons, List.take_zero, List.drop_succ_cons, List.drop_zero]
                      repeat still_step
                      refine wpStill_nil ?_
                      change wpList _ _ _ _ _ w6.drew
                      clear g0 g1 g2 g3 f0 f1 f2 f3 f4 f5 f6 j1 j3
                      go_wp2_with fail
                      refine (rproperty_any a0 _ k0 _ _ _ _ _ _ s _ _ (hV6.mono (ext_drewN _ 1)) l0).mono ?_
                      rintro e w7 ⟨rfl, hb7⟩
                      have hb8 := hb6.drew.trans (hb7.mono hb6.size)
                      have hf8 := hA.trans (hb8.mono hA.size)
                      have hown8 := own_below (own_drawn hownF) hb7 (own_lt (own_drawn hownF))
                      clear hV6 hb6 hf6 hB6 hb7 hownF
                      by_cases hz : prpB b.oxides.length s = 0
                      · have HY := Lib.hid (HX.out.trans (if_pos hz))
                        have hz' : (prpB b.oxides.length s != 0) = false := by simp [hz]
                        clear hz
                        go_wp2
                        go_roundw
                        case rel => exact ⟨k + 1, l ++ [s.name], by omega, by go_num, hsn, HY, hown8, hb8⟩
                        case measure => simp [intOf]; omega
                      · have HY := Lib.hid (show checkB b = prpB b.oxides.length s by
                          have e : prpsB b.props b.oxides.length = prpB b.oxides.length s := by rw [HP.out, HX.out, if_neg hz]
                          rw [chk_pr E1.out E2.out E3.out (by rw [e]; exact hz), e])
                        have hz' : (prpB b.oxides.length s != 0) = true := by simp [hz]
                        clear hz
                        go_wp2
                        go_ret
                        exact ⟨ret_int HY.out.symm, hf8⟩
                · have E4 := Lib.hid (show prpsB b.props b.oxides.length = 0 by rw [HP.out, hx.out, seqB_end _ _ _ _ (by omega)])
                  have HE := Lib.hid (chk_end E1.out E2.out E3.out E4.out)
                  have f4 := hBr.cell 4 (.int .i64 b.redox.lo) rfl
                  have f5 := hBr.cell 5 (.int .i64 b.redox.hi) rfl
                  have f6 := hBr.cell 6 (.int .i64 b.wanted) rfl
                  clear hx hl3 hl hown H0 H1 H2 H3
                  go_wp2_with fail
                  refine (rwithin_any b.redox (-10000) 10000 _).mono ?_
                  rintro e w1 ⟨rfl, hb1⟩
                  have hf1 := hfinB.trans (hb1.mono hfinB.size)
                  have r6 := ext_of_below hb1 _ _ f6
                  clear f4 f5 f6 hb1 hfinB hBr hb f3
                  cases hw : withinB b.redox (-10000) 10000 with
                  | false =>
                    have HF := Lib.hid (show checkB b = 1 by rw [HE.out, hw]; rfl)
                    clear hw
                    go_wp2
                    go_ret
                    exact ⟨ret_int HF.out.symm, hf1⟩
                  | true =>
                    have HF := Lib.hid (show checkB b = if betweenB b.wanted 1 10000 = false then 1 else 0 by rw [HE.out, hw]; rfl)
                    clear hw
                    by_cases hwa : 1 ≤ b.wanted ∧ b.wanted ≤ 10000
                    · have HX := Lib.hid (show checkB b = 0 by rw [HF.out, if_neg (by simp [betweenB, hwa.1, hwa.2])])
                      obtain ⟨hw1, hw2⟩ := hwa
                      go_wp2
                      go_ret
                      exact ⟨ret_int HX.out.symm, hf1⟩
                    · have HX := Lib.hid (show checkB b = 1 by rw [HF.out, if_pos (by simp [betweenB]; omega)])
                      have HB := Lib.hid hwa
                      clear hwa
                      go_wp2
                      all_goals first
                        | (go_ret; exact ⟨ret_int HX.out.symm, hf1⟩)
                        | (exfalso; have := HB.out; omega)

end Go.Proofs.YtmmlocjiegkjeaaGreatDoor.B1

namespace Go.Proofs.YtmmlocjiegkjeaaGreatDoor.B1

open Go.RowKit Go.PlainAid

set_option linter.unusedVariables false

theorem foldl_max_le (n : Int) : ∀ (l : List Int) (a : Int), l.foldl max a ≤ n ↔ a ≤ n ∧ ∀ x ∈ l, x ≤ n := by
  intro l
  induction l with
  | nil => intro a; simp
  | cons x l ih =>
    intro a
    rw [List.foldl_cons, ih]
    simp only [List.mem_cons, forall_eq_or_imp]
    constructor
    · rintro ⟨h1, h2⟩; exact ⟨by omega, by omega, h2⟩
    · rintro ⟨h1, h2, h3⟩; exact ⟨by omega, h3⟩

theorem gm_le {c : List Int} {g : List Sp} (h : MeanOk c g) (n : Int) : gmB c g ≤ n ↔ ∀ t ∈ c, meanB c g t ≤ n := by
  unfold gmB maxB
  rw [foldl_max_le]
  have hl : 0 < (meansB c g).length := by have := h.n; simp [meansB]; omega
  rw [show (meansB c g).getD 0 0 = (meansB c g)[0] from by simp [List.getD, List.getElem?_eq_getElem hl]]
  constructor
  · rintro ⟨-, h2⟩ t ht
    exact h2 _ (List.mem_map_of_mem ht)
  · intro h2
    have key : ∀ x ∈ meansB c g, x ≤ n := by
      intro x hx
      obtain ⟨t, ht, rfl⟩ := List.mem_map.1 hx
      exact h2 t ht
    exact ⟨key _ (List.getElem_mem hl), key⟩

theorem ceil_le {s w n : Int} (hw : 0 < w) : -(-s / w) ≤ n ↔ s ≤ n * w := by
  have h := Int.le_ediv_iff_mul_le (a := -n) (b := -s) hw
  rw [Int.neg_mul] at h
  omega

theorem mean_le {c : List Int} {g : List Sp} (h : MeanOk c g) (t n : Int) : meanB c g t ≤ n ↔ sumTo c g t c.length ≤ n * wTo c g t c.length := by
  unfold meanB
  exact ceil_le (by have := w_pos h t; omega)

/-- what goes beyond a number, at most. -/
def fE (c : List Int) (n : Int) (g : List Sp) (k : Nat) : Int := ((List.range k).map fun i => grE (c.getD i 0 - n) (g.getD i ⟨0, 0⟩)).sum

theorem fE_succ (c : List Int) (n : Int) (g : List Sp) (k : Nat) : fE c n g (k + 1) = fE c n g k + grE (c.getD k 0 - n) (g.getD k ⟨0, 0⟩) := by
  unfold fE
  rw [List.range_succ, List.map_append, List.map_singleton, sum_snoc]

theorem g_at {g : List Sp} (hg : ∀ s ∈ g, 0 ≤ s.lo ∧ s.lo ≤ s.hi ∧ s.hi ≤ 1000000000) (k : Nat) (hk : k < g.length) : 0 ≤ (g.getD k ⟨0, 0⟩).lo ∧ (g.getD k ⟨0, 0⟩).lo ≤ (g.getD k ⟨0, 0⟩).hi := by
  have := hg _ (getD_mem (d := ⟨0, 0⟩) hk)
  omega

theorem grE_pos {n : Int} {s : Sp} (hn : 0 ≤ n) (h : s.lo ≤ s.hi) : grE n s = n * s.hi := by
  have := Int.mul_le_mul_of_nonneg_left h hn
  unfold grE; omega

theorem grE_neg {n : Int} {s : Sp} (hn : n ≤ 0) (h : s.lo ≤ s.hi) : grE n s = n * s.lo := by
  have := Int.mul_le_mul_of_nonneg_left h (show 0 ≤ -n by omega)
  rw [Int.neg_mul, Int.neg_mul] at this
  unfold grE; omega

theorem pick_le (c n t : Int) (s : Sp) : c * pickB t c s - n * pickB t c s ≤ grE (c - n) s := by
  rw [← Int.sub_mul]
  unfold pickB grE
  split <;> omega

theorem mean_beyond {c : List Int} {g : List Sp} (t n : Int) : ∀ k, sumTo c g t k - n * wTo c g t k ≤ fE c n g k := by
  intro k
  induction k with
  | zero => simp [sumTo, wTo, fE]
  | succ k ih =>
    have h1 := pick_le (c.getD k 0) n t (g.getD k ⟨0, 0⟩)
    rw [sumTo_succ, wTo_succ, fE_succ, Int.mul_add]
    omega

theorem mean_meets {c : List Int} {g : List Sp} (hg : ∀ s ∈ g, 0 ≤ s.lo ∧ s.lo ≤ s.hi ∧ s.hi ≤ 1000000000) (hl : c.length = g.length) (t n : Int) (ht : ∀ x ∈ c, t ≤ x ↔ n < x) : ∀ k, k ≤ c.length → sumTo c g t k - n * wTo c g t k = fE c n g k := by
  intro k
  induction k with
  | zero => intro _; simp [sumTo, wTo, fE]
  | succ k ih =>
    intro hk
    have h0 := ih (by omega)
    have h1 := g_at hg k (by omega)
    have h2 := ht _ (getD_mem (d := 0) (show k < c.length by omega))
    have h3 : c.getD k 0 * pickB t (c.getD k 0) (g.getD k ⟨0, 0⟩) - n * pickB t (c.getD k 0) (g.getD k ⟨0, 0⟩) = grE (c.getD k 0 - n) (g.getD k ⟨0, 0⟩) := by
      rw [← Int.sub_mul]
      unfold pickB
      split
      · rw [grE_pos (by omega) h1.2]
      · rw [grE_neg (by omega) h1.2]
    rw [sumTo_succ, wTo_succ, fE_succ, Int.mul_add]
    omega

theorem least_above (n : Int) : ∀ c : List Int, (∃ t ∈ c, ∀ x ∈ c, t ≤ x ↔ n < x) ∨ ∀ x ∈ c, x ≤ n := by
  intro c
  have key : (∃ t ∈ c, n < t ∧ ∀ x ∈ c, n < x → t ≤ x) ∨ ∀ x ∈ c, x ≤ n := by
    induction c with
    | nil => exact .inr (by simp)
    | cons a c ih =>
      rcases ih with ⟨t, h1, h2, h3⟩ | h
      · by_cases ha : n < a
        · by_cases hat : a ≤ t
          · refine .inl ⟨a, List.mem_cons_self, ha, fun x hx hn => ?_⟩
            rcases List.mem_cons.1 hx with rfl | hx
            · omega
            · have := h3 x hx hn; omega
          · refine .inl ⟨t, List.mem_cons_of_mem _ h1, h2, fun x hx hn => ?_⟩
            rcases List.mem_cons.1 hx with rfl | hx
            · omega
            · exact h3 x hx hn
        · refine .inl ⟨t, List.mem_cons_of_mem _ h1, h2, fun x hx hn => ?_⟩
          rcases List.mem_cons.1 hx with rfl | hx
          · omega
          · exact h3 x hx hn
      · by_cases ha : n < a
        · refine .inl ⟨a, List.mem_cons_self, ha, fun x hx hn => ?_⟩
          rcases List.mem_cons.1 hx with rfl | hx
          · omega
          · have := h x hx; omega
        · refine .inr fun x hx => ?_
          rcases List.mem_cons.1 hx with rfl | hx
          · omega
          · exact h x hx
  rcases key with ⟨t, h1, h2, h3⟩ | h
  · exact .inl ⟨t, h1, fun x hx => ⟨fun h => by omega, h3 x hx⟩⟩
  · exact .inr h

theorem below_all {c : List Int} {g : List Sp} (hg : ∀ s ∈ g, 0 ≤ s.lo ∧ s.lo ≤ s.hi ∧ s.hi ≤ 1000000000) (hl : c.length = g.length) (n : Int) (h : ∀ x ∈ c, x ≤ n) : ∀ k, k ≤ c.length → fE c n g k ≤ 0 := by
  intro k
  induction k with
  | zero => intro _; simp [fE]
  | succ k ih =>
    intro hk
    have h0 := ih (by omega)
    have h1 := g_at hg k (by omega)
    have h2 := h _ (getD_mem (d := 0) (show k < c.length by omega))
    rw [fE_succ, grE_neg (by omega) h1.2]
    have := Int.mul_nonneg (show 0 ≤ -(c.getD k 0 - n) by omega) h1.1
    rw [Int.neg_mul] at this
    omega

/-- the greatest mean is at most n just if no glass goes beyond n. -/
theorem gm_iff {c : List Int} {g : List Sp} (h : MeanOk c g) (n : Int) : gmB c g ≤ n ↔ fE c n g c.length ≤ 0 := by
  rw [gm_le h]
  constructor
  · intro hm
    rcases least_above n c with ⟨t, ht, hx⟩ | hx
    · have h1 := (mean_le h t n).1 (hm t ht)
      have h2 := mean_meets h.hg h.len t n hx c.length (Nat.le_refl _)
      omega
    · exact below_all h.hg h.len n hx _ (Nat.le_refl _)
  · intro hf t _
    rw [mean_le h]
    have := mean_beyond (c := c) (g := g) t n c.length
    omega

end Go.Proofs.YtmmlocjiegkjeaaGreatDoor.B1

namespace Go.Proofs.YtmmlocjiegkjeaaGreatDoor.B1

open Go.RowKit Go.PlainAid

set_option linter.unusedVariables false

def sumO (o : Nat → Int) (l : List Sp) (n : Nat) : Int := ((List.range n).map fun i => grE (o i) (l.getD i ⟨0, 0⟩)).sum

theorem sumO_succ (o : Nat → Int) (l : List Sp) (n : Nat) : sumO o l (n + 1) = sumO o l n + grE (o n) (l.getD n ⟨0, 0⟩) := by
  unfold sumO
  rw [List.range_succ, List.map_append, List.map_singleton, sum_snoc]

theorem fE_sumO (c : List Int) (m : Int) (g : List Sp) (n : Nat) : fE c m g n = sumO (fun i => c.getD i 0 - m) g n := rfl

theorem neg_at (c : List Int) (i : Nat) (h : i < c.length) : (negB c).getD i 0 = -(c.getD i 0) := by
  simp [negB, List.getD, List.getElem?_eq_getElem h]

theorem sumO_congr {o p : Nat → Int} {l : List Sp} {n : Nat} (h : ∀ i, i < n → o i = p i) : sumO o l n = sumO p l n := by
  unfold sumO
  congr 1
  apply List.map_congr_left
  intro i hi
  rw [h i (List.mem_range.1 hi)]

end Go.Proofs.YtmmlocjiegkjeaaGreatDoor.B1

namespace Go.Proofs.YtmmlocjiegkjeaaGreatDoor.B1

open Go.RowKit Go.PlainAid

set_option linter.unusedVariables false

set_option maxRecDepth 100000 in
theorem rsums_any (v : Value) (l : List Sp) (w : World) (h : RSps w v l) :
    Calls Tryz.prog 71 #[v] w fun e w' => e = .returned (.tuple #[.int .i64 (tot l).lo, .int .i64 (tot l).hi]) ∧ w = w' := by
  obtain ⟨a, cap, rfl, -, ⟨-, hm⟩, hl⟩ := h
  go_enter Tryz.func71, Tryz.ntmps71
  go_wp2
  go_loop [4, 5, 6] (fun x y i => ∃ (k : Nat) (p q : Int), k ≤ l.length ∧ i = .int .i64 k ∧ x = .int .i64 p ∧ y = .int .i64 q ∧ Hid (p = wrap64 ((l.take k).map Sp.lo).sum ∧ q = wrap64 ((l.take k).map Sp.hi).sum)) (fun _ _ i => l.length - (intOf i).toNat)
  case atStart => exact ⟨0, 0, 0, Nat.zero_le _, rfl, rfl, rfl, by simp [wrap64, Hid]⟩
  case round =>
    obtain ⟨k, p, q, hk, rfl, rfl, rfl, hx⟩ := hrel
    by_cases hlt : k < l.length
    · obtain ⟨b, off, rfl, h1, h2, -, -⟩ := hl k hlt
      simp only at h1 h2
      have hst1 := Lib.hid (sum_step Sp.lo l k hlt p hx.out.1)
      have hst2 := Lib.hid (sum_step Sp.hi l k hlt q hx.out.2)
      clear hl hx
      generalize l[k] = s at *
      go_wp2
      go_round
      case rel => exact ⟨k + 1, _, _, by omega, by go_num, rfl, rfl, hst1.out, hst2.out⟩
      case measure => simp [intOf]; omega
    · have hf : p = (tot l).lo ∧ q = (tot l).hi := by
        have := hx.out
        rw [List.take_of_length_le (by omega)] at this
        exact this
      obtain ⟨rfl, rfl⟩ := hf
      clear hx hl
      go_wp2
      go_ret2
      exact ⟨rfl, rfl⟩

/-- what a form goes beyond n, of spans. -/
def abE (c : List Int) (l : List Sp) (n : Int) (k : Nat) : Int := sumO (fun i => c.getD i 0 - n) l k

def beE (c : List Int) (l : List Sp) (n : Int) (k : Nat) : Int := sumO (fun i => n - c.getD i 0) l k

structure AbOk (c : List Int) (l : List Sp) (n : Int) : Prop where
  len : l.length ≤ c.length
  le : l.length ≤ 12
  hc : ∀ x ∈ c, -10000 ≤ x ∧ x ≤ 10000
  hn : -10000 ≤ n ∧ n ≤ 10000
  hl : ∀ s ∈ l, 0 ≤ s.lo ∧ s.lo ≤ s.hi ∧ s.hi ≤ 2000000000

theorem sumO_bd {o : Nat → Int} {l : List Sp} (ho : ∀ i, i < l.length → -20000 ≤ o i ∧ o i ≤ 20000) (hl : ∀ s ∈ l, 0 ≤ s.lo ∧ s.lo ≤ s.hi ∧ s.hi ≤ 2000000000) : ∀ k, k ≤ l.length → -(40000000000000 * (k : Int)) ≤ sumO o l k ∧ sumO o l k ≤ 40000000000000 * k := by
  intro k
  induction k with
  | zero => intro _; simp [sumO]
  | succ k ih =>
    intro hk
    have h1 := ih (by omega)
    have h2 := hl _ (getD_mem (d := ⟨0, 0⟩) (show k < l.length by omega))
    have h3 := gr_exact (n := o k) (s := l.getD k ⟨0, 0⟩) (ho k (by omega)) h2.1 h2.2.1 h2.2.2
    rw [sumO_succ]
    omega

theorem AbOk.at {c : List Int} {l : List Sp} {n : Int} (h : AbOk c l n) {i : Nat} (hi : i < l.length) : -20000 ≤ c.getD i 0 - n ∧ c.getD i 0 - n ≤ 20000 ∧ -10000 ≤ c.getD i 0 ∧ c.getD i 0 ≤ 10000 := by
  have h1 := h.hc _ (getD_mem (d := 0) (show i < c.length by have := h.len; omega))
  have h2 := h.hn
  omega

set_option maxRecDepth 100000 in
theorem above_any (vc vl : Value) (c : List Int) (l : List Sp) (n : Int) (w : World) (hc : RInts w vc c) (hl : RSps w vl l) (hk : AbOk c l n) :
    Calls Tryz.prog 73 #[vc, vl, .int .i64 n] w fun e w' => e = .returned (.int .i64 (abE c l n l.length)) ∧ Below w.heap.size w w' := by
  obtain ⟨ac, kc, rfl, -, ⟨-, mc⟩, hcl⟩ := hc
  obtain ⟨al, kl, rfl, -, ⟨-, ml⟩, hll⟩ := hl
  have hle := hk.len
  obtain ⟨hn1, hn2⟩ := hk.hn
  have hbd := Lib.hid (sumO_bd (o := fun i => c.getD i 0 - n) (l := l) (fun i hi => ⟨(hk.at hi).1, (hk.at hi).2.1⟩) hk.hl)
  go_enter Tryz.func73, Tryz.ntmps73
  go_wp2
  go_loopw [7, 8, 9] (fun x i _ wr => ∃ (k : Nat) (p : Int), k ≤ l.length ∧ i = .int .i64 k ∧ x = .int .i64 p ∧ Hid (p = abE c l n k) ∧ Below w.heap.size w wr) (fun _ i _ _ => l.length - (intOf i).toNat)
  case atStart => exact ⟨0, 0, Nat.zero_le _, rfl, rfl, rfl, Below.refl _ _⟩
  case round =>
    obtain ⟨k, p, hk', rfl, rfl, hx, hb⟩ := hrel
    by_cases hlt : k < l.length
    · obtain ⟨b1, o1, rfl, q1, -⟩ := hcl k (by omega)
      obtain ⟨b2, o2, rfl, r1, r2, -, -⟩ := hll k hlt
      have hat := hk.at hlt
      have hsp := hk.hl _ (List.getElem_mem hlt)
      have hbk := hbd.out k (by omega)
      have hbk1 := hbd.out (k + 1) (by omega)
      have hst := sumO_succ (fun i => c.getD i 0 - n) l k
      rw [show c.getD k 0 = c[k]'(by omega) from by simp [List.getD, List.getElem?_eq_getElem (show k < c.length by omega)]] at hat hst
      rw [show l.getD k ⟨0, 0⟩ = l[k]'hlt from by simp [List.getD, List.getElem?_eq_getElem hlt]] at hst
      have hcl1 := cell_lt q1
      have hcl2 := cell_lt r1
      simp only [Nat.mul_one] at q1 hcl1
      simp only at r1 r2 hcl2
      replace q1 := ext_of_below hb _ _ q1
      replace r1 := ext_of_below hb _ _ r1
      replace r2 := ext_of_below hb _ _ r2
      have HX := hx
      clear hcl hll hx
      generalize c[k]'(by omega) = ck at *
      generalize l[k]'hlt = s at *
      have hg := gr_exact (n := ck - n) (s := s) ⟨hat.1, hat.2.1⟩ hsp.1 hsp.2.1 hsp.2.2
      have m1 := mul_le_of (m := 20000) (a := ck - n) (b := s.lo) ⟨hat.1, hat.2.1⟩ hsp.1
      have m2 := mul_le_of (m := 20000) (a := ck - n) (b := s.hi) ⟨hat.1, hat.2.1⟩ (by omega)
      have hpk : p = abE c l n k := HX.out
      have hbp : -1000000000000000 ≤ p ∧ p ≤ 1000000000000000 := by rw [hpk]; unfold abE; have := hk.le; omega
      have hgE : grE (ck - n) s = max ((ck - n) * s.lo) ((ck - n) * s.hi) := rfl
      have HS : Hid (abE c l n (k + 1) = p + max ((ck - n) * s.lo) ((ck - n) * s.hi)) := by unfold Hid; rw [hpk]; exact hst
      have hle2 := hk.le
      clear hst hgE hpk hg hbk hbk1 hbd HX hk
      have m3 : -40000000000000 ≤ (ck - n) * s.lo ∧ (ck - n) * s.lo ≤ 40000000000000 := by omega
      have m4 : -40000000000000 ≤ (ck - n) * s.hi ∧ (ck - n) * s.hi ≤ 40000000000000 := by omega
      clear m1 m2
      go_wp2_with fail
      generalize ck - n = y at *
      generalize hm1 : y * s.lo = m1 at *
      generalize hm2 : y * s.hi = m2 at *
      have e1 : IntKind.i64.wrap (y * s.lo) = m1 := by rw [hm1]; exact IntWalk.i64_in _ (by omega)
      have e2 : IntKind.i64.wrap (y * s.hi) = m2 := by rw [hm2]; exact IntWalk.i64_in _ (by omega)
      clear hm1 hm2 hat hsp
      have j1 : (0 : Int) ≤ (k : Int) := Int.natCast_nonneg _
      have j2 : (k : Int) < (l.length : Int) := by omega
      have hB := hb.drew
      by_cases hmx : m1 < m2
      all_goals
        have e3 : IntKind.i64.wrap (p + m2) = p + m2 := IntWalk.i64_in _ (by omega)
        have e4 : IntKind.i64.wrap (p + m1) = p + m1 := IntWalk.i64_in _ (by omega)
        have HS2 : Hid (abE c l n (k + 1) = p + if m1 < m2 then m2 else m1) := by unfold Hid; rw [HS.out]; split <;> omega
        clear HS hb
        refine wp_region_still_tail 17 (by kernel_rfl) (by kernel_rfl) ?_
        simp only [List.take_succ_cons, List.take_zero, List.drop_succ_cons, List.drop_zero]
        repeat still_step
        refine wpStill_nil ?_
        change wpList _ _ _ _ _ wr.drew
        clear e1 e2 j1 j2
        go_wp2
        go_roundw
        case rel => exact ⟨k + 1, _, by omega, by go_num, rfl, by have := HS2.out; simp only [hmx, if_true, if_false] at this; exact this.symm, hB⟩
        case measure => simp [intOf]; omega
    · have HF : Hid (p = abE c l n l.length) := by unfold Hid; rw [hx.out, show k = l.length from by omega]
      clear hx hcl hll
      go_wp2
      go_ret
      exact ⟨ret_int HF.out, hb⟩

set_option maxRecDepth 100000 in
theorem below_any (vc vl : Value) (c : List Int) (l : List Sp) (n : Int) (w : World) (hc : RInts w vc c) (hl : RSps w vl l) (hk : AbOk c l n) :
    Calls Tryz.prog 72 #[vc, vl, .int .i64 n] w fun e w' => e = .returned (.int .i64 (beE c l n l.length)) ∧ Below w.heap.size w w' := by
  obtain ⟨ac, kc, rfl, -, ⟨-, mc⟩, hcl⟩ := hc
  obtain ⟨al, kl, rfl, -, ⟨-, ml⟩, hll⟩ := hl
  have hle := hk.len
  obtain ⟨hn1, hn2⟩ := hk.hn
  have hbd := Lib.hid (sumO_bd (o := fun i => n - c.getD i 0) (l := l) (fun i hi => by have := hk.at hi; omega) hk.hl)
  go_enter Tryz.func72, Tryz.ntmps72
  go_wp2
  go_loopw [7, 8, 9] (fun x i _ wr => ∃ (k : Nat) (p : Int), k ≤ l.length ∧ i = .int .i64 k ∧ x = .int .i64 p ∧ Hid (p = beE c l n k) ∧ Below w.heap.size w wr) (fun _ i _ _ => l.length - (intOf i).toNat)
  case atStart => exact ⟨0, 0, Nat.zero_le _, rfl, rfl, rfl, Below.refl _ _⟩
  case round =>
    obtain ⟨k, p, hk', rfl, rfl, hx, hb⟩ := hrel
    by_cases hlt : k < l.length
    · obtain ⟨b1, o1, rfl, q1, -⟩ := hcl k (by omega)
      obtain ⟨b2, o2, rfl, r1, r2, -, -⟩ := hll k hlt
      have hat := hk.at hlt
      have hsp := hk.hl _ (List.getElem_mem hlt)
      have hbk := hbd.out k (by omega)
      have hbk1 := hbd.out (k + 1) (by omega)
      have hst := sumO_succ (fun i => n - c.getD i 0) l k
      rw [show c.getD k 0 = c[k]'(by omega) from by simp [List.getD, List.getElem?_eq_getElem (show k < c.length by omega)]] at hat hst
      rw [show l.getD k ⟨0, 0⟩ = l[k]'hlt from by simp [List.getD, List.getElem?_eq_getElem hlt]] at hst
      have hcl1 := cell_lt q1
      have hcl2 := cell_lt r1
      simp only [Nat.mul_one] at q1 hcl1
      simp only at r1 r2 hcl2
      replace q1 := ext_of_below hb _ _ q1
      replace r1 := ext_of_below hb _ _ r1
      replace r2 := ext_of_below hb _ _ r2
      have HX := hx
      clear hcl hll hx
      generalize c[k]'(by omega) = ck at *
      generalize l[k]'hlt = s at *
      have hg := gr_exact (n := n - ck) (s := s) (by omega) hsp.1 hsp.2.1 hsp.2.2
      have m1 := mul_le_of (m := 20000) (a := n - ck) (b := s.lo) (by omega) hsp.1
      have m2 := mul_le_of (m := 20000) (a := n - ck) (b := s.hi) (by omega) (by omega)
      have hpk : p = beE c l n k := HX.out
      have hbp : -1000000000000000 ≤ p ∧ p ≤ 1000000000000000 := by rw [hpk]; unfold beE; have := hk.le; omega
      have hgE : grE (n - ck) s = max ((n - ck) * s.lo) ((n - ck) * s.hi) := rfl
      have HS : Hid (beE c l n (k + 1) = p + max ((n - ck) * s.lo) ((n - ck) * s.hi)) := by unfold Hid; rw [hpk]; exact hst
      have hle2 := hk.le
      clear hst hgE hpk hg hbk hbk1 hbd HX hk
      have m3 : -40000000000000 ≤ (n - ck) * s.lo ∧ (n - ck) * s.lo ≤ 40000000000000 := by omega
      have m4 : -40000000000000 ≤ (n - ck) * s.hi ∧ (n - ck) * s.hi ≤ 40000000000000 := by omega
      clear m1 m2
      go_wp2_with fail
      generalize n - ck = y at *
      generalize hm1 : y * s.lo = m1 at *
      generalize hm2 : y * s.hi = m2 at *
      have e1 : IntKind.i64.wrap (y * s.lo) = m1 := by rw [hm1]; exact IntWalk.i64_in _ (by omega)
      have e2 : IntKind.i64.wrap (y * s.hi) = m2 := by rw [hm2]; exact IntWalk.i64_in _ (by omega)
      clear hm1 hm2 hat hsp
      have j1 : (0 : Int) ≤ (k : Int) := Int.natCast_nonneg _
      have j2 : (k : Int) < (l.length : Int) := by omega
      have hB := hb.drew
      by_cases hmx : m1 < m2
      all_goals
        have e3 : IntKind.i64.wrap (p + m2) = p + m2 := IntWalk.i64_in _ (by omega)
        have e4 : IntKind.i64.wrap (p + m1) = p + m1 := IntWalk.i64_in _ (by omega)
        have HS2 : Hid (beE c l n (k + 1) = p + if m1 < m2 then m2 else m1) := by unfold Hid; rw [HS.out]; split <;> omega
        clear HS hb
        refine wp_region_still_tail 17 (by kernel_rfl) (by kernel_rfl) ?_
        simp only [List.take_succ_cons, List.take_zero, List.drop_succ_cons, List.drop_zero]
        repeat still_step
        refine wpStill_nil ?_
        change wpList _ _ _ _ _ wr.drew
        clear e1 e2 j1 j2
        go_wp2
        go_roundw
        case rel => exact ⟨k + 1, _, by omega, by go_num, rfl, by have := HS2.out; simp only [hmx, if_true, if_false] at this; exact this.symm, hB⟩
        case measure => simp [intOf]; omega
    · have HF : Hid (p = beE c l n l.length) := by unfold Hid; rw [hx.out, show k = l.length from by omega]
      clear hx hcl hll
      go_wp2
      go_ret
      exact ⟨ret_int HF.out, hb⟩

end Go.Proofs.YtmmlocjiegkjeaaGreatDoor.B1

namespace Go.Proofs.YtmmlocjiegkjeaaGreatDoor.B1

open Go.RowKit Go.PlainAid

set_option linter.unusedVariables false

theorem any_rec_end {l : List Int} {n : Int} (h : (l.length : Int) = n) : allBetweenB l n 0 10000 = !(l.any fun s => !betweenB s 0 10000) := by
  unfold allBetweenB
  rw [h]
  simp

set_option maxRecDepth 100000 in
theorem rrecipe_any (v rv : Value) (b : Bat) (r : List Int) (w : World) (h : RBat w v b) (hr : RInts w rv r) :
    Calls Tryz.prog 69 #[v, rv] w (RetN w (recB b r)) := by
  obtain ⟨a0, k0, a1, k1, a2, k2, a3, k3, rfl⟩ := h.agg
  obtain ⟨ar, kr, rfl, -, ⟨-, lr⟩, hrl⟩ := hr
  obtain ⟨w0, w1', w2', w3', e, -, q1, -⟩ := id h
  simp only [Value.agg.injEq, Array.mk.injEq, List.cons.injEq, and_true] at e
  obtain ⟨-, rfl, -⟩ := e
  obtain ⟨-, -, -, -, ⟨-, l1⟩, -⟩ := q1
  have hA := below_box w (.cells #[.slice a0 b.oxides.length k0, .slice a1 b.mats.length k1, .slice a2 b.shares.length k2, .slice a3 b.props.length k3, .int .i64 b.redox.lo, .int .i64 b.redox.hi, .int .i64 b.wanted] 32)
  have hB := Blk.new w #[.slice a0 b.oxides.length k0, .slice a1 b.mats.length k1, .slice a2 b.shares.length k2, .slice a3 b.props.length k3, .int .i64 b.redox.lo, .int .i64 b.redox.hi, .int .i64 b.wanted] 32
  have c1 : (w.alloc (.cells #[.slice a0 b.oxides.length k0, .slice a1 b.mats.length k1, .slice a2 b.shares.length k2, .slice a3 b.props.length k3, .int .i64 b.redox.lo, .int .i64 b.redox.hi, .int .i64 b.wanted] 32)).cell? ⟨w.heap.size, 1, none⟩ = some (.slice a1 b.mats.length k1) := hB.cell 1 _ rfl
  by_cases hl : r.length = b.mats.length
  case neg =>
    have HX := Lib.hid (show recB b r = 1 by unfold recB allBetweenB; rw [if_neg (by simp; omega)])
    have hq : ((r.length : Int) != (b.mats.length : Int)) = true := by rw [bne_iff_ne]; omega
    clear hl hrl h hB c1
    go_enter Tryz.func69, Tryz.ntmps69
    go_wp2
    go_ret
    exact ⟨ret_int HX.out.symm, hA⟩
  have hq : ((r.length : Int) != (b.mats.length : Int)) = false := by rw [bne_eq_false_iff_eq]; omega
  have HW := Lib.hid (any_rec_end (l := r) (n := (b.mats.length : Int)) (by omega))
  clear hl h
  go_enter Tryz.func69, Tryz.ntmps69
  go_wp2
  generalize w.alloc (.cells #[.slice a0 b.oxides.length k0, .slice a1 b.mats.length k1, .slice a2 b.shares.length k2, .slice a3 b.props.length k3, .int .i64 b.redox.lo, .int .i64 b.redox.hi, .int .i64 b.wanted] 32) = W at *
  clear hq c1 hB
  go_loop [5] (fun i => ∃ (k : Nat), k ≤ r.length ∧ i = .int .i64 k ∧ Hid ((r.take k).any (fun s => !betweenB s 0 10000) = false)) (fun i => r.length - (intOf i).toNat)
  case atStart => exact ⟨0, Nat.zero_le _, rfl, by simp [Hid]⟩
  case round =>
    obtain ⟨k, hk, rfl, hall⟩ := hrel
    by_cases hlt : k < r.length
    · obtain ⟨b1, o1, rfl, q1, -⟩ := hrl k hlt
      have hst := Lib.hid (any_take r (fun s => !betweenB s 0 10000) k hlt hall.out)
      have hno := Lib.hid (any_of r (fun s => !betweenB s 0 10000) k hlt)
      have hbl := cell_lt q1
      simp only [Nat.mul_one] at q1 hbl
      replace q1 := ext_of_below hA _ _ q1
      clear hrl hall
      generalize r[k] = s at *
      by_cases hw : 0 ≤ s ∧ s ≤ 10000
      · have hst2 : Hid ((r.take (k + 1)).any (fun s => !betweenB s 0 10000) = false) := by
          unfold Hid; rw [hst.out]; simp [betweenB, hw.1, hw.2]
        obtain ⟨hw1, hw2⟩ := hw
        go_wp2
        go_round
        case rel => exact ⟨k + 1, by omega, by go_num, hst2⟩
        case measure => simp [intOf]; omega
      · have HX := Lib.hid (show recB b r = 1 by
          unfold recB
          rw [if_neg (by rw [HW.out, hno.out (by simp [betweenB]; omega)]; decide)])
        have HB := Lib.hid hw
        clear hw
        go_wp2
        all_goals first
          | (go_ret; exact ⟨ret_int HX.out.symm, hA⟩)
          | (exfalso; have := HB.out; omega)
    · have HX := Lib.hid (show recB b r = 0 by
        have := hall.out
        rw [List.take_of_length_le (by omega)] at this
        unfold recB
        rw [if_pos (by rw [HW.out, this]; rfl)])
      clear hall hrl
      go_wp2
      go_ret
      exact ⟨ret_int HX.out.symm, hA⟩

set_option maxRecDepth 100000 in
theorem rasked_any (v rv : Value) (b : Bat) (r : List Int) (w : World) (h : RBat w v b) (hr : RInts w rv r) :
    Calls Tryz.prog 49 #[v, rv] w (RetN w (bothB b r)) := by
  obtain ⟨a0, k0, a1, k1, a2, k2, a3, k3, rfl⟩ := h.agg
  have hA := below_box w (.cells #[.slice a0 b.oxides.length k0, .slice a1 b.mats.length k1, .slice a2 b.shares.length k2, .slice a3 b.props.length k3, .int .i64 b.redox.lo, .int .i64 b.redox.hi, .int .i64 b.wanted] 32)
  have hB := Blk.new w #[.slice a0 b.oxides.length k0, .slice a1 b.mats.length k1, .slice a2 b.shares.length k2, .slice a3 b.props.length k3, .int .i64 b.redox.lo, .int .i64 b.redox.hi, .int .i64 b.wanted] 32
  go_enter Tryz.func49, Tryz.ntmps49
  go_wp2_with fail
  refine (rcheck_any _ b _ (h.mono (ext_of_below hA))).mono ?_
  rintro e w1 ⟨rfl, hb⟩
  have hA1 := hA.trans (hb.mono (by simp))
  have hB1 := hB.below hb (by simp)
  clear hb hA hB
  by_cases e1 : checkB b = 0
  case neg =>
    have e1' : (checkB b != 0) = true := by simp [e1]
    have hfin := Lib.hid (show bothB b r = checkB b by simp [bothB, e1])
    clear hB1 e1
    go_wp2
    go_ret
    exact ⟨ret_int hfin.out.symm, hA1⟩
  have e1' : (checkB b != 0) = false := by simp [e1]
  have hfin := Lib.hid (show bothB b r = recB b r by simp [bothB, e1])
  clear e1
  have c0 : w1.cell? ⟨w.heap.size, 0, none⟩ = some (.slice a0 b.oxides.length k0) := hB1.cell 0 _ rfl
  have c1 : w1.cell? ⟨w.heap.size, 1, none⟩ = some (.slice a1 b.mats.length k1) := hB1.cell 1 _ rfl
  have c2 : w1.cell? ⟨w.heap.size, 2, none⟩ = some (.slice a2 b.shares.length k2) := hB1.cell 2 _ rfl
  have c3 : w1.cell? ⟨w.heap.size, 3, none⟩ = some (.slice a3 b.props.length k3) := hB1.cell 3 _ rfl
  have c4 : w1.cell? ⟨w.heap.size, 4, none⟩ = some (.int .i64 b.redox.lo) := hB1.cell 4 _ rfl
  have c5 : w1.cell? ⟨w.heap.size, 5, none⟩ = some (.int .i64 b.redox.hi) := hB1.cell 5 _ rfl
  have c6 : w1.cell? ⟨w.heap.size, 6, none⟩ = some (.int .i64 b.wanted) := hB1.cell 6 _ rfl
  go_wp2_with fail
  refine (rrecipe_any _ rv b r _ (h.mono (ext_of_below hA1)) (hr.mono (ext_of_below hA1))).mono ?_
  rintro e w2 ⟨rfl, hb⟩
  have hA2 := hA1.trans (hb.mono hA1.size)
  clear hb c0 c1 c2 c3 c4 c5 c6 hB1 hA1
  go_wp2
  go_ret
  exact ⟨ret_int hfin.out.symm, hA2⟩

end Go.Proofs.YtmmlocjiegkjeaaGreatDoor.B1

namespace Go.Proofs.YtmmlocjiegkjeaaGreatDoor.B1

open Go.RowKit Go.PlainAid

set_option linter.unusedVariables false

def wE (b : Bat) (r : List Int) : List Sp × Int := if (tot (gramsB b r)).lo = 0 then ([], 8) else (gramsB b r, 0)

set_option maxRecDepth 100000 in
theorem weighed_any (v rv : Value) (b : Bat) (r : List Int) (w : World) (h : RBat w v b) (hr : RInts w rv r) (hk : OkB b) (hl : r.length = b.mats.length) :
    Calls Tryz.prog 50 #[v, rv] w (RetSpsE w (wE b r)) := by
  obtain ⟨a0, k0, a1, k1, a2, k2, a3, k3, rfl⟩ := h.agg
  obtain ⟨ar, kr, rfl, -, -, -⟩ := id hr
  have hA := below_box w (.cells #[.slice a0 b.oxides.length k0, .slice a1 b.mats.length k1, .slice a2 b.shares.length k2, .slice a3 b.props.length k3, .int .i64 b.redox.lo, .int .i64 b.redox.hi, .int .i64 b.wanted] 32)
  have hB := Blk.new w #[.slice a0 b.oxides.length k0, .slice a1 b.mats.length k1, .slice a2 b.shares.length k2, .slice a3 b.props.length k3, .int .i64 b.redox.lo, .int .i64 b.redox.hi, .int .i64 b.wanted] 32
  have hgr := fun w' (e : Ext w w') => brings_any _ _ b r w' (h.mono e) (hr.mono e) hk hl
  clear hl
  go_enter Tryz.func50, Tryz.ntmps50
  go_wp2_with fail
  generalize w.alloc (.cells #[.slice a0 b.oxides.length k0, .slice a1 b.mats.length k1, .slice a2 b.shares.length k2, .slice a3 b.props.length k3, .int .i64 b.redox.lo, .int .i64 b.redox.hi, .int .i64 b.wanted] 32) = W at *
  refine (hgr _ (ext_of_below hA)).mono ?_
  rintro e w1 ⟨vg, rfl, hvg, hb⟩
  have hA1 := hA.trans (hb.mono hA.size)
  have hv1 := hvg.mono (vis_ext _ _)
  have hs : RSps (vis (w.heap.size ≤ ·) w1) vg (gramsB b r) := hvg.mono (ext_vis_of (fun _ _ h => h) fun g _ hg => Nat.le_trans hA.size hg)
  clear hgr hvg hB hA hb
  go_wp2_with fail
  refine (rsums_any vg _ w1 hv1).mono ?_
  rintro e w2 ⟨rfl, rfl⟩
  by_cases hz : (tot (gramsB b r)).lo = 0
  · have hfin := Lib.hid (show wE b r = ([], 8) by simp [wE, hz])
    have hz' : ((tot (gramsB b r)).lo == 0) = true := by simp [hz]
    clear hz
    go_wp2
    go_ret2
    unfold RetSpsE
    rw [hfin.out]
    exact ⟨_, rfl, RSps_nil _, hA1⟩
  · have hfin := Lib.hid (show wE b r = (gramsB b r, 0) by simp [wE, hz])
    have hz' : ((tot (gramsB b r)).lo == 0) = false := by simp [hz]
    clear hz
    go_wp2
    go_ret2
    unfold RetSpsE
    rw [hfin.out]
    exact ⟨_, rfl, hs, hA1⟩

theorem abE_iff {c : List Int} {g : List Sp} (h : MeanOk c g) (n : Int) : abE c g n g.length ≤ 0 ↔ (valueB c g).hi ≤ n := by
  show _ ↔ gmB c g ≤ n
  rw [gm_iff h, fE_sumO, h.len]
  exact Iff.rfl

theorem beE_iff {c : List Int} {g : List Sp} (h : MeanOk c g) (n : Int) : beE c g n g.length ≤ 0 ↔ n ≤ (valueB c g).lo := by
  show _ ↔ n ≤ -(gmB (negB c) g)
  have h1 := gm_iff (neg_ok h) (-n)
  rw [fE_sumO] at h1
  have hl : (negB c).length = c.length := by simp [negB]
  rw [hl, sumO_congr (p := fun i => n - c.getD i 0) (fun i hi => by rw [neg_at c i hi]; omega), h.len] at h1
  show sumO _ _ _ ≤ 0 ↔ _
  rw [← h1]
  omega

theorem fE_least {c : List Int} {g : List Sp} (h : MeanOk c g) : ∀ k, k ≤ c.length → ((g.take k).map Sp.lo).sum ≤ fE c (-10001) g k := by
  intro k
  induction k with
  | zero => intro _; simp [fE]
  | succ k ih =>
    intro hk
    have h1 := ih (by omega)
    have hkg : k < g.length := by have := h.len; omega
    have h2 := g_at h.hg k hkg
    have h3 := h.hc _ (getD_mem (d := 0) (show k < c.length by omega))
    rw [fE_succ, List.take_succ_eq_append_getElem hkg, List.map_append, List.map_singleton, sum_snoc, grE_pos (by omega) h2.2]
    have e : g[k] = g.getD k ⟨0, 0⟩ := by simp [List.getD, List.getElem?_eq_getElem hkg]
    rw [e]
    have h4 : (g.getD k ⟨0, 0⟩).hi ≤ (c.getD k 0 - -10001) * (g.getD k ⟨0, 0⟩).hi := by
      have := Int.mul_le_mul_of_nonneg_right (show (1 : Int) ≤ c.getD k 0 - -10001 by omega) (show 0 ≤ (g.getD k ⟨0, 0⟩).hi by omega)
      omega
    omega

theorem gm_in {c : List Int} {g : List Sp} (h : MeanOk c g) : -10000 ≤ gmB c g ∧ gmB c g ≤ 10000 := by
  constructor
  · have h1 := gm_iff h (-10001)
    have h2 := fE_least h c.length (Nat.le_refl _)
    rw [h.len, List.take_of_length_le (Nat.le_refl _), ← h.len] at h2
    have h3 := h.pos
    omega
  · exact (gm_iff h 10000).2 (below_all h.hg h.len 10000 (fun x hx => (h.hc x hx).2) _ (Nat.le_refl _))

theorem value_in {c : List Int} {g : List Sp} (h : MeanOk c g) : -10000 ≤ (valueB c g).lo ∧ (valueB c g).lo ≤ 10000 ∧ -10000 ≤ (valueB c g).hi ∧ (valueB c g).hi ≤ 10000 := by
  have h1 := gm_in h
  have h2 := gm_in (neg_ok h)
  simp only [valueB]
  omega

theorem abOk_of {c : List Int} {g : List Sp} (h : MeanOk c g) {n : Int} (hn : -10000 ≤ n ∧ n ≤ 10000) : AbOk c g n :=
  ⟨by rw [h.len]; exact Nat.le_refl _, by rw [← h.len]; exact h.n.2, h.hc, hn, fun s hs => by have := h.hg s hs; omega⟩

theorem ret_sp {s : Sp} {a b : Int} (h : s = ⟨a, b⟩) : Ending.returned (.agg #[.int .i64 a, .int .i64 b]) = .returned (.agg #[.int .i64 s.lo, .int .i64 s.hi]) := by rw [h]

set_option maxRecDepth 100000 in
theorem bounds_any (vc vg : Value) (c : List Int) (g : List Sp) (w : World) (hc : RInts w vc c) (hg : RSps w vg g) (hk : MeanOk c g) :
    Calls Tryz.prog 51 #[vc, vg] w (RetSp w (valueB c g)) := by
  obtain ⟨ac, kc, rfl, -, -, -⟩ := id hc
  obtain ⟨ag, kg, rfl, -, -, -⟩ := id hg
  have hA := below_two w (.cells #[.int .i64 0, .int .i64 0] 30) (.cells #[.int .i64 (-10000), .int .i64 10000] 30)
  have hB0 := (Blk.new w #[.int .i64 0, .int .i64 0] 30).alloc (.cells #[.int .i64 (-10000), .int .i64 10000] 30)
  have hC : Blk ((w.alloc (.cells #[.int .i64 0, .int .i64 0] 30)).alloc (.cells #[.int .i64 (-10000), .int .i64 10000] 30)) (w.heap.size + 1) #[.int .i64 (-10000), .int .i64 10000] 30 := by
    have := Blk.new (w.alloc (.cells #[.int .i64 0, .int .i64 0] 30)) #[.int .i64 (-10000), .int .i64 10000] 30
    simpa using this
  have hin := value_in hk
  go_enter Tryz.func51, Tryz.ntmps51
  go_wp2
  generalize (w.alloc (.cells #[.int .i64 0, .int .i64 0] 30)).alloc (.cells #[.int .i64 (-10000), .int .i64 10000] 30) = W at *
  go_loopw [9] (fun _ wr => ∃ n : Int, -10000 ≤ n ∧ n ≤ (valueB c g).lo ∧ Blk wr (w.heap.size + 1) #[.int .i64 n, .int .i64 10000] 30 ∧ Blk wr w.heap.size #[.int .i64 0, .int .i64 0] 30 ∧ Below w.heap.size w wr) (fun _ wr => (10000 - intOf ((wr.cell? ⟨w.heap.size + 1, 0, none⟩).getD (.int .i64 0))).toNat)
  case atStart => exact ⟨-10000, Int.le_refl _, hin.1, hC, hB0, hA⟩
  case round =>
    obtain ⟨n, hn1, hn2, hC, hB0, hb⟩ := hrel
    have z0 : wr.cell? ⟨w.heap.size + 1, 0, none⟩ = some (.int .i64 n) := hC.cell 0 _ rfl
    have z1 : wr.cell? ⟨w.heap.size + 1, 1, none⟩ = some (.int .i64 10000) := hC.cell 1 _ rfl
    by_cases hlt : n < (valueB c g).lo
    · have j1 : n < 10000 := by omega
      have hbe := below_any _ _ c g (n + 1) wr (hc.mono (ext_of_below hb)) (hg.mono (ext_of_below hb)) (abOk_of hk (by omega))
      have hle : beE c g (n + 1) g.length ≤ 0 := (beE_iff hk _).2 (by omega)
      generalize beE c g (n + 1) g.length = x at *
      have ZO := Lib.hid z0
      go_wp2_with fail
      refine hbe.mono ?_
      rintro e w1 ⟨rfl, hb1⟩
      replace hC := hC.below hb1 hC.lt
      replace hB0 := hB0.below hb1 hB0.lt
      replace hb := hb.trans (hb1.mono hb.size)
      clear hbe hb1 z0 z1
      have z0 : w1.cell? ⟨w.heap.size + 1, 0, none⟩ = some (.int .i64 n) := hC.cell 0 _ rfl
      have y0 := hC.frozen 0
      have hCn := hC.set 0 (.int .i64 (n + 1))
      have hBn := hB0.other ⟨w.heap.size + 1, 0, none⟩ (.int .i64 (n + 1)) (by simp)
      have hbn := hb.setCell (p := ⟨w.heap.size + 1, 0, none⟩) (by simp) (.int .i64 (n + 1))
      have zn := hCn.cell 0 (.int .i64 (n + 1)) rfl
      go_wp2
      go_roundw
      case rel => exact ⟨n + 1, by omega, by omega, hCn, hBn, hbn⟩
      case measure => rw [zn, ZO.out]; simp [intOf]; omega
    · have hn : (valueB c g).lo = n := by omega
      by_cases j1 : n < 10000
      · have hle : ¬ beE c g (n + 1) g.length ≤ 0 := fun h => by have := (beE_iff hk _).1 h; omega
        have hbe := below_any _ _ c g (n + 1) wr (hc.mono (ext_of_below hb)) (hg.mono (ext_of_below hb)) (abOk_of hk (by omega))
        generalize beE c g (n + 1) g.length = x at *
        clear hlt hn1 hn2
        go_wp2_with fail
        refine hbe.mono ?_
        rintro e w1 ⟨rfl, hb1⟩
        replace hC := hC.below hb1 hC.lt
        replace hB0 := hB0.below hb1 hB0.lt
        replace hb := hb.trans (hb1.mono hb.size)
        clear hbe hb1 z0 z1
        go_wp2
        clear hle j1
        go_loopw [25] (fun _ wr => ∃ m : Int, (valueB c g).hi ≤ m ∧ m ≤ 10000 ∧ Blk wr (w.heap.size + 1) #[.int .i64 n, .int .i64 m] 30 ∧ Blk wr w.heap.size #[.int .i64 0, .int .i64 0] 30 ∧ Below w.heap.size w wr) (fun _ wr => (intOf ((wr.cell? ⟨w.heap.size + 1, 1, none⟩).getD (.int .i64 0)) + 10000).toNat)
        case atStart => exact ⟨10000, hin.2.2.2, Int.le_refl _, hC, hB0, hb⟩
        case round =>
          clear hC hB0 hb
          obtain ⟨m, hm1, hm2, hC, hB0, hb⟩ := hrel
          have z0 : wr.cell? ⟨w.heap.size + 1, 0, none⟩ = some (.int .i64 n) := hC.cell 0 _ rfl
          have z1 : wr.cell? ⟨w.heap.size + 1, 1, none⟩ = some (.int .i64 m) := hC.cell 1 _ rfl
          by_cases hlt : (valueB c g).hi < m
          · have j1 : -10000 < m := by omega
            have hbe := above_any _ _ c g (m - 1) wr (hc.mono (ext_of_below hb)) (hg.mono (ext_of_below hb)) (abOk_of hk (by omega))
            have hle : abE c g (m - 1) g.length ≤ 0 := (abE_iff hk _).2 (by omega)
            generalize abE c g (m - 1) g.length = x at *
            have ZO := Lib.hid z1
            go_wp2_with fail
            refine hbe.mono ?_
            rintro e w1 ⟨rfl, hb1⟩
            replace hC := hC.below hb1 hC.lt
            replace hB0 := hB0.below hb1 hB0.lt
            replace hb := hb.trans (hb1.mono hb.size)
            clear hbe hb1 z0 z1
            have z1 : w1.cell? ⟨w.heap.size + 1, 1, none⟩ = some (.int .i64 m) := hC.cell 1 _ rfl
            have y1 := hC.frozen 1
            have hCn := hC.set 1 (.int .i64 (m - 1))
            have hBn := hB0.other ⟨w.heap.size + 1, 1, none⟩ (.int .i64 (m - 1)) (by simp)
            have hbn := hb.setCell (p := ⟨w.heap.size + 1, 1, none⟩) (by simp) (.int .i64 (m - 1))
            have zn := hCn.cell 1 (.int .i64 (m - 1)) rfl
            go_wp2
            go_roundw
            case rel => exact ⟨m - 1, by omega, by omega, hCn, hBn, hbn⟩
            case measure => rw [zn, ZO.out]; simp [intOf]; omega
          · have hm : m = (valueB c g).hi := by omega
            have heq := Lib.hid (show valueB c g = ⟨n, m⟩ by subst hm; subst hn; rfl)
            by_cases j1 : -10000 < m
            · have hle : ¬ abE c g (m - 1) g.length ≤ 0 := fun h => by have := (abE_iff hk _).1 h; omega
              have hbe := above_any _ _ c g (m - 1) wr (hc.mono (ext_of_below hb)) (hg.mono (ext_of_below hb)) (abOk_of hk (by omega))
              generalize abE c g (m - 1) g.length = x at *
              clear hm hlt hm1 hn hin
              go_wp2_with fail
              refine hbe.mono ?_
              rintro e w1 ⟨rfl, hb1⟩
              replace hC := hC.below hb1 hC.lt
              replace hB0 := hB0.below hb1 hB0.lt
              replace hb := hb.trans (hb1.mono hb.size)
              clear hbe hb1 z0 z1
              have z0 : w1.cell? ⟨w.heap.size + 1, 0, none⟩ = some (.int .i64 n) := hC.cell 0 _ rfl
              have z1 : w1.cell? ⟨w.heap.size + 1, 1, none⟩ = some (.int .i64 m) := hC.cell 1 _ rfl
              have y0 : w1.cell? ⟨w.heap.size, 0, none⟩ = some (.int .i64 0) := hB0.cell 0 _ rfl
              have y1 : w1.cell? ⟨w.heap.size, 1, none⟩ = some (.int .i64 0) := hB0.cell 1 _ rfl
              have f0 := hB0.frozen 0
              have f1 := hB0.frozen 1
              clear hc hg
              go_wp2
              have B3 := (hB0.set 0 (.int .i64 n)).set 1 (.int .i64 m)
              have d0 := B3.cell 0 (.int .i64 n) rfl
              have d1 := B3.cell 1 (.int .i64 m) rfl
              exact bodyPost_ret (v := .agg #[.int .i64 n, .int .i64 m]) (by simp only [results, Tryz.results51]; simp [go_sem, d0, d1]) rfl ⟨ret_sp heq.out, (hb.setCell (p := ⟨w.heap.size, 0, none⟩) (by simp) _).setCell (p := ⟨w.heap.size, 1, none⟩) (by simp) _⟩
            · clear hm hlt hm1 hn hin z0 z1
              have z0 : wr.cell? ⟨w.heap.size + 1, 0, none⟩ = some (.int .i64 n) := hC.cell 0 _ rfl
              have z1 : wr.cell? ⟨w.heap.size + 1, 1, none⟩ = some (.int .i64 m) := hC.cell 1 _ rfl
              have y0 : wr.cell? ⟨w.heap.size, 0, none⟩ = some (.int .i64 0) := hB0.cell 0 _ rfl
              have y1 : wr.cell? ⟨w.heap.size, 1, none⟩ = some (.int .i64 0) := hB0.cell 1 _ rfl
              have f0 := hB0.frozen 0
              have f1 := hB0.frozen 1
              clear hc hg
              go_wp2
              have B3 := (hB0.set 0 (.int .i64 n)).set 1 (.int .i64 m)
              have d0 := B3.cell 0 (.int .i64 n) rfl
              have d1 := B3.cell 1 (.int .i64 m) rfl
              exact bodyPost_ret (v := .agg #[.int .i64 n, .int .i64 m]) (by simp only [results, Tryz.results51]; simp [go_sem, d0, d1]) rfl ⟨ret_sp heq.out, (hb.setCell (p := ⟨w.heap.size, 0, none⟩) (by simp) _).setCell (p := ⟨w.heap.size, 1, none⟩) (by simp) _⟩
      · clear hlt hn1 hn2 z1
        go_wp2
        go_loopw [25] (fun _ wr => ∃ m : Int, (valueB c g).hi ≤ m ∧ m ≤ 10000 ∧ Blk wr (w.heap.size + 1) #[.int .i64 n, .int .i64 m] 30 ∧ Blk wr w.heap.size #[.int .i64 0, .int .i64 0] 30 ∧ Below w.heap.size w wr) (fun _ wr => (intOf ((wr.cell? ⟨w.heap.size + 1, 1, none⟩).getD (.int .i64 0)) + 10000).toNat)
        case atStart => exact ⟨10000, hin.2.2.2, Int.le_refl _, hC, hB0, hb⟩
        case round =>
          clear hC hB0 hb
          obtain ⟨m, hm1, hm2, hC, hB0, hb⟩ := hrel
          have z0 : wr.cell? ⟨w.heap.size + 1, 0, none⟩ = some (.int .i64 n) := hC.cell 0 _ rfl
          have z1 : wr.cell? ⟨w.heap.size + 1, 1, none⟩ = some (.int .i64 m) := hC.cell 1 _ rfl
          by_cases hlt : (valueB c g).hi < m
          · have j1 : -10000 < m := by omega
            have hbe := above_any _ _ c g (m - 1) wr (hc.mono (ext_of_below hb)) (hg.mono (ext_of_below hb)) (abOk_of hk (by omega))
            have hle : abE c g (m - 1) g.length ≤ 0 := (abE_iff hk _).2 (by omega)
            generalize abE c g (m - 1) g.length = x at *
            have ZO := Lib.hid z1
            go_wp2_with fail
            refine hbe.mono ?_
            rintro e w1 ⟨rfl, hb1⟩
            replace hC := hC.below hb1 hC.lt
            replace hB0 := hB0.below hb1 hB0.lt
            replace hb := hb.trans (hb1.mono hb.size)
            clear hbe hb1 z0 z1
            have z1 : w1.cell? ⟨w.heap.size + 1, 1, none⟩ = some (.int .i64 m) := hC.cell 1 _ rfl
            have y1 := hC.frozen 1
            have hCn := hC.set 1 (.int .i64 (m - 1))
            have hBn := hB0.other ⟨w.heap.size + 1, 1, none⟩ (.int .i64 (m - 1)) (by simp)
            have hbn := hb.setCell (p := ⟨w.heap.size + 1, 1, none⟩) (by simp) (.int .i64 (m - 1))
            have zn := hCn.cell 1 (.int .i64 (m - 1)) rfl
            go_wp2
            go_roundw
            case rel => exact ⟨m - 1, by omega, by omega, hCn, hBn, hbn⟩
            case measure => rw [zn, ZO.out]; simp [intOf]; omega
          · have hm : m = (valueB c g).hi := by omega
            have heq := Lib.hid (show valueB c g = ⟨n, m⟩ by subst hm; subst hn; rfl)
            by_cases j1 : -10000 < m
            · have hle : ¬ abE c g (m - 1) g.length ≤ 0 := fun h => by have := (abE_iff hk _).1 h; omega
              have hbe := above_any _ _ c g (m - 1) wr (hc.mono (ext_of_below hb)) (hg.mono (ext_of_below hb)) (abOk_of hk (by omega))
              generalize abE c g (m - 1) g.length = x at *
              clear hm hlt hm1 hn hin
              go_wp2_with fail
              refine hbe.mono ?_
              rintro e w1 ⟨rfl, hb1⟩
              replace hC := hC.below hb1 hC.lt
              replace hB0 := hB0.below hb1 hB0.lt
              replace hb := hb.trans (hb1.mono hb.size)
              clear hbe hb1 z0 z1
              have z0 : w1.cell? ⟨w.heap.size + 1, 0, none⟩ = some (.int .i64 n) := hC.cell 0 _ rfl
              have z1 : w1.cell? ⟨w.heap.size + 1, 1, none⟩ = some (.int .i64 m) := hC.cell 1 _ rfl
              have y0 : w1.cell? ⟨w.heap.size, 0, none⟩ = some (.int .i64 0) := hB0.cell 0 _ rfl
              have y1 : w1.cell? ⟨w.heap.size, 1, none⟩ = some (.int .i64 0) := hB0.cell 1 _ rfl
              have f0 := hB0.frozen 0
              have f1 := hB0.frozen 1
              clear hc hg
              go_wp2
              have B3 := (hB0.set 0 (.int .i64 n)).set 1 (.int .i64 m)
              have d0 := B3.cell 0 (.int .i64 n) rfl
              have d1 := B3.cell 1 (.int .i64 m) rfl
              exact bodyPost_ret (v := .agg #[.int .i64 n, .int .i64 m]) (by simp only [results, Tryz.results51]; simp [go_sem, d0, d1]) rfl ⟨ret_sp heq.out, (hb.setCell (p := ⟨w.heap.size, 0, none⟩) (by simp) _).setCell (p := ⟨w.heap.size, 1, none⟩) (by simp) _⟩
            · clear hm hlt hm1 hn hin z0 z1
              have z0 : wr.cell? ⟨w.heap.size + 1, 0, none⟩ = some (.int .i64 n) := hC.cell 0 _ rfl
              have z1 : wr.cell? ⟨w.heap.size + 1, 1, none⟩ = some (.int .i64 m) := hC.cell 1 _ rfl
              have y0 : wr.cell? ⟨w.heap.size, 0, none⟩ = some (.int .i64 0) := hB0.cell 0 _ rfl
              have y1 : wr.cell? ⟨w.heap.size, 1, none⟩ = some (.int .i64 0) := hB0.cell 1 _ rfl
              have f0 := hB0.frozen 0
              have f1 := hB0.frozen 1
              clear hc hg
              go_wp2
              have B3 := (hB0.set 0 (.int .i64 n)).set 1 (.int .i64 m)
              have d0 := B3.cell 0 (.int .i64 n) rfl
              have d1 := B3.cell 1 (.int .i64 m) rfl
              exact bodyPost_ret (v := .agg #[.int .i64 n, .int .i64 m]) (by simp only [results, Tryz.results51]; simp [go_sem, d0, d1]) rfl ⟨ret_sp heq.out, (hb.setCell (p := ⟨w.heap.size, 0, none⟩) (by simp) _).setCell (p := ⟨w.heap.size, 1, none⟩) (by simp) _⟩

end Go.Proofs.YtmmlocjiegkjeaaGreatDoor.B1

namespace Go.Proofs.YtmmlocjiegkjeaaGreatDoor.B1

open Go.RowKit Go.PlainAid

set_option linter.unusedVariables false

def valI (b : Bat) (r : List Int) (n : Int) : Sp × Int := if n < 0 then (⟨0, 0⟩, if bothB b r = 0 then 7 else bothB b r) else valB b r n.toNat

set_option maxRecDepth 100000 in
theorem valI_any (v rv : Value) (b : Bat) (r : List Int) (n : Int) (w : World) (h : RBat w v b) (hr : RInts w rv r) :
    Calls Tryz.prog 17 #[v, rv, .int .i64 n] w (RetSpE w (valI b r n)) := by
  by_cases hnp : bothB b r = 0 ∧ 0 ≤ n ∧ n < b.props.length
  · obtain ⟨e0, hn0, hn1⟩ := hnp
    have hp6 := (ok_of (rec_len e0).1).pr
    obtain ⟨m, rfl⟩ := Int.eq_ofNat_of_zero_le hn0
    have e : valI b r (m : Int) = valB b r m := by unfold valI; rw [if_neg (by omega)]; simp
    rw [e]
    exact val_any v rv b r m (by omega) w h hr
  obtain ⟨a0, k0, a1, k1, a2, k2, a3, k3, rfl⟩ := h.agg
  have hA := below_two w (.cells #[.slice a0 b.oxides.length k0, .slice a1 b.mats.length k1, .slice a2 b.shares.length k2, .slice a3 b.props.length k3, .int .i64 b.redox.lo, .int .i64 b.redox.hi, .int .i64 b.wanted] 32) (.cells #[.int .i64 0, .int .i64 0] 30)
  have hB := (Blk.new w #[.slice a0 b.oxides.length k0, .slice a1 b.mats.length k1, .slice a2 b.shares.length k2, .slice a3 b.props.length k3, .int .i64 b.redox.lo, .int .i64 b.redox.hi, .int .i64 b.wanted] 32).alloc (.cells #[.int .i64 0, .int .i64 0] 30)
  have hC : Blk ((w.alloc (.cells #[.slice a0 b.oxides.length k0, .slice a1 b.mats.length k1, .slice a2 b.shares.length k2, .slice a3 b.props.length k3, .int .i64 b.redox.lo, .int .i64 b.redox.hi, .int .i64 b.wanted] 32)).alloc (.cells #[.int .i64 0, .int .i64 0] 30)) (w.heap.size + 1) #[.int .i64 0, .int .i64 0] 30 := by
    have := Blk.new (w.alloc (.cells #[.slice a0 b.oxides.length k0, .slice a1 b.mats.length k1, .slice a2 b.shares.length k2, .slice a3 b.props.length k3, .int .i64 b.redox.lo, .int .i64 b.redox.hi, .int .i64 b.wanted] 32)) #[.int .i64 0, .int .i64 0] 30
    simpa using this
  go_enter Tryz.func17, Tryz.ntmps17
  go_wp2_with fail
  generalize (w.alloc (.cells #[.slice a0 b.oxides.length k0, .slice a1 b.mats.length k1, .slice a2 b.shares.length k2, .slice a3 b.props.length k3, .int .i64 b.redox.lo, .int .i64 b.redox.hi, .int .i64 b.wanted] 32)).alloc (.cells #[.int .i64 0, .int .i64 0] 30) = W at *
  refine (checkBoth_any _ _ b r _ (h.mono (ext_of_below hA)) (hr.mono (ext_of_below hA))).mono ?_
  rintro e w1 ⟨rfl, hb1⟩
  have hA1 := hA.trans (hb1.mono hA.size)
  have hB1 := hB.below hb1 hB.lt
  have hC1 := hC.below hb1 hC.lt
  clear hA hB hC hb1
  by_cases e1 : bothB b r = 0
  case neg =>
    have e1' : (bothB b r != 0) = true := by simp [e1]
    have hfin := Lib.hid (show valI b r n = (⟨0, 0⟩, bothB b r) by simp [valI, valB, e1])
    have z0 : w1.cell? ⟨w.heap.size + 1, 0, none⟩ = some (.int .i64 0) := hC1.cell 0 _ rfl
    have z1 : w1.cell? ⟨w.heap.size + 1, 1, none⟩ = some (.int .i64 0) := hC1.cell 1 _ rfl
    have y0 := hC1.frozen 0
    have y1 := hC1.frozen 1
    clear hB1 e1
    go_wp2
    have B9 := (hC1.set 0 (.int .i64 0)).set 1 (.int .i64 0)
    have d0 := B9.cell 0 (.int .i64 0) rfl
    have d1 := B9.cell 1 (.int .i64 0) rfl
    unfold RetSpE
    rw [hfin.out]
    exact bodyPost_ret (v := .tuple #[.agg #[.int .i64 0, .int .i64 0], .int .i64 (bothB b r)]) (by simp only [results, Tryz.results17]; simp [go_sem, d0, d1]) rfl ⟨rfl, (hA1.setCell (p := ⟨w.heap.size + 1, 0, none⟩) (by simp) _).setCell (p := ⟨w.heap.size + 1, 1, none⟩) (by simp) _⟩
  have e1' : (bothB b r != 0) = false := by simp [e1]
  obtain ⟨g1, g2, g3⟩ := rec_len e1
  have hok := ok_of g1
  have f0 := hB1.cell 0 (.slice a0 b.oxides.length k0) rfl
  have f1 := hB1.cell 1 (.slice a1 b.mats.length k1) rfl
  have f2 := hB1.cell 2 (.slice a2 b.shares.length k2) rfl
  have f3 := hB1.cell 3 (.slice a3 b.props.length k3) rfl
  have f4 := hB1.cell 4 (.int .i64 b.redox.lo) rfl
  have f5 := hB1.cell 5 (.int .i64 b.redox.hi) rfl
  have f6 := hB1.cell 6 (.int .i64 b.wanted) rfl
  have E1 := Lib.hid e1
  have G2 := Lib.hid g2
  have G3 := Lib.hid g3
  have hp6 := hok.pr
  clear e1 g1 g2 g3
  have hfin := Lib.hid (show valI b r n = (⟨0, 0⟩, 7) by
    have h9 := E1.out
    unfold valI valB
    split
    · simp
    · simp only [h9]; rw [dif_neg (by omega)]; simp)
  have hbt := between_any n 0 ((b.props.length : Int) - 1) w1
  rw [show (decide ((0 : Int) ≤ n) && decide (n ≤ (b.props.length : Int) - 1)) = false from by
    by_cases h0 : 0 ≤ n
    · have : ¬ n < b.props.length := fun h => hnp ⟨E1.out, h0, h⟩
      simp; omega
    · simp; omega] at hbt
  have z0 : w1.cell? ⟨w.heap.size + 1, 0, none⟩ = some (.int .i64 0) := hC1.cell 0 _ rfl
  have z1 : w1.cell? ⟨w.heap.size + 1, 1, none⟩ = some (.int .i64 0) := hC1.cell 1 _ rfl
  have y0 := hC1.frozen 0
  have y1 := hC1.frozen 1
  clear hnp
  go_wp2_with fail
  refine hbt.mono ?_
  rintro e w2 ⟨rfl, rfl⟩
  clear hbt
  go_wp2
  have B9 := (hC1.set 0 (.int .i64 0)).set 1 (.int .i64 0)
  have d0 := B9.cell 0 (.int .i64 0) rfl
  have d1 := B9.cell 1 (.int .i64 0) rfl
  unfold RetSpE
  rw [hfin.out]
  exact bodyPost_ret (v := .tuple #[.agg #[.int .i64 0, .int .i64 0], .int .i64 7]) (by simp only [results, Tryz.results17]; simp [go_sem, d0, d1]) rfl ⟨rfl, (hA1.setCell (p := ⟨w.heap.size + 1, 0, none⟩) (by simp) _).setCell (p := ⟨w.heap.size + 1, 1, none⟩) (by simp) _⟩

theorem valI_fin {b : Bat} {r : List Int} {n : Int} (e : bothB b r = 0) :
    ((n < 0 ∨ (b.props.length : Int) ≤ n) → valI b r n = (⟨0, 0⟩, 7)) ∧ ((tot (gramsB b r)).lo = 0 → 0 ≤ n → n < b.props.length → valI b r n = (⟨0, 0⟩, 8)) ∧ ((tot (gramsB b r)).lo ≠ 0 → ∀ (k : Nat) (hk : k < b.props.length), n = k → valI b r n = (valueB (b.props[k]).coefs (gramsB b r), 0)) := by
  refine ⟨fun h => ?_, fun h h0 h1 => ?_, fun h k hk h1 => ?_⟩
  · unfold valI
    split
    · simp
    · unfold valB
      rw [if_neg (by simp [e]), dif_neg (by omega)]
  · unfold valI valB
    rw [if_neg (by omega), if_neg (by simp [e]), dif_pos (by omega), if_pos h]
  · subst h1
    unfold valI valB
    rw [if_neg (by omega), if_neg (by simp [e]), dif_pos (by simpa using hk), if_neg h]
    simp

set_option maxHeartbeats 1000000 in
set_option maxRecDepth 100000 in
theorem rval_any (v rv : Value) (b : Bat) (r : List Int) (n : Int) (w : World) (h : RBat w v b) (hr : RInts w rv r) :
    Calls Tryz.prog 23 #[v, rv, .int .i64 n] w (RetSpE w (valI b r n)) := by
  obtain ⟨a0, k0, a1, k1, a2, k2, a3, k3, rfl⟩ := h.agg
  obtain ⟨ar, kr, rfl, -, -, -⟩ := id hr
  have hA := below_two w (.cells #[.slice a0 b.oxides.length k0, .slice a1 b.mats.length k1, .slice a2 b.shares.length k2, .slice a3 b.props.length k3, .int .i64 b.redox.lo, .int .i64 b.redox.hi, .int .i64 b.wanted] 32) (.cells #[.int .i64 0, .int .i64 0] 30)
  have hB := (Blk.new w #[.slice a0 b.oxides.length k0, .slice a1 b.mats.length k1, .slice a2 b.shares.length k2, .slice a3 b.props.length k3, .int .i64 b.redox.lo, .int .i64 b.redox.hi, .int .i64 b.wanted] 32).alloc (.cells #[.int .i64 0, .int .i64 0] 30)
  have hC : Blk ((w.alloc (.cells #[.slice a0 b.oxides.length k0, .slice a1 b.mats.length k1, .slice a2 b.shares.length k2, .slice a3 b.props.length k3, .int .i64 b.redox.lo, .int .i64 b.redox.hi, .int .i64 b.wanted] 32)).alloc (.cells #[.int .i64 0, .int .i64 0] 30)) (w.heap.size + 1) #[.int .i64 0, .int .i64 0] 30 := by
    have := Blk.new (w.alloc (.cells #[.slice a0 b.oxides.length k0, .slice a1 b.mats.length k1, .slice a2 b.shares.length k2, .slice a3 b.props.length k3, .int .i64 b.redox.lo, .int .i64 b.redox.hi, .int .i64 b.wanted] 32)) #[.int .i64 0, .int .i64 0] 30
    simpa using this
  go_enter Tryz.func23, Tryz.ntmps23
  go_wp2_with fail
  generalize (w.alloc (.cells #[.slice a0 b.oxides.length k0, .slice a1 b.mats.length k1, .slice a2 b.shares.length k2, .slice a3 b.props.length k3, .int .i64 b.redox.lo, .int .i64 b.redox.hi, .int .i64 b.wanted] 32)).alloc (.cells #[.int .i64 0, .int .i64 0] 30) = W at *
  refine (rasked_any _ _ b r _ (h.mono (ext_of_below hA)) (hr.mono (ext_of_below hA))).mono ?_
  rintro e w1 ⟨rfl, hb1⟩
  have hA1 := hA.trans (hb1.mono hA.size)
  have hB1 := hB.below hb1 hB.lt
  have hC1 := hC.below hb1 hC.lt
  clear hA hB hC hb1
  by_cases e1 : bothB b r = 0
  case neg =>
    have e1' : (bothB b r != 0) = true := by simp [e1]
    have hfin := Lib.hid (show valI b r n = (⟨0, 0⟩, bothB b r) by
      unfold valI
      split
      · first | rfl | rw [if_neg e1]
      · unfold valB; rw [if_pos (by simpa using e1)])
    clear hB1 e1
    have z0 : w1.cell? ⟨w.heap.size + 1, 0, none⟩ = some (.int .i64 0) := hC1.cell 0 _ rfl
    have z1 : w1.cell? ⟨w.heap.size + 1, 1, none⟩ = some (.int .i64 0) := hC1.cell 1 _ rfl
    have y0 := hC1.frozen 0
    have y1 := hC1.frozen 1
    go_wp2
    have B9 := (hC1.set 0 (.int .i64 0)).set 1 (.int .i64 0)
    have d0 := B9.cell 0 (.int .i64 0) rfl
    have d1 := B9.cell 1 (.int .i64 0) rfl
    unfold RetSpE
    rw [hfin.out]
    exact bodyPost_ret (v := .tuple #[.agg #[.int .i64 0, .int .i64 0], .int .i64 (bothB b r)]) (by simp only [results, Tryz.results23]; simp [go_sem, d0, d1]) rfl ⟨rfl, (hA1.setCell (p := ⟨w.heap.size + 1, 0, none⟩) (by simp) _).setCell (p := ⟨w.heap.size + 1, 1, none⟩) (by simp) _⟩
  have e1' : (bothB b r != 0) = false := by simp [e1]
  obtain ⟨g1, g2, g3⟩ := rec_len e1
  have hok := ok_of g1
  obtain ⟨F1, F2, F3⟩ := valI_fin (n := n) e1
  have hw := weighed_any _ _ b r w1 (h.mono (ext_of_below hA1)) (hr.mono (ext_of_below hA1)) hok g2
  have E2 := Lib.hid g2
  have E3 := Lib.hid g3
  have hp6 := hok.pr
  have f0 := hB1.cell 0 (.slice a0 b.oxides.length k0) rfl
  have f1 := hB1.cell 1 (.slice a1 b.mats.length k1) rfl
  have f2 := hB1.cell 2 (.slice a2 b.shares.length k2) rfl
  have f3 := hB1.cell 3 (.slice a3 b.props.length k3) rfl
  have f4 := hB1.cell 4 (.int .i64 b.redox.lo) rfl
  have f5 := hB1.cell 5 (.int .i64 b.redox.hi) rfl
  have f6 := hB1.cell 6 (.int .i64 b.wanted) rfl
  clear e1 g1 g2 g3
  by_cases hn0 : n < 0
  · have hfin := Lib.hid (F1 (.inl hn0))
    clear F1 F2 F3 hw hB1
    have z0 : w1.cell? ⟨w.heap.size + 1, 0, none⟩ = some (.int .i64 0) := hC1.cell 0 _ rfl
    have z1 : w1.cell? ⟨w.heap.size + 1, 1, none⟩ = some (.int .i64 0) := hC1.cell 1 _ rfl
    have y0 := hC1.frozen 0
    have y1 := hC1.frozen 1
    go_wp2
    have B9 := (hC1.set 0 (.int .i64 0)).set 1 (.int .i64 0)
    have d0 := B9.cell 0 (.int .i64 0) rfl
    have d1 := B9.cell 1 (.int .i64 0) rfl
    unfold RetSpE
    rw [hfin.out]
    exact bodyPost_ret (v := .tuple #[.agg #[.int .i64 0, .int .i64 0], .int .i64 7]) (by simp only [results, Tryz.results23]; simp [go_sem, d0, d1]) rfl ⟨rfl, (hA1.setCell (p := ⟨w.heap.size + 1, 0, none⟩) (by simp) _).setCell (p := ⟨w.heap.size + 1, 1, none⟩) (by simp) _⟩
  by_cases hn1 : (b.props.length : Int) ≤ n
  · have hfin := Lib.hid (F1 (.inr hn1))
    clear F1 F2 F3 hw hB1
    have z0 : w1.cell? ⟨w.heap.size + 1, 0, none⟩ = some (.int .i64 0) := hC1.cell 0 _ rfl
    have z1 : w1.cell? ⟨w.heap.size + 1, 1, none⟩ = some (.int .i64 0) := hC1.cell 1 _ rfl
    have y0 := hC1.frozen 0
    have y1 := hC1.frozen 1
    go_wp2
    have B9 := (hC1.set 0 (.int .i64 0)).set 1 (.int .i64 0)
    have d0 := B9.cell 0 (.int .i64 0) rfl
    have d1 := B9.cell 1 (.int .i64 0) rfl
    unfold RetSpE
    rw [hfin.out]
    exact bodyPost_ret (v := .tuple #[.agg #[.int .i64 0, .int .i64 0], .int .i64 7]) (by simp only [results, Tryz.results23]; simp [go_sem, d0, d1]) rfl ⟨rfl, (hA1.setCell (p := ⟨w.heap.size + 1, 0, none⟩) (by simp) _).setCell (p := ⟨w.heap.size + 1, 1, none⟩) (by simp) _⟩
  obtain ⟨k, rfl⟩ := Int.eq_ofNat_of_zero_le (show 0 ≤ n by omega)
  have hk : k < b.props.length := by omega
  have hn2 : (k : Int) < (b.props.length : Int) := by omega
  clear F1
  go_wp2_with fail
  refine hw.mono ?_
  rintro e w2 ⟨vg, rfl, hvg, hb2⟩
  have hA2 := hA1.trans (hb2.mono hA1.size)
  have hB2 := hB1.below hb2 hB1.lt
  have hC2 := hC1.below hb2 hC1.lt
  clear hw f0 f1 f2 f3 f4 f5 f6 hB1 hC1 hA1 hb2
  by_cases hz : (tot (gramsB b r)).lo = 0
  · rw [show wE b r = ([], 8) by simp [wE, hz]]
    have hfin := Lib.hid (F2 hz (by omega) hn2)
    clear hz F2 F3 hvg hB2
    have z0 : w2.cell? ⟨w.heap.size + 1, 0, none⟩ = some (.int .i64 0) := hC2.cell 0 _ rfl
    have z1 : w2.cell? ⟨w.heap.size + 1, 1, none⟩ = some (.int .i64 0) := hC2.cell 1 _ rfl
    have y0 := hC2.frozen 0
    have y1 := hC2.frozen 1
    go_wp2
    have B9 := (hC2.set 0 (.int .i64 0)).set 1 (.int .i64 0)
    have d0 := B9.cell 0 (.int .i64 0) rfl
    have d1 := B9.cell 1 (.int .i64 0) rfl
    unfold RetSpE
    rw [hfin.out]
    exact bodyPost_ret (v := .tuple #[.agg #[.int .i64 0, .int .i64 0], .int .i64 8]) (by simp only [results, Tryz.results23]; simp [go_sem, d0, d1]) rfl ⟨rfl, (hA2.setCell (p := ⟨w.heap.size + 1, 0, none⟩) (by simp) _).setCell (p := ⟨w.heap.size + 1, 1, none⟩) (by simp) _⟩
  have hmo := coefs_ok hok E3.out E2.out hz (List.getElem_mem hk)
  have hfin := Lib.hid (F3 hz k hk rfl)
  rw [show wE b r = (gramsB b r, 0) by simp [wE, hz]] at hvg ⊢
  have hvg2 := hvg.mono (vis_ext _ _)
  have f3 : w2.cell? ⟨w.heap.size, 3, none⟩ = some (.slice a3 b.props.length k3) := hB2.cell 3 _ rfl
  obtain ⟨v0, v1, v2, v3, ev, q0, q1, q2, q3, i1, i2, i3⟩ := h
  simp only [Value.agg.injEq, Array.mk.injEq, List.cons.injEq, and_true] at ev
  obtain ⟨-, -, -, rfl, -⟩ := ev
  obtain ⟨ap, kp, ep, -, ⟨-, lp⟩, hl3⟩ := q3
  simp only [Value.slice.injEq, true_and] at ep
  obtain ⟨rfl, rfl⟩ := ep
  obtain ⟨b1, o1, rfl, vc, ⟨t0, t1, t2, t3⟩, hco, hs⟩ := hl3 k hk
  obtain ⟨ac, kc, rfl, -, -, -⟩ := id hco
  simp only at t1
  have t1' := ext_of_below hA2 _ _ t1
  have hbp := cell_lt t1
  simp only at hbp
  have hva := bounds_any _ vg _ _ w2 (hco.mono (ext_of_below hA2)) hvg2 hmo
  clear hl3 t0 t1 t2 t3 q0 q1 q2 hs i1 i2 i3 hco hmo hB2 hz F2 F3 hvg hvg2
  generalize b.props[k] = p at *
  go_wp2_with fail
  refine hva.mono ?_
  rintro e w4 ⟨rfl, hb4⟩
  have hA4 := hA2.trans (hb4.mono hA2.size)
  have hC4 := hC2.below hb4 hC2.lt
  clear hva hb4 hA2 hC2
  generalize valueB p.coefs (gramsB b r) = sp at *
  have z0 : w4.cell? ⟨w.heap.size + 1, 0, none⟩ = some (.int .i64 0) := hC4.cell 0 _ rfl
  have z1 : w4.cell? ⟨w.heap.size + 1, 1, none⟩ = some (.int .i64 0) := hC4.cell 1 _ rfl
  have y0 := hC4.frozen 0
  have y1 := hC4.frozen 1
  go_wp2
  have B9 := (hC4.set 0 (.int .i64 sp.lo)).set 1 (.int .i64 sp.hi)
  have d0 := B9.cell 0 (.int .i64 sp.lo) rfl
  have d1 := B9.cell 1 (.int .i64 sp.hi) rfl
  unfold RetSpE
  rw [hfin.out]
  exact bodyPost_ret (v := .tuple #[.agg #[.int .i64 sp.lo, .int .i64 sp.hi], .int .i64 0]) (by simp only [results, Tryz.results23]; simp [go_sem, d0, d1]) rfl ⟨rfl, (hA4.setCell (p := ⟨w.heap.size + 1, 0, none⟩) (by simp) _).setCell (p := ⟨w.heap.size + 1, 1, none⟩) (by simp) _⟩

end Go.Proofs.YtmmlocjiegkjeaaGreatDoor.B1
