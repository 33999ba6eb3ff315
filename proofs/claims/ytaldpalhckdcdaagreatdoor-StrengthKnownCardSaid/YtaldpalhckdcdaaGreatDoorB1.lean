/- Package batch, by contracts, as far as layer 5 reaches it; no statement is proved here. -/
import Derived.Test.YtaldpalhckdcdaaGreatDoorData
import Derived.PlainAid
import Derived.Deep.RegionHeld3
import Derived.Deep.DeepCutAuto
import Derived.Deep.AppendLies
import Derived.Deep.RegionLaw
import Derived.Laws.EntriesVeiled
import Derived.WalkLawsBesides
import Derived.Deep.Slices
import Derived.SizedLaws
import Derived.ProofKit
import Derived.WalkKit
import Derived.JoinedCond
import Derived.StillTailTactics
import Derived.BigRegion
import Derived.Deep.QuietTactic
import Derived.BigQuiet
import Derived.Maps.AppendAt
import Derived.Deep.OwnRows
namespace Go.Proofs.YtaldpalhckdcdaaGreatDoor.B1
open Go.RowKit
set_option linter.unusedVariables false
theorem between_any (n a b : Int) (w : World) :
    Calls Tryz.prog 55 #[.int .i64 n, .int .i64 a, .int .i64 b] w fun e w' => e = .returned (.bool (decide (a ≤ n) && decide (n ≤ b))) ∧ w = w' := by
  go_enter Tryz.func55, Tryz.ntmps55
  go_wp2
  all_goals go_ret
  all_goals (refine ⟨?_, rfl⟩; simp; try omega)

theorem within_any (l h a b : Int) (w : World) :
    Calls Tryz.prog 107 #[.agg #[.int .i64 l, .int .i64 h], .int .i64 a, .int .i64 b] w fun e w' => e = .returned (.bool (decide (a ≤ l) && decide (l ≤ h) && decide (h ≤ b))) ∧ Below w.heap.size w w' := by
  go_enter Tryz.func107, Tryz.ntmps107
  go_wp2
  all_goals go_ret
  all_goals (refine ⟨?_, by go_grown⟩; simp; try omega)

theorem low_any (l h : Int) (w : World) :
    Calls Tryz.prog 93 #[.agg #[.int .i64 l, .int .i64 h]] w fun e w' => e = .returned (.int .i64 l) ∧ Below w.heap.size w w' := by
  go_enter Tryz.func93, Tryz.ntmps93
  go_wp2
  all_goals go_ret
  all_goals exact ⟨rfl, by go_grown⟩

theorem high_any (l h : Int) (w : World) :
    Calls Tryz.prog 94 #[.agg #[.int .i64 l, .int .i64 h]] w fun e w' => e = .returned (.int .i64 h) ∧ Below w.heap.size w w' := by
  go_enter Tryz.func94, Tryz.ntmps94
  go_wp2
  all_goals go_ret
  all_goals exact ⟨rfl, by go_grown⟩

/-- rounding down and up. -/
theorem down_any (a b : Int) (w : World) (ha : -9223372036854775807 ≤ a ∧ a ≤ 9223372036854775807) (hb : 0 < b ∧ b ≤ 9223372036854775807) :
    Calls Tryz.prog 122 #[.int .i64 a, .int .i64 b] w fun e w' => e = .returned (.int .i64 (a / b)) ∧ w = w' := by
  obtain ⟨ha1, ha2⟩ := ha
  obtain ⟨hb1, hb2⟩ := hb
  go_enter Tryz.func122, Tryz.ntmps122
  have hq : -9223372036854775807 ≤ a.tdiv b ∧ a.tdiv b ≤ 9223372036854775807 := by
    have h1 := Int.natAbs_tdiv_le_natAbs a b
    constructor <;> omega
  go_wp2
  all_goals go_ret
  · rename_i hlt
    refine ⟨ret_int ?_, rfl⟩
    rw [← fdiv_neg a b hb1 hlt]
  · rename_i hlt
    exact ⟨ret_int (fdiv_pos a b hb1 hlt), rfl⟩

theorem up_any (a b : Int) (w : World) (ha : -9223372036854775807 ≤ a ∧ a ≤ 9223372036854775807) (hb : 0 < b ∧ b ≤ 9223372036854775807) :
    Calls Tryz.prog 109 #[.int .i64 a, .int .i64 b] w fun e w' => e = .returned (.int .i64 (-(-a / b))) ∧ w = w' := by
  have hd := down_any (-a) b
  have hq : -9223372036854775807 ≤ (-a) / b ∧ (-a) / b ≤ 9223372036854775807 := by
    have h1 := Int.natAbs_ediv_le_natAbs (-a) b
    omega
  obtain ⟨ha1, ha2⟩ := ha
  obtain ⟨hb1, hb2⟩ := hb
  obtain ⟨hq1, hq2⟩ := hq
  go_enter Tryz.func109, Tryz.ntmps109
  go_wp2_with (go_at_call 122; refine (hd _ (by omega) (by omega)).mono ?_; rintro e w' ⟨rfl, rfl⟩)
  go_ret
  exact ⟨rfl, rfl⟩

theorem isLetter_any (n : Int) (w : World) :
    Calls Tryz.prog 123 #[.int .u8 n] w fun e w' => e = .returned (.bool (decide (97 ≤ n) && decide (n ≤ 122))) ∧ w = w' := by
  go_enter Tryz.func123, Tryz.ntmps123
  go_wp2
  all_goals go_ret
  all_goals (refine ⟨?_, rfl⟩; simp; try omega)

end Go.Proofs.YtaldpalhckdcdaaGreatDoor.B1
namespace Go.Proofs.YtaldpalhckdcdaaGreatDoor.B1
open Go.RowKit
set_option linter.unusedVariables false
theorem sum_snoc (l : List Int) (x : Int) : (l ++ [x]).sum = l.sum + x := by
  induction l with
  | nil => simp
  | cons a l ih => simp [ih]; omega

theorem sum_step (g : Sp → Int) (l : List Sp) (k : Nat) (h : k < l.length) (x : Int) (hx : x = wrap64 ((l.take k).map g).sum) : wrap64 (x + g l[k]) = wrap64 ((l.take (k + 1)).map g).sum := by
  rw [hx, wrap_add, List.take_succ_eq_append_getElem h, List.map_append, List.map_singleton, sum_snoc]

set_option maxRecDepth 100000 in
theorem sum_any (f : Nat) (hF : IsFn f) (g : Sp → Int) (v : Value) (l : List Sp) (w : World) (h : RSps w v l)
    (hf : ∀ s : Sp, s ∈ l → ∀ w1, Calls Tryz.prog f #[.agg #[.int .i64 s.lo, .int .i64 s.hi]] w1 fun e w2 => e = .returned (.int .i64 (g s)) ∧ Below w1.heap.size w1 w2) :
    Calls Tryz.prog 92 #[v, .func (.func f) #[] #[]] w fun e w' => e = .returned (.int .i64 (wrap64 (l.map g).sum)) ∧ Below w.heap.size w w' := by
  obtain ⟨a, cap, rfl, hc1, ⟨hc2, hm⟩, hl⟩ := h
  go_enter Tryz.func92, Tryz.ntmps92
  go_wp2
  go_loopw [5, 10] (fun n i wr => ∃ (k : Nat) (x : Int), k ≤ l.length ∧ i = .int .i64 k ∧ n = .int .i64 x ∧ Hid (x = wrap64 ((l.take k).map g).sum) ∧ Below w.heap.size w wr) (fun _ i _ => l.length - (intOf i).toNat)
  case atStart => exact ⟨0, 0, Nat.zero_le _, rfl, rfl, by simp [wrap64, Hid], Below.refl _ _⟩
  case round =>
    obtain ⟨k, x, hk, rfl, rfl, hx, hb⟩ := hrel
    by_cases hlt : k < l.length
    · obtain ⟨b, off, rfl, h1, h2, h3, h4⟩ := hl k hlt
      have hbl := cell_lt h1
      have hf' := hf l[k] (List.getElem_mem hlt)
      obtain ⟨hc, hz⟩ := bcell hb
      simp only at h1 h2 hbl
      have hst := Lib.hid (sum_step g l k hlt x hx.out)
      clear hf hl hc1 h3 h4
      generalize l[k] = s at *
      unfold IsFn at hF
      go_wp2_with fail
      refine (hf' _).mono ?_
      rintro e w1 ⟨rfl, hb1⟩
      go_wp2
      go_roundw
      case rel => exact ⟨k + 1, _, by omega, by go_num, rfl, hst, (hb.alloc hb.size _).trans (hb1.mono (by have := hb.size; simp; omega))⟩
      case measure => simp [intOf]; omega
    · go_wp2
      go_ret
      refine ⟨ret_int ?_, hb⟩
      rw [hx.out, List.take_of_length_le (by omega)]

theorem isFn_low : IsFn 93 := fun xs w => by kernel_rfl

theorem isFn_high : IsFn 94 := fun xs w => by kernel_rfl

def tot (l : List Sp) : Sp := ⟨wrap64 (l.map Sp.lo).sum, wrap64 (l.map Sp.hi).sum⟩

theorem total_any (v : Value) (l : List Sp) (w : World) (h : RSps w v l) :
    Calls Tryz.prog 57 #[v] w fun e w' => e = .returned (.agg #[.int .i64 (tot l).lo, .int .i64 (tot l).hi]) ∧ Below w.heap.size w w' := by
  go_enter Tryz.func57, Tryz.ntmps57
  go_wp2_with fail
  refine (sum_any _ isFn_low Sp.lo v l _ (h.mono (ext_of_below (by go_grown))) (fun s _ w1 => low_any _ _ _)).mono ?_
  rintro e w1 ⟨rfl, hb1⟩
  go_wp2_with fail
  refine (sum_any _ isFn_high Sp.hi v l _ (h.mono (ext_of_below ((Below.alloc (Below.refl _ _) (Nat.le_refl _) _).trans (hb1.mono (by simp))))) (fun s _ w1 => high_any _ _ _)).mono ?_
  rintro e w2 ⟨rfl, hb2⟩
  have B2 := ((Blk.new w #[.int .i64 0, .int .i64 0] 27).below hb1 (by simp)).below hb2 (by have := hb1.size; simp at this; omega)
  have hB := ((Below.alloc (Below.refl w.heap.size w) (Nat.le_refl _) (.cells #[.int .i64 0, .int .i64 0] 27)).trans (hb1.mono (by simp))).trans (hb2.mono (by have := hb1.size; simp at this; omega))
  have c0 := B2.cell 0 _ rfl
  have c1 := B2.cell 1 _ rfl
  have f0 := B2.frozen 0
  have f1 := B2.frozen 1
  simp only [List.getElem_toArray, List.getElem_cons_zero, List.getElem_cons_succ] at c0 c1
  clear hb1 hb2
  go_wp2
  have B3 := (B2.set 0 (.int .i64 (wrap64 (l.map Sp.lo).sum))).set 1 (.int .i64 (wrap64 (l.map Sp.hi).sum))
  have d0 := B3.cell 0 (.int .i64 (wrap64 (l.map Sp.lo).sum)) rfl
  have d1 := B3.cell 1 (.int .i64 (wrap64 (l.map Sp.hi).sum)) rfl
  exact bodyPost_ret (v := .agg #[.int .i64 (wrap64 (l.map Sp.lo).sum), .int .i64 (wrap64 (l.map Sp.hi).sum)]) (by simp only [results, Tryz.results57]; simp [go_sem, d0, d1]) rfl ⟨rfl, by go_grown⟩

end Go.Proofs.YtaldpalhckdcdaaGreatDoor.B1
namespace Go.Proofs.YtaldpalhckdcdaaGreatDoor.B1
open Go.RowKit
set_option linter.unusedVariables false
/-- what a call of a closure answers of the elements of a list that reads in w. -/
def Tells {α : Type} (f : Nat) (cap : Array Value) (V : World → Value → α → Prop) (w : World) (l : List α) (p : α → Bool) : Prop :=
  ∀ x v w1, x ∈ l → V w v x → Below w.heap.size w w1 → Calls Tryz.prog f (#[v] ++ cap) w1 fun e w2 => e = .returned (.bool (p x)) ∧ Below w1.heap.size w1 w2

theorem any_take {α : Type} (l : List α) (p : α → Bool) (k : Nat) (hk : k < l.length) (h : (l.take k).any p = false) : (l.take (k + 1)).any p = p l[k] := by
  rw [List.take_succ_eq_append_getElem hk, List.any_append, h]; simp

theorem any_of {α : Type} (l : List α) (p : α → Bool) (k : Nat) (hk : k < l.length) (h : p l[k] = true) : l.any p = true := List.any_eq_true.2 ⟨_, List.getElem_mem hk, h⟩

def VInt (_ : World) (v : Value) (x : Int) : Prop := v = .int .i64 x ∧ I64 x

def VSp (_ : World) (v : Value) (s : Sp) : Prop := v = .agg #[.int .i64 s.lo, .int .i64 s.hi] ∧ I64 s.lo ∧ I64 s.hi

def VMat (w : World) (v : Value) (m : Mat) : Prop :=
  ∃ c, v = .agg #[.string m.name, .int .i64 m.price, .int .i64 m.redox, .int .i64 m.least, .int .i64 m.most, .int .i64 m.step, c] ∧ RSps w c m.content ∧ m.name.size ≤ 140737488351232 ∧ I64 m.price ∧ I64 m.redox ∧ I64 m.least ∧ I64 m.most ∧ I64 m.step

def VPrp (w : World) (v : Value) (m : Prp) : Prop :=
  ∃ c, v = .agg #[.string m.name, c, .int .i64 m.target.lo, .int .i64 m.target.hi] ∧ RInts w c m.coefs ∧ m.name.size ≤ 140737488351232 ∧ I64 m.target.lo ∧ I64 m.target.hi

theorem VMat.mono {w w' : World} (e : Ext w w') {v : Value} {x : Mat} (h : VMat w v x) : VMat w' v x := by
  obtain ⟨c, h0, h1, h2⟩ := h
  exact ⟨c, h0, h1.mono e, h2⟩

theorem VPrp.mono {w w' : World} (e : Ext w w') {v : Value} {x : Prp} (h : VPrp w v x) : VPrp w' v x := by
  obtain ⟨c, h0, h1, h2⟩ := h
  exact ⟨c, h0, h1.mono e, h2⟩

set_option maxRecDepth 100000 in
theorem indexFunc_int (f : Nat) (hF : IsFn f) (cap : Array Value) (p : Int → Bool) (v : Value) (l : List Int) (w : World) (h : RInts w v l) (hf : Tells f cap VInt w l p) :
    Calls Tryz.prog 128 #[v, .func (.func f) #[] cap] w fun e w' => ∃ n : Int, e = .returned (.int .i64 n) ∧ decide (0 ≤ n) = l.any p ∧ Below w.heap.size w w' := by
  obtain ⟨a, kap, rfl, hc1, ⟨hc2, hm⟩, hl⟩ := h
  go_enter Tryz.func128, Tryz.ntmps128
  go_wp2
  go_loopw [8] (fun i wr => ∃ (k : Nat), k ≤ l.length ∧ i = .int .i64 k ∧ Hid ((l.take k).any p = false) ∧ Below w.heap.size w wr) (fun i _ => l.length - (intOf i).toNat)
  case atStart => exact ⟨0, Nat.zero_le _, rfl, by simp [Hid], Below.refl _ _⟩
  case round =>
    obtain ⟨k, hk, rfl, hx, hb⟩ := hrel
    by_cases hlt : k < l.length
    · obtain ⟨b, off, rfl, h1, h2⟩ := hl k hlt
      have hbl := cell_lt h1
      have hf' := hf l[k] (.int .i64 l[k]) _ (List.getElem_mem hlt) (⟨rfl, h2⟩) hb
      obtain ⟨hc, hz⟩ := bcell hb
      simp only [Nat.mul_one] at h1 hbl
      have hst := Lib.hid (any_take l p k hlt hx.out)
      have hfi := any_of l p k hlt
      clear hf hl hc1 h2
      generalize l[k] = s at *
      have HFI := Lib.hid hfi
      clear hfi
      unfold IsFn at hF
      go_wp2_with fail
      refine hf'.mono ?_
      rintro e w1 ⟨rfl, hb1⟩
      have hB := hb.trans (hb1.mono hb.size)
      cases hp : p s with
      | false =>
        go_wp2
        go_roundw
        case rel => exact ⟨k + 1, by omega, by go_num, hst.out.trans hp, hB⟩
        case measure => simp [intOf]; omega
      | true =>
        go_wp2
        go_ret
        exact ⟨_, rfl, by rw [HFI.out hp]; simp, hB⟩
    · go_wp2
      go_ret
      refine ⟨_, rfl, ?_, hb⟩
      have := hx.out
      rw [List.take_of_length_le (by omega)] at this
      rw [this]; rfl

theorem containsFunc_int (f : Nat) (hF : IsFn f) (cap : Array Value) (p : Int → Bool) (v : Value) (l : List Int) (w : World) (h : RInts w v l) (hf : Tells f cap VInt w l p) :
    Calls Tryz.prog 120 #[v, .func (.func f) #[] cap] w fun e w' => e = .returned (.bool (l.any p)) ∧ Below w.heap.size w w' := by
  go_enter Tryz.func120, Tryz.ntmps120
  go_wp2_with fail
  refine (indexFunc_int f hF cap p v l _ h hf).mono ?_
  rintro e w1 ⟨n, rfl, hn, hb1⟩
  have HN := Lib.hid hn
  clear hn
  go_wp2
  go_ret
  exact ⟨ret_bool HN.out, hb1⟩

set_option maxRecDepth 100000 in
theorem indexFunc_sp (f : Nat) (hF : IsFn f) (cap : Array Value) (p : Sp → Bool) (v : Value) (l : List Sp) (w : World) (h : RSps w v l) (hf : Tells f cap VSp w l p) :
    Calls Tryz.prog 126 #[v, .func (.func f) #[] cap] w fun e w' => ∃ n : Int, e = .returned (.int .i64 n) ∧ decide (0 ≤ n) = l.any p ∧ Below w.heap.size w w' := by
  obtain ⟨a, kap, rfl, hc1, ⟨hc2, hm⟩, hl⟩ := h
  go_enter Tryz.func126, Tryz.ntmps126
  go_wp2
  go_loopw [8] (fun i wr => ∃ (k : Nat), k ≤ l.length ∧ i = .int .i64 k ∧ Hid ((l.take k).any p = false) ∧ Below w.heap.size w wr) (fun i _ => l.length - (intOf i).toNat)
  case atStart => exact ⟨0, Nat.zero_le _, rfl, by simp [Hid], Below.refl _ _⟩
  case round =>
    obtain ⟨k, hk, rfl, hx, hb⟩ := hrel
    by_cases hlt : k < l.length
    · obtain ⟨b, off, rfl, h1, h2, h3, h4⟩ := hl k hlt
      have hbl := cell_lt h1
      have hf' := hf l[k] (.agg #[.int .i64 l[k].lo, .int .i64 l[k].hi]) _ (List.getElem_mem hlt) (⟨rfl, h3, h4⟩) hb
      obtain ⟨hc, hz⟩ := bcell hb
      simp only at h1 h2 hbl
      have hst := Lib.hid (any_take l p k hlt hx.out)
      have hfi := any_of l p k hlt
      clear hf hl hc1 h3 h4
      generalize l[k] = s at *
      have HFI := Lib.hid hfi
      clear hfi
      unfold IsFn at hF
      go_wp2_with fail
      refine hf'.mono ?_
      rintro e w1 ⟨rfl, hb1⟩
      have hB := hb.trans (hb1.mono hb.size)
      cases hp : p s with
      | false =>
        go_wp2
        go_roundw
        case rel => exact ⟨k + 1, by omega, by go_num, hst.out.trans hp, hB⟩
        case measure => simp [intOf]; omega
      | true =>
        go_wp2
        go_ret
        exact ⟨_, rfl, by rw [HFI.out hp]; simp, hB⟩
    · go_wp2
      go_ret
      refine ⟨_, rfl, ?_, hb⟩
      have := hx.out
      rw [List.take_of_length_le (by omega)] at this
      rw [this]; rfl

theorem containsFunc_sp (f : Nat) (hF : IsFn f) (cap : Array Value) (p : Sp → Bool) (v : Value) (l : List Sp) (w : World) (h : RSps w v l) (hf : Tells f cap VSp w l p) :
    Calls Tryz.prog 116 #[v, .func (.func f) #[] cap] w fun e w' => e = .returned (.bool (l.any p)) ∧ Below w.heap.size w w' := by
  go_enter Tryz.func116, Tryz.ntmps116
  go_wp2_with fail
  refine (indexFunc_sp f hF cap p v l _ h hf).mono ?_
  rintro e w1 ⟨n, rfl, hn, hb1⟩
  have HN := Lib.hid hn
  clear hn
  go_wp2
  go_ret
  exact ⟨ret_bool HN.out, hb1⟩

set_option maxRecDepth 100000 in
theorem indexFunc_mat (f : Nat) (hF : IsFn f) (cap : Array Value) (p : Mat → Bool) (v : Value) (l : List Mat) (w : World) (h : RMats w v l) (hf : Tells f cap VMat w l p) :
    Calls Tryz.prog 125 #[v, .func (.func f) #[] cap] w fun e w' => ∃ n : Int, e = .returned (.int .i64 n) ∧ decide (0 ≤ n) = l.any p ∧ Below w.heap.size w w' := by
  obtain ⟨a, kap, rfl, hc1, ⟨hc2, hm⟩, hl⟩ := h
  go_enter Tryz.func125, Tryz.ntmps125
  go_wp2
  go_loopw [8] (fun i wr => ∃ (k : Nat), k ≤ l.length ∧ i = .int .i64 k ∧ Hid ((l.take k).any p = false) ∧ Below w.heap.size w wr) (fun i _ => l.length - (intOf i).toNat)
  case atStart => exact ⟨0, Nat.zero_le _, rfl, by simp [Hid], Below.refl _ _⟩
  case round =>
    obtain ⟨k, hk, rfl, hx, hb⟩ := hrel
    by_cases hlt : k < l.length
    · obtain ⟨b, off, rfl, c, ⟨h0, h1, h2, h3, h4, h5, h6⟩, h7, h8⟩ := hl k hlt
      have hbl := cell_lt h0
      have hf' := hf l[k] (.agg #[.string l[k].name, .int .i64 l[k].price, .int .i64 l[k].redox, .int .i64 l[k].least, .int .i64 l[k].most, .int .i64 l[k].step, c]) _ (List.getElem_mem hlt) (⟨c, rfl, h7, h8⟩) hb
      obtain ⟨hc, hz⟩ := bcell hb
      simp only at h0 h1 h2 h3 h4 h5 h6 hbl
      have hst := Lib.hid (any_take l p k hlt hx.out)
      have hfi := any_of l p k hlt
      clear hf hl hc1 h7 h8
      generalize l[k] = s at *
      have HFI := Lib.hid hfi
      clear hfi
      unfold IsFn at hF
      go_wp2_with fail
      refine hf'.mono ?_
      rintro e w1 ⟨rfl, hb1⟩
      have hB := hb.trans (hb1.mono hb.size)
      cases hp : p s with
      | false =>
        go_wp2
        go_roundw
        case rel => exact ⟨k + 1, by omega, by go_num, hst.out.trans hp, hB⟩
        case measure => simp [intOf]; omega
      | true =>
        go_wp2
        go_ret
        exact ⟨_, rfl, by rw [HFI.out hp]; simp, hB⟩
    · go_wp2
      go_ret
      refine ⟨_, rfl, ?_, hb⟩
      have := hx.out
      rw [List.take_of_length_le (by omega)] at this
      rw [this]; rfl

theorem containsFunc_mat (f : Nat) (hF : IsFn f) (cap : Array Value) (p : Mat → Bool) (v : Value) (l : List Mat) (w : World) (h : RMats w v l) (hf : Tells f cap VMat w l p) :
    Calls Tryz.prog 113 #[v, .func (.func f) #[] cap] w fun e w' => e = .returned (.bool (l.any p)) ∧ Below w.heap.size w w' := by
  go_enter Tryz.func113, Tryz.ntmps113
  go_wp2_with fail
  refine (indexFunc_mat f hF cap p v l _ h hf).mono ?_
  rintro e w1 ⟨n, rfl, hn, hb1⟩
  have HN := Lib.hid hn
  clear hn
  go_wp2
  go_ret
  exact ⟨ret_bool HN.out, hb1⟩

set_option maxRecDepth 100000 in
theorem indexFunc_prp (f : Nat) (hF : IsFn f) (cap : Array Value) (p : Prp → Bool) (v : Value) (l : List Prp) (w : World) (h : RPrps w v l) (hf : Tells f cap VPrp w l p) :
    Calls Tryz.prog 127 #[v, .func (.func f) #[] cap] w fun e w' => ∃ n : Int, e = .returned (.int .i64 n) ∧ decide (0 ≤ n) = l.any p ∧ Below w.heap.size w w' := by
  obtain ⟨a, kap, rfl, hc1, ⟨hc2, hm⟩, hl⟩ := h
  go_enter Tryz.func127, Tryz.ntmps127
  go_wp2
  go_loopw [8] (fun i wr => ∃ (k : Nat), k ≤ l.length ∧ i = .int .i64 k ∧ Hid ((l.take k).any p = false) ∧ Below w.heap.size w wr) (fun i _ => l.length - (intOf i).toNat)
  case atStart => exact ⟨0, Nat.zero_le _, rfl, by simp [Hid], Below.refl _ _⟩
  case round =>
    obtain ⟨k, hk, rfl, hx, hb⟩ := hrel
    by_cases hlt : k < l.length
    · obtain ⟨b, off, rfl, c, ⟨h0, h1, h2, h3⟩, h7, h8⟩ := hl k hlt
      have hbl := cell_lt h0
      have hf' := hf l[k] (.agg #[.string l[k].name, c, .int .i64 l[k].target.lo, .int .i64 l[k].target.hi]) _ (List.getElem_mem hlt) (⟨c, rfl, h7, h8⟩) hb
      obtain ⟨hc, hz⟩ := bcell hb
      simp only at h0 h1 h2 h3 hbl
      have hst := Lib.hid (any_take l p k hlt hx.out)
      have hfi := any_of l p k hlt
      clear hf hl hc1 h7 h8
      generalize l[k] = s at *
      have HFI := Lib.hid hfi
      clear hfi
      unfold IsFn at hF
      go_wp2_with fail
      refine hf'.mono ?_
      rintro e w1 ⟨rfl, hb1⟩
      have hB := hb.trans (hb1.mono hb.size)
      cases hp : p s with
      | false =>
        go_wp2
        go_roundw
        case rel => exact ⟨k + 1, by omega, by go_num, hst.out.trans hp, hB⟩
        case measure => simp [intOf]; omega
      | true =>
        go_wp2
        go_ret
        exact ⟨_, rfl, by rw [HFI.out hp]; simp, hB⟩
    · go_wp2
      go_ret
      refine ⟨_, rfl, ?_, hb⟩
      have := hx.out
      rw [List.take_of_length_le (by omega)] at this
      rw [this]; rfl

theorem containsFunc_prp (f : Nat) (hF : IsFn f) (cap : Array Value) (p : Prp → Bool) (v : Value) (l : List Prp) (w : World) (h : RPrps w v l) (hf : Tells f cap VPrp w l p) :
    Calls Tryz.prog 118 #[v, .func (.func f) #[] cap] w fun e w' => e = .returned (.bool (l.any p)) ∧ Below w.heap.size w w' := by
  go_enter Tryz.func118, Tryz.ntmps118
  go_wp2_with fail
  refine (indexFunc_prp f hF cap p v l _ h hf).mono ?_
  rintro e w1 ⟨n, rfl, hn, hb1⟩
  have HN := Lib.hid hn
  clear hn
  go_wp2
  go_ret
  exact ⟨ret_bool HN.out, hb1⟩

end Go.Proofs.YtaldpalhckdcdaaGreatDoor.B1
namespace Go.Proofs.YtaldpalhckdcdaaGreatDoor.B1
open Go.RowKit Go.PlainAid
set_option linter.unusedVariables false
def letB (c : Int) : Bool := decide (97 ≤ c) && decide (c ≤ 122)

def chB (c : Int) : Bool := letB c || c == 45 || (decide (48 ≤ c) && decide (c ≤ 57))

/-- the bytes of a string from place k on are those of a name. -/
def chsB (s : ByteArray) (k : Nat) : Bool := (List.range' k (s.size - k)).all fun i => chB (bt s i)

def nameB (s : ByteArray) : Bool := decide (1 ≤ s.size) && decide (s.size ≤ 16) && letB (bt s 0) && chsB s 0

theorem chsB_end (s : ByteArray) (k : Nat) (h : s.size ≤ k) : chsB s k = true := by unfold chsB; rw [show s.size - k = 0 from by omega]; rfl

theorem chsB_step (s : ByteArray) (k : Nat) (h : k < s.size) : chsB s k = (chB (bt s k) && chsB s (k + 1)) := by
  unfold chsB
  obtain ⟨n, hn⟩ : ∃ n, s.size - k = n + 1 := ⟨s.size - k - 1, by omega⟩
  rw [hn, show s.size - (k + 1) = n from by omega, List.range'_succ, List.all_cons]

theorem letter_any (n : Int) (w : World) :
    Calls Tryz.prog 123 #[.int .u8 n] w fun e w' => e = .returned (.bool (letB n)) ∧ w = w' := isLetter_any n w

set_option maxRecDepth 100000 in
theorem isName_any (s : ByteArray) (w : World) (hm : s.size ≤ 140737488351232) :
    Calls Tryz.prog 111 #[.string s] w fun e w' => e = .returned (.bool (nameB s)) ∧ w = w' := by
  by_cases h0 : s.size = 0
  · have hn : nameB s = false := by simp [nameB, h0]
    rw [hn]
    have h1 : ((s.size : Int) == 0) = true := by simp [h0]
    clear hn
    go_enter Tryz.func111, Tryz.ntmps111
    go_wp2
    go_ret
    exact ⟨rfl, rfl⟩
  have h1 : ((s.size : Int) == 0) = false := by simp [h0]
  by_cases h16 : 16 < s.size
  · have hn : nameB s = false := by unfold nameB; rw [decide_eq_false (p := s.size ≤ 16) (by omega)]; simp
    rw [hn]
    clear hn
    go_enter Tryz.func111, Tryz.ntmps111
    go_wp2
    go_ret
    exact ⟨rfl, rfl⟩
  have hlt0 : 0 < s.size := by omega
  have h16b : decide ((16 : Int) < (s.size : Int)) = false := decide_eq_false (by omega)
  cases hl : letB (bt s 0) with
  | false =>
    have hn : nameB s = false := by simp [nameB, hl]
    rw [hn]
    clear hn
    have HL := Lib.hid hl
    have hg := get_bt s 0 hlt0
    clear hl
    go_enter Tryz.func111, Tryz.ntmps111
    go_wp2_with fail
    refine (letter_any _ _).mono ?_
    rintro e w1 ⟨rfl, rfl⟩
    rw [HL.out]
    go_wp2
    go_ret
    exact ⟨rfl, rfl⟩
  | true =>
    have hn : nameB s = chsB s 0 := by simp [nameB, hl]; omega
    rw [hn]
    clear hn
    have HL := Lib.hid hl
    have hg := get_bt s 0 hlt0
    clear hl
    go_enter Tryz.func111, Tryz.ntmps111
    go_wp2_with fail
    refine (letter_any _ _).mono ?_
    rintro e w1 ⟨rfl, rfl⟩
    rw [HL.out]
    clear hg
    go_wp2
    go_loop [21] (fun i => ∃ k : Nat, k ≤ s.size ∧ i = .int .i64 k ∧ Hid (chsB s 0 = chsB s k)) (fun i => s.size - (intOf i).toNat)
    case atStart => exact ⟨0, by omega, rfl, rfl⟩
    case round =>
      obtain ⟨k, hk, rfl, hx⟩ := hrel
      clear HL h0 h1 h16 h16b
      by_cases hlt : k < s.size
      · have hst := Lib.hid (chsB_step s k hlt)
        have hg := get_bt s k hlt
        have hge := bt_nonneg s k
        have hle := bt_le s k
        have hfin : ∀ x, chB (bt s k) = x → Hid (chsB s 0 = (x && chsB s (k + 1))) := fun x e => by
          unfold Hid; rw [hx.out, hst.out, e]
        clear hx hst
        generalize bt s k = c at *
        cases hl : letB c with
        | true =>
          have HX := hfin true (by simp [chB, hl])
          have HL := Lib.hid hl
          clear hl hfin
          go_wp2_with fail
          refine (letter_any _ _).mono ?_
          rintro e w1 ⟨rfl, rfl⟩
          rw [HL.out]
          go_wp2
          go_round
          case rel => exact ⟨k + 1, by omega, by go_num, by have := HX.out; simpa [Hid] using this⟩
          case measure => simp [intOf]; omega
        | false =>
          have HL := Lib.hid hl
          by_cases hd : c = 45
          · have HX := hfin true (by simp [chB, hd])
            clear hl hfin
            have hb : (c != 45) = false := by simp [hd]
            clear hd
            go_wp2_with fail
            refine (letter_any _ _).mono ?_
            rintro e w1 ⟨rfl, rfl⟩
            rw [HL.out]
            go_wp2
            go_round
            case rel => exact ⟨k + 1, by omega, by go_num, by have := HX.out; simpa [Hid] using this⟩
            case measure => simp [intOf]; omega
          · have hb : (c != 45) = true := by simp [hd]
            by_cases h48 : c < 48
            · have HX := hfin false (by simp [chB, hl, hd]; omega)
              clear hl hfin hd
              go_wp2_with fail
              refine (letter_any _ _).mono ?_
              rintro e w1 ⟨rfl, rfl⟩
              rw [HL.out]
              go_wp2
              go_ret
              exact ⟨ret_bool (by have := HX.out; simpa using this.symm), rfl⟩
            · by_cases h57 : 57 < c
              · have HX := hfin false (by simp [chB, hl, hd]; omega)
                clear hl hfin hd
                go_wp2_with fail
                refine (letter_any _ _).mono ?_
                rintro e w1 ⟨rfl, rfl⟩
                rw [HL.out]
                go_wp2
                go_ret
                exact ⟨ret_bool (by have := HX.out; simpa using this.symm), rfl⟩
              · have HX := hfin true (by simp [chB, hl, hd]; omega)
                clear hl hfin hd
                go_wp2_with fail
                refine (letter_any _ _).mono ?_
                rintro e w1 ⟨rfl, rfl⟩
                rw [HL.out]
                go_wp2
                go_round
                case rel => exact ⟨k + 1, by omega, by go_num, by have := HX.out; simpa [Hid] using this⟩
                case measure => simp [intOf]; omega
      · have hfin : chsB s 0 = true := by rw [hx.out, chsB_end s k (by omega)]
        have HF := Lib.hid hfin
        clear hx hfin
        go_wp2
        go_ret
        exact ⟨ret_bool HF.out.symm, rfl⟩

end Go.Proofs.YtaldpalhckdcdaaGreatDoor.B1
namespace Go.Proofs.YtaldpalhckdcdaaGreatDoor.B1
open Go.RowKit Go.PlainAid
set_option linter.unusedVariables false
def eqS (a b : ByteArray) : Bool := a.toList == b.toList

theorem eqS_comm (a b : ByteArray) : eqS a b = eqS b a := by unfold eqS; exact Bool.beq_comm

set_option maxRecDepth 100000 in
theorem index_any (v : Value) (l : List ByteArray) (x : ByteArray) (w : World) (h : RStrs w v l) :
    Calls Tryz.prog 124 #[v, .string x] w fun e w' => ∃ n : Int, e = .returned (.int .i64 n) ∧ decide (0 ≤ n) = l.any (fun y => eqS y x) ∧ w = w' := by
  obtain ⟨a, kap, rfl, hc1, ⟨hc2, hm⟩, hl⟩ := h
  go_enter Tryz.func124, Tryz.ntmps124
  go_wp2
  go_loop [8] (fun i => ∃ (k : Nat), k ≤ l.length ∧ i = .int .i64 k ∧ Hid ((l.take k).any (fun y => eqS y x) = false)) (fun i => l.length - (intOf i).toNat)
  case atStart => exact ⟨0, Nat.zero_le _, rfl, by simp [Hid]⟩
  case round =>
    obtain ⟨k, hk, rfl, hx⟩ := hrel
    by_cases hlt : k < l.length
    · obtain ⟨b, off, rfl, h1, h2⟩ := hl k hlt
      simp only [Nat.mul_one] at h1
      have hst := Lib.hid (any_take l (fun y => eqS y x) k hlt hx.out)
      have hfi := Lib.hid (any_of l (fun y => eqS y x) k hlt)
      clear hl hc1 h2
      generalize l[k] = s at *
      go_wp2
      · have hq : (x.toList == s.toList) = true := by assumption
        go_ret
        exact ⟨_, rfl, by rw [hfi.out (by rw [eqS_comm]; exact hq)]; simp, rfl⟩
      · have hq : (x.toList == s.toList) = false := by assumption
        go_round
        case rel => exact ⟨k + 1, by omega, by go_num, hst.out.trans (by rw [eqS_comm]; exact hq)⟩
        case measure => simp [intOf]; omega
    · go_wp2
      go_ret
      refine ⟨_, rfl, ?_, rfl⟩
      have := hx.out
      rw [List.take_of_length_le (by omega)] at this
      rw [this]; rfl

theorem contains_any (v : Value) (l : List ByteArray) (x : ByteArray) (w : World) (h : RStrs w v l) :
    Calls Tryz.prog 112 #[v, .string x] w fun e w' => e = .returned (.bool (l.any (fun y => eqS y x))) ∧ w = w' := by
  go_enter Tryz.func112, Tryz.ntmps112
  go_wp2_with fail
  refine (index_any v l x _ h).mono ?_
  rintro e w1 ⟨n, rfl, hn, rfl⟩
  have HN := Lib.hid hn
  clear hn
  go_wp2
  go_ret
  exact ⟨ret_bool HN.out, rfl⟩

/-- named things one behind the other: the first error, behind those that were seen. -/
def seqB {α : Type} (name : α → ByteArray) (chk : α → Int) : List α → List α → Int
  | _, [] => 0
  | seen, x :: t => if nameB (name x) = false then 5 else if seen.any (fun y => eqS (name y) (name x)) = true then 6 else if chk x = 0 then seqB name chk (seen ++ [x]) t else chk x

theorem seqB_end {α : Type} (name : α → ByteArray) (chk : α → Int) (l : List α) (k : Nat) (h : l.length ≤ k) : seqB name chk (l.take k) (l.drop k) = 0 := by
  rw [List.drop_eq_nil_of_le h, seqB]

theorem seqB_step {α : Type} (name : α → ByteArray) (chk : α → Int) (l : List α) (k : Nat) (h : k < l.length) :
    seqB name chk (l.take k) (l.drop k) = if nameB (name l[k]) = false then 5 else if (l.take k).any (fun y => eqS (name y) (name l[k])) = true then 6 else if chk l[k] = 0 then seqB name chk (l.take (k + 1)) (l.drop (k + 1)) else chk l[k] := by
  rw [List.drop_eq_getElem_cons h, seqB, ← List.take_succ_eq_append_getElem h]

def oxB (l : List ByteArray) : Int := if 12 < l.length then 3 else if l.length = 0 then 1 else seqB (fun x => x) (fun _ => 0) [] l

set_option maxRecDepth 100000 in
theorem checkOxides_any (v : Value) (l : List ByteArray) (w : World) (h : RStrs w v l) :
    Calls Tryz.prog 103 #[v] w fun e w' => e = .returned (.int .i64 (oxB l)) ∧ w = w' := by
  have hR := h
  obtain ⟨a, kap, rfl, hc1, ⟨hc2, hm⟩, hl⟩ := h
  by_cases h12 : 12 < l.length
  · have he : oxB l = 3 := by simp [oxB, h12]
    rw [he]; clear he hl
    go_enter Tryz.func103, Tryz.ntmps103
    go_wp2
    go_ret
    exact ⟨rfl, rfl⟩
  by_cases h0 : l.length = 0
  · have he : oxB l = 1 := by simp [oxB, h0]
    rw [he]; clear he hl
    have h1 : ((l.length : Int) == 0) = true := by simp [h0]
    clear h0
    go_enter Tryz.func103, Tryz.ntmps103
    go_wp2
    go_ret
    exact ⟨rfl, rfl⟩
  have he : oxB l = seqB (fun x => x) (fun _ => 0) [] l := by simp [oxB, h12, h0]
  rw [he]; clear he
  have h1 : ((l.length : Int) == 0) = false := by simp [h0]
  have h2 : decide ((12 : Int) < (l.length : Int)) = false := decide_eq_false (by omega)
  clear h0
  go_enter Tryz.func103, Tryz.ntmps103
  go_wp2
  go_loop [13] (fun i => ∃ (k : Nat), k ≤ l.length ∧ i = .int .i64 k ∧ Hid (seqB (fun x => x) (fun _ => 0) [] l = seqB (fun x => x) (fun _ => 0) (l.take k) (l.drop k))) (fun i => l.length - (intOf i).toNat)
  case atStart => exact ⟨0, Nat.zero_le _, rfl, rfl⟩
  case round =>
    obtain ⟨k, hk, rfl, hx⟩ := hrel
    clear h1 h2 h12
    by_cases hlt : k < l.length
    · obtain ⟨b, off, rfl, h1, h2⟩ := hl k hlt
      simp only [Nat.mul_one] at h1
      have hst := Lib.hid (seqB_step (fun x => x) (fun _ => 0) l k hlt)
      have hT := hR.take k hk
      clear hl
      generalize l[k] = s at *
      go_wp2_with fail
      refine (isName_any s _ h2).mono ?_
      rintro e w1 ⟨rfl, rfl⟩
      cases hn : nameB s with
      | false =>
        have hfin := hx.out.trans hst.out
        rw [if_pos hn] at hfin
        have HF := Lib.hid hfin
        clear hfin hn
        go_wp2
        go_ret
        exact ⟨ret_int HF.out.symm, rfl⟩
      | true =>
        go_wp2_with fail
        refine (contains_any _ _ s _ hT).mono ?_
        rintro e w1 ⟨rfl, rfl⟩
        cases hs : (l.take k).any (fun y => eqS y s) with
        | true =>
          have hfin := hx.out.trans hst.out
          rw [if_neg (by simp [hn]), if_pos hs] at hfin
          have HF := Lib.hid hfin
          clear hfin hn hs
          go_wp2
          go_ret
          exact ⟨ret_int HF.out.symm, rfl⟩
        | false =>
          have hfin := hx.out.trans hst.out
          rw [if_neg (by simp [hn]), if_neg (by simp [hs]), if_true] at hfin
          have HF := Lib.hid hfin
          clear hfin hn hs
          go_wp2
          go_round
          case rel => exact ⟨k + 1, by omega, by go_num, HF⟩
          case measure => simp [intOf]; omega
    · have hfin := hx.out
      rw [seqB_end _ _ _ _ (by omega)] at hfin
      have HF := Lib.hid hfin
      clear hfin hx
      go_wp2
      go_ret
      exact ⟨ret_int HF.out.symm, rfl⟩

end Go.Proofs.YtaldpalhckdcdaaGreatDoor.B1
namespace Go.Proofs.YtaldpalhckdcdaaGreatDoor.B1
open Go.RowKit Go.PlainAid
set_option linter.unusedVariables false
def betweenB (n a b : Int) : Bool := decide (a ≤ n) && decide (n ≤ b)

def withinB (s : Sp) (a b : Int) : Bool := decide (a ≤ s.lo) && decide (s.lo ≤ s.hi) && decide (s.hi ≤ b)

def allWithinB (l : List Sp) (n a b : Int) : Bool := ((l.length : Int) == n) && !(l.any fun s => !withinB s a b)

def allBetweenB (l : List Int) (n a b : Int) : Bool := ((l.length : Int) == n) && !(l.any fun s => !betweenB s a b)

theorem withinS (s : Sp) (a b : Int) (w : World) :
    Calls Tryz.prog 107 #[.agg #[.int .i64 s.lo, .int .i64 s.hi], .int .i64 a, .int .i64 b] w fun e w' => e = .returned (.bool (withinB s a b)) ∧ Below w.heap.size w w' := within_any _ _ _ _ _

theorem betweenN (n a b : Int) (w : World) :
    Calls Tryz.prog 55 #[.int .i64 n, .int .i64 a, .int .i64 b] w fun e w' => e = .returned (.bool (betweenB n a b)) ∧ w = w' := between_any _ _ _ _

theorem not_within (s : Sp) (k1 k2 : Nat) (a b : Int) (w : World) (h1 : w.cell? ⟨k1, 0, none⟩ = some (.int .i64 a)) (h2 : w.cell? ⟨k2, 0, none⟩ = some (.int .i64 b)) :
    Calls Tryz.prog 117 #[.agg #[.int .i64 s.lo, .int .i64 s.hi], .pointer (some ⟨k1, 0, none⟩), .pointer (some ⟨k2, 0, none⟩)] w fun e w' => e = .returned (.bool (!withinB s a b)) ∧ Below w.heap.size w w' := by
  have b1 := cell_lt h1
  have b2 := cell_lt h2
  simp only at b1 b2
  go_enter Tryz.func117, Tryz.ntmps117
  go_wp2_with fail
  refine (withinS s _ _ _).mono ?_
  rintro e w1 ⟨rfl, hb1⟩
  go_wp2
  go_ret
  exact ⟨rfl, (Below.alloc (Below.refl _ _) (Nat.le_refl _) _).trans (hb1.mono (by simp))⟩

theorem not_between (n : Int) (k1 k2 : Nat) (a b : Int) (w : World) (h1 : w.cell? ⟨k1, 0, none⟩ = some (.int .i64 a)) (h2 : w.cell? ⟨k2, 0, none⟩ = some (.int .i64 b)) :
    Calls Tryz.prog 121 #[.int .i64 n, .pointer (some ⟨k1, 0, none⟩), .pointer (some ⟨k2, 0, none⟩)] w fun e w' => e = .returned (.bool (!betweenB n a b)) ∧ Below w.heap.size w w' := by
  go_enter Tryz.func121, Tryz.ntmps121
  go_wp2_with fail
  refine (betweenN _ _ _ _).mono ?_
  rintro e w1 ⟨rfl, rfl⟩
  go_wp2
  go_ret
  exact ⟨rfl, Below.refl _ _⟩

theorem isFn_within : IsFn 117 := fun xs w => by kernel_rfl

theorem isFn_between : IsFn 121 := fun xs w => by kernel_rfl

theorem two_boxes (w : World) (a b : Value) (t u : TypeId) :
    Blk ((w.alloc (.cells #[a] t)).alloc (.cells #[b] u)) w.heap.size #[a] t ∧ Blk ((w.alloc (.cells #[a] t)).alloc (.cells #[b] u)) (w.heap.size + 1) #[b] u := by
  refine ⟨(Blk.new w #[a] t).alloc _, ?_⟩
  have := Blk.new (w.alloc (.cells #[a] t)) #[b] u
  simpa using this

theorem below_two (w : World) (a b : Obj) : Below w.heap.size w ((w.alloc a).alloc b) := by go_grown

theorem tells_within (l : List Sp) (a b : Int) (w : World) (t u : TypeId) :
    Tells 117 #[.pointer (some ⟨w.heap.size, 0, none⟩), .pointer (some ⟨w.heap.size + 1, 0, none⟩)] VSp ((w.alloc (.cells #[.int .i64 a] t)).alloc (.cells #[.int .i64 b] u)) l (fun s => !withinB s a b) := by
  rintro x v w1 hx ⟨rfl, _, _⟩ hb
  obtain ⟨B1, B2⟩ := two_boxes w (.int .i64 a) (.int .i64 b) t u
  exact not_within x _ _ a b w1 ((B1.below hb (by simp; omega)).cell 0 _ rfl) ((B2.below hb (by simp)).cell 0 _ rfl)

theorem tells_between (l : List Int) (a b : Int) (w : World) (t u : TypeId) :
    Tells 121 #[.pointer (some ⟨w.heap.size, 0, none⟩), .pointer (some ⟨w.heap.size + 1, 0, none⟩)] VInt ((w.alloc (.cells #[.int .i64 a] t)).alloc (.cells #[.int .i64 b] u)) l (fun s => !betweenB s a b) := by
  rintro x v w1 hx ⟨rfl, _⟩ hb
  obtain ⟨B1, B2⟩ := two_boxes w (.int .i64 a) (.int .i64 b) t u
  exact not_between x _ _ a b w1 ((B1.below hb (by simp; omega)).cell 0 _ rfl) ((B2.below hb (by simp)).cell 0 _ rfl)

theorem allWithin_any (v : Value) (l : List Sp) (n a b : Int) (w : World) (h : RSps w v l) :
    Calls Tryz.prog 105 #[v, .int .i64 n, .int .i64 a, .int .i64 b] w fun e w' => e = .returned (.bool (allWithinB l n a b)) ∧ Below w.heap.size w w' := by
  have hR := h
  obtain ⟨p, kap, rfl, hc1, ⟨hc2, hm⟩, hl⟩ := h
  clear hl
  cases hn : ((l.length : Int) == n) with
  | false =>
    have he : allWithinB l n a b = false := by simp only [allWithinB, hn, Bool.false_and]
    rw [he]; clear he hR
    go_enter Tryz.func105, Tryz.ntmps105
    go_wp2
    go_ret
    exact ⟨rfl, by go_grown⟩
  | true =>
    have he : allWithinB l n a b = !(l.any fun s => !withinB s a b) := by simp only [allWithinB, hn, Bool.true_and]
    rw [he]; clear he
    go_enter Tryz.func105, Tryz.ntmps105
    go_wp2_with fail
    refine (containsFunc_sp _ isFn_within _ (fun s => !withinB s a b) _ l _ (hR.mono (ext_of_below (below_two _ _ _))) (tells_within l a b w _ _)).mono ?_
    rintro e w1 ⟨rfl, hb1⟩
    go_wp2
    go_ret
    exact ⟨rfl, (below_two _ _ _).trans (hb1.mono (by simp; omega))⟩

theorem allBetween_any (v : Value) (l : List Int) (n a b : Int) (w : World) (h : RInts w v l) :
    Calls Tryz.prog 108 #[v, .int .i64 n, .int .i64 a, .int .i64 b] w fun e w' => e = .returned (.bool (allBetweenB l n a b)) ∧ Below w.heap.size w w' := by
  have hR := h
  obtain ⟨p, kap, rfl, hc1, ⟨hc2, hm⟩, hl⟩ := h
  clear hl
  cases hn : ((l.length : Int) == n) with
  | false =>
    have he : allBetweenB l n a b = false := by simp only [allBetweenB, hn, Bool.false_and]
    rw [he]; clear he hR
    go_enter Tryz.func108, Tryz.ntmps108
    go_wp2
    go_ret
    exact ⟨rfl, by go_grown⟩
  | true =>
    have he : allBetweenB l n a b = !(l.any fun s => !betweenB s a b) := by simp only [allBetweenB, hn, Bool.true_and]
    rw [he]; clear he
    go_enter Tryz.func108, Tryz.ntmps108
    go_wp2_with fail
    refine (containsFunc_int _ isFn_between _ (fun s => !betweenB s a b) _ l _ (hR.mono (ext_of_below (below_two _ _ _))) (tells_between l a b w _ _)).mono ?_
    rintro e w1 ⟨rfl, hb1⟩
    go_wp2
    go_ret
    exact ⟨rfl, (below_two _ _ _).trans (hb1.mono (by simp; omega))⟩

end Go.Proofs.YtaldpalhckdcdaaGreatDoor.B1
namespace Go.Proofs.YtaldpalhckdcdaaGreatDoor.B1
open Go.RowKit Go.PlainAid
set_option linter.unusedVariables false
def numB (m : Mat) (n : Int) : Int :=
  if (betweenB m.price 0 10000 && betweenB m.redox (-1000) 1000) = false then 1
  else if (betweenB m.least 0 10000 && betweenB m.most m.least 10000 && betweenB m.step 1 10000) = false then 1
  else if allWithinB m.content n 0 1000 = false then 1
  else if 1000 < (tot m.content).lo then 12 else 0

theorem field_lo (x y : Value) (w : World) : Sem.run Tryz.prog (Instr.field 27 (.agg #[x, y]) 0) w = .ok x w := by kernel_rfl

theorem below_box (w : World) (a : Obj) : Below w.heap.size w (w.alloc a) := by go_grown

set_option maxRecDepth 100000 in
theorem checkNumbers_any (m : Mat) (c : Value) (n : Int) (w : World) (h : RSps w c m.content) :
    Calls Tryz.prog 115 #[.agg #[.string m.name, .int .i64 m.price, .int .i64 m.redox, .int .i64 m.least, .int .i64 m.most, .int .i64 m.step, c], .int .i64 n] w fun e w' => e = .returned (.int .i64 (numB m n)) ∧ Below w.heap.size w w' := by
  have hA := below_box w (.cells #[.string m.name, .int .i64 m.price, .int .i64 m.redox, .int .i64 m.least, .int .i64 m.most, .int .i64 m.step, c] 105)
  have hB := Blk.new w #[.string m.name, .int .i64 m.price, .int .i64 m.redox, .int .i64 m.least, .int .i64 m.most, .int .i64 m.step, c] 105
  go_enter Tryz.func115, Tryz.ntmps115
  go_wp2_with fail
  refine (betweenN _ _ _ _).mono ?_
  rintro e w1 ⟨rfl, rfl⟩
  cases h1 : betweenB m.price 0 10000 with
  | false => go_wp2; go_ret; exact ⟨ret_int (by simp [numB, h1]), hA⟩
  | true =>
  go_wp2_with fail
  refine (betweenN _ _ _ _).mono ?_
  rintro e w1 ⟨rfl, rfl⟩
  cases h2 : betweenB m.redox (-1000) 1000 with
  | false => go_wp2; go_ret; exact ⟨ret_int (by simp [numB, h2]), hA⟩
  | true =>
  go_wp2_with fail
  refine (betweenN _ _ _ _).mono ?_
  rintro e w1 ⟨rfl, rfl⟩
  cases h3 : betweenB m.least 0 10000 with
  | false => go_wp2; go_ret; exact ⟨ret_int (by simp [numB, h1, h2, h3]), hA⟩
  | true =>
  go_wp2_with fail
  refine (betweenN _ _ _ _).mono ?_
  rintro e w1 ⟨rfl, rfl⟩
  cases h4 : betweenB m.most m.least 10000 with
  | false => go_wp2; go_ret; exact ⟨ret_int (by simp [numB, h1, h2, h3, h4]), hA⟩
  | true =>
  go_wp2_with fail
  refine (betweenN _ _ _ _).mono ?_
  rintro e w1 ⟨rfl, rfl⟩
  cases h5 : betweenB m.step 1 10000 with
  | false => go_wp2; go_ret; exact ⟨ret_int (by simp [numB, h1, h2, h3, h4, h5]), hA⟩
  | true =>
  go_wp2_with fail
  refine (allWithin_any c m.content n 0 1000 _ (h.mono (ext_of_below hA))).mono ?_
  rintro e w1 ⟨rfl, hb1⟩
  have hA1 := hA.trans (hb1.mono (by simp))
  have B1 := hB.below hb1 (by simp)
  have c6 : w1.cell? ⟨w.heap.size, 6, none⟩ = some c := B1.cell 6 _ rfl
  clear hb1 hB hA B1
  cases h6 : allWithinB m.content n 0 1000 with
  | false => go_wp2; go_ret; exact ⟨ret_int (by simp [numB, h1, h2, h3, h4, h5, h6]), hA1⟩
  | true =>
  go_wp2_with fail
  refine (total_any c m.content _ (h.mono (ext_of_below hA1))).mono ?_
  rintro e w2 ⟨rfl, hb2⟩
  have hA2 := hA1.trans (hb2.mono hA1.size)
  clear hb2 hA1
  have hfd := fun w => field_lo (.int .i64 (tot m.content).lo) (.int .i64 (tot m.content).hi) w
  by_cases h7 : 1000 < (tot m.content).lo
  · go_wp2; go_ret; exact ⟨ret_int (by simp [numB, h1, h2, h3, h4, h5, h6, h7]), hA2⟩
  · go_wp2; go_ret; exact ⟨ret_int (by simp [numB, h1, h2, h3, h4, h5, h6, h7]), hA2⟩

theorem checkNumbers_v (m : Mat) (v : Value) (n : Int) (w : World) (h : VMat w v m) :
    Calls Tryz.prog 115 #[v, .int .i64 n] w fun e w' => e = .returned (.int .i64 (numB m n)) ∧ Below w.heap.size w w' := by
  obtain ⟨c, rfl, h1, _⟩ := h
  exact checkNumbers_any m c n w h1

end Go.Proofs.YtaldpalhckdcdaaGreatDoor.B1
namespace Go.Proofs.YtaldpalhckdcdaaGreatDoor.B1
open Go.RowKit Go.PlainAid
set_option linter.unusedVariables false
def matsB (l : List Mat) (n : Int) : Int := if 12 < l.length then 3 else if l.length = 0 then 1 else seqB Mat.name (fun m => numB m n) [] l

theorem same_mat (m : Mat) (v : Value) (p : Nat) (x : ByteArray) (w : World) (h : VMat w v m) (h1 : w.cell? ⟨p, 0, none⟩ = some (.string x)) :
    Calls Tryz.prog 114 #[v, .pointer (some ⟨p, 0, none⟩)] w fun e w' => e = .returned (.bool (eqS m.name x)) ∧ Below w.heap.size w w' := by
  obtain ⟨c, rfl, h2, _⟩ := h
  have b1 := cell_lt h1
  simp only at b1
  clear h2
  go_enter Tryz.func114, Tryz.ntmps114
  go_wp2
  go_ret
  exact ⟨rfl, by go_grown⟩

theorem isFn_sameMat : IsFn 114 := fun xs w => by kernel_rfl

theorem same_prp (m : Prp) (v : Value) (p : Nat) (x : ByteArray) (w : World) (h : VPrp w v m) (h1 : w.cell? ⟨p, 0, none⟩ = some (.string x)) :
    Calls Tryz.prog 119 #[v, .pointer (some ⟨p, 0, none⟩)] w fun e w' => e = .returned (.bool (eqS m.name x)) ∧ Below w.heap.size w w' := by
  obtain ⟨c, rfl, h2, _⟩ := h
  have b1 := cell_lt h1
  simp only at b1
  clear h2
  go_enter Tryz.func119, Tryz.ntmps119
  go_wp2
  go_ret
  exact ⟨rfl, by go_grown⟩

theorem isFn_samePrp : IsFn 119 := fun xs w => by kernel_rfl

theorem tells_mat (l : List Mat) (p : Nat) (x : ByteArray) (w : World) (h1 : w.cell? ⟨p, 0, none⟩ = some (.string x)) :
    Tells 114 #[.pointer (some ⟨p, 0, none⟩)] VMat w l (fun m => eqS m.name x) :=
  fun m v w1 _ hv hb => same_mat m v p x w1 (hv.mono (ext_of_below hb)) (ext_of_below hb _ _ h1)

theorem tells_prp (l : List Prp) (p : Nat) (x : ByteArray) (w : World) (h1 : w.cell? ⟨p, 0, none⟩ = some (.string x)) :
    Tells 119 #[.pointer (some ⟨p, 0, none⟩)] VPrp w l (fun m => eqS m.name x) :=
  fun m v w1 _ hv hb => same_prp m v p x w1 (hv.mono (ext_of_below hb)) (ext_of_below hb _ _ h1)

set_option maxRecDepth 100000 in
theorem checkMaterials_any (a0 : Option Addr) (n0 cap0 : Nat) (v1 v2 v3 x4 x5 x6 : Value) (l : List Mat) (w : World) (h : RMats w v1 l) (hn0 : n0 ≤ 140737488351232) :
    Calls Tryz.prog 104 #[.agg #[.slice a0 n0 cap0, v1, v2, v3, x4, x5, x6]] w fun e w' => e = .returned (.int .i64 (matsB l n0)) ∧ Below w.heap.size w w' := by
  have hR := h
  obtain ⟨a, kap, rfl, hc1, ⟨hc2, hm⟩, hl⟩ := h
  have hA := below_box w (.cells #[.slice a0 n0 cap0, .slice a l.length kap, v2, v3, x4, x5, x6] 56)
  by_cases h12 : 12 < l.length
  · have he : matsB l n0 = 3 := by simp [matsB, h12]
    rw [he]; clear he hl
    go_enter Tryz.func104, Tryz.ntmps104
    go_wp2
    go_ret
    exact ⟨rfl, hA⟩
  by_cases h0 : l.length = 0
  · have he : matsB l n0 = 1 := by simp [matsB, h0]
    rw [he]; clear he hl
    have h1 : ((l.length : Int) == 0) = true := by simp [h0]
    clear h0
    go_enter Tryz.func104, Tryz.ntmps104
    go_wp2
    go_ret
    exact ⟨rfl, hA⟩
  have he : matsB l n0 = seqB Mat.name (fun m => numB m n0) [] l := by simp [matsB, h12, h0]
  rw [he]; clear he
  have h1 : ((l.length : Int) == 0) = false := by simp [h0]
  have h2 : decide ((12 : Int) < (l.length : Int)) = false := decide_eq_false (by omega)
  clear h0
  have hB := Blk.new w #[.slice a0 n0 cap0, .slice a l.length kap, v2, v3, x4, x5, x6] 56
  have hsz : w.heap.size + 1 ≤ (w.alloc (.cells #[.slice a0 n0 cap0, .slice a l.length kap, v2, v3, x4, x5, x6] 56)).heap.size := by simp
  have hR0 := hR.mono (ext_of_below hA)
  go_enter Tryz.func104, Tryz.ntmps104
  go_wp2
  generalize w.alloc (.cells #[.slice a0 n0 cap0, .slice a l.length kap, v2, v3, x4, x5, x6] 56) = W at *
  go_loopw [17] (fun i wr => ∃ (k : Nat), k ≤ l.length ∧ i = .int .i64 k ∧ Hid (seqB Mat.name (fun m => numB m n0) [] l = seqB Mat.name (fun m => numB m n0) (l.take k) (l.drop k)) ∧ Below W.heap.size W wr) (fun i _ => l.length - (intOf i).toNat)
  case atStart => exact ⟨0, Nat.zero_le _, rfl, rfl, Below.refl _ _⟩
  case round =>
    obtain ⟨k, hk, rfl, hx, hb⟩ := hrel
    have hfinB := hA.trans (hb.mono (by omega))
    have hsz2 := hb.size
    clear h1 h2 h12
    by_cases hlt : k < l.length
    · have hst := Lib.hid (seqB_step Mat.name (fun m => numB m n0) l k hlt)
      have hRr := hR0.mono (ext_of_below hb)
      obtain ⟨b, off, rfl, c, ⟨g0, g1, g2, g3, g4, g5, g6⟩, hc, hs⟩ := (hl k hlt)
      have hbl := cell_lt g0
      simp only at g0 g1 g2 g3 g4 g5 g6 hbl
      have hlt2 : w.heap.size < wr.heap.size := by omega
      have hcS := hc
      obtain ⟨ac, kc, rfl, -, -, -⟩ := hcS
      have hV : VMat wr (.agg #[.string l[k].name, .int .i64 l[k].price, .int .i64 l[k].redox, .int .i64 l[k].least, .int .i64 l[k].most, .int .i64 l[k].step, .slice ac l[k].content.length kc]) l[k] := ⟨_, rfl, hc.mono (ext_of_below hfinB), hs⟩
      obtain ⟨hcc, hzz⟩ := bcell hfinB
      have hBr := hB.below hb (by omega)
      have e0 : wr.cell? ⟨w.heap.size, 0, none⟩ = some (.slice a0 n0 cap0) := hBr.cell 0 _ rfl
      have e1 : wr.cell? ⟨w.heap.size, 1, none⟩ = some (.slice (some ⟨b, off, none⟩) l.length kap) := hBr.cell 1 _ rfl
      clear hl hc hB hA hR hR0
      generalize l[k] = s at *
      clear hsz hsz2
      go_wp2_with fail
      refine (isName_any s.name _ hs.1).mono ?_
      rintro e w1 ⟨rfl, rfl⟩
      have hAm := below_box wr (.cells #[.string s.name, .int .i64 s.price, .int .i64 s.redox, .int .i64 s.least, .int .i64 s.most, .int .i64 s.step, .slice ac s.content.length kc] 105)
      have hBm := Blk.new wr #[.string s.name, .int .i64 s.price, .int .i64 s.redox, .int .i64 s.least, .int .i64 s.most, .int .i64 s.step, .slice ac s.content.length kc] 105
      cases hn : nameB s.name with
      | false =>
        have hfin := hx.out.trans hst.out
        rw [if_pos hn] at hfin
        have HF := Lib.hid hfin
        clear hfin hn
        go_wp2
        go_ret
        exact ⟨ret_int HF.out.symm, hfinB.trans (hAm.mono (by omega))⟩
      | true =>
        go_wp2_with fail
        refine (containsFunc_mat _ isFn_sameMat _ (fun m => eqS m.name s.name) _ (l.take k) _ (RMats.mono (ext_of_below hAm) (hRr.take k hk)) (tells_mat _ _ _ _ (hBm.cell 0 _ rfl))).mono ?_
        rintro e w1 ⟨rfl, hb1⟩
        have hW1 := hAm.trans (hb1.mono (by simp))
        have hBm1 := hBm.below hb1 (by simp)
        cases hs1 : (l.take k).any (fun m => eqS m.name s.name) with
        | true =>
          have hfin := hx.out.trans hst.out
          rw [if_neg (by simp [hn]), if_pos hs1] at hfin
          have HF := Lib.hid hfin
          clear hfin hn hs1
          go_wp2
          go_ret
          exact ⟨ret_int HF.out.symm, hfinB.trans (hW1.mono (by omega))⟩
        | false =>
          have hfin := hx.out.trans hst.out
          rw [if_neg (by simp [hn]), if_neg (by simp [hs1])] at hfin
          have HF := Lib.hid hfin
          have d0 : w1.cell? ⟨wr.heap.size, 0, none⟩ = some (.string s.name) := hBm1.cell 0 _ rfl
          have d1 : w1.cell? ⟨wr.heap.size, 1, none⟩ = some (.int .i64 s.price) := hBm1.cell 1 _ rfl
          have d2 : w1.cell? ⟨wr.heap.size, 2, none⟩ = some (.int .i64 s.redox) := hBm1.cell 2 _ rfl
          have d3 : w1.cell? ⟨wr.heap.size, 3, none⟩ = some (.int .i64 s.least) := hBm1.cell 3 _ rfl
          have d4 : w1.cell? ⟨wr.heap.size, 4, none⟩ = some (.int .i64 s.most) := hBm1.cell 4 _ rfl
          have d5 : w1.cell? ⟨wr.heap.size, 5, none⟩ = some (.int .i64 s.step) := hBm1.cell 5 _ rfl
          have d6 : w1.cell? ⟨wr.heap.size, 6, none⟩ = some (.slice ac s.content.length kc) := hBm1.cell 6 _ rfl
          have f0 : w1.cell? ⟨w.heap.size, 0, none⟩ = some (.slice a0 n0 cap0) := (ext_of_below hW1) _ _ e0
          clear hfin hn hs1 hBm1 hb1 hBm hAm e0 e1 g0 g1 g2 g3 g4 g5 g6 hcc hzz
          go_wp2_with fail
          refine (checkNumbers_v s _ n0 _ (hV.mono (ext_of_below hW1))).mono ?_
          rintro e w2 ⟨rfl, hb2⟩
          have hW2 := hfinB.trans ((hW1.mono (Nat.le_refl _)).trans (hb2.mono hW1.size) |>.mono (by omega))
          have hW2' := hb.trans ((hW1.mono (Nat.le_refl _)).trans (hb2.mono hW1.size) |>.mono hb.size)
          clear hb2 hW1 hV hb
          by_cases hz : numB s n0 = 0
          · have hfin := HF.out
            rw [if_pos hz] at hfin
            have HX := Lib.hid hfin
            clear hfin HF hx hst
            go_wp2
            go_roundw
            case rel => exact ⟨k + 1, by omega, by go_num, HX, hW2'⟩
            case measure => simp [intOf]; omega
          · have hfin := HF.out
            rw [if_neg hz] at hfin
            have HX := Lib.hid hfin
            have hz' : (numB s n0 != 0) = true := by simp [hz]
            clear hfin HF hx hst hz
            go_wp2
            go_ret
            exact ⟨ret_int HX.out.symm, hW2⟩
    · have hfin := hx.out
      rw [seqB_end _ _ _ _ (by omega)] at hfin
      have HF := Lib.hid hfin
      clear hfin hx hl
      go_wp2
      go_ret
      exact ⟨ret_int HF.out.symm, hfinB⟩

end Go.Proofs.YtaldpalhckdcdaaGreatDoor.B1
namespace Go.Proofs.YtaldpalhckdcdaaGreatDoor.B1
open Go.RowKit Go.PlainAid
set_option linter.unusedVariables false
def prpB (n : Int) (p : Prp) : Int := if (allBetweenB p.coefs n (-10000) 10000 && withinB p.target (-10000) 10000) = false then 1 else 0

def prpsB (l : List Prp) (n : Int) : Int := if 6 < l.length then 3 else seqB Prp.name (prpB n) [] l

set_option maxRecDepth 100000 in
theorem checkProperties_any (a0 : Option Addr) (n0 cap0 : Nat) (v1 v2 v3 x4 x5 x6 : Value) (l : List Prp) (w : World) (h : RPrps w v3 l) :
    Calls Tryz.prog 106 #[.agg #[.slice a0 n0 cap0, v1, v2, v3, x4, x5, x6]] w fun e w' => e = .returned (.int .i64 (prpsB l n0)) ∧ Below w.heap.size w w' := by
  have hR := h
  obtain ⟨a, kap, rfl, hc1, ⟨hc2, hm⟩, hl⟩ := h
  have hA := below_box w (.cells #[.slice a0 n0 cap0, v1, v2, .slice a l.length kap, x4, x5, x6] 56)
  by_cases h12 : 6 < l.length
  · have he : prpsB l n0 = 3 := by simp [prpsB, h12]
    rw [he]; clear he hl
    go_enter Tryz.func106, Tryz.ntmps106
    go_wp2
    go_ret
    exact ⟨rfl, hA⟩
  have he : prpsB l n0 = seqB Prp.name (prpB n0) [] l := by simp [prpsB, h12]
  rw [he]; clear he
  have h2 : decide ((6 : Int) < (l.length : Int)) = false := decide_eq_false (by omega)
  have hB := Blk.new w #[.slice a0 n0 cap0, v1, v2, .slice a l.length kap, x4, x5, x6] 56
  have hsz : w.heap.size + 1 ≤ (w.alloc (.cells #[.slice a0 n0 cap0, v1, v2, .slice a l.length kap, x4, x5, x6] 56)).heap.size := by simp
  have hR0 := hR.mono (ext_of_below hA)
  go_enter Tryz.func106, Tryz.ntmps106
  go_wp2
  generalize w.alloc (.cells #[.slice a0 n0 cap0, v1, v2, .slice a l.length kap, x4, x5, x6] 56) = W at *
  go_loopw [12] (fun i wr => ∃ (k : Nat), k ≤ l.length ∧ i = .int .i64 k ∧ Hid (seqB Prp.name (prpB n0) [] l = seqB Prp.name (prpB n0) (l.take k) (l.drop k)) ∧ Below W.heap.size W wr) (fun i _ => l.length - (intOf i).toNat)
  case atStart => exact ⟨0, Nat.zero_le _, rfl, rfl, Below.refl _ _⟩
  case round =>
    obtain ⟨k, hk, rfl, hx, hb⟩ := hrel
    have hfinB := hA.trans (hb.mono (by omega))
    have hsz2 := hb.size
    clear h2 h12
    by_cases hlt : k < l.length
    · have hst := Lib.hid (seqB_step Prp.name (prpB n0) l k hlt)
      have hRr := hR0.mono (ext_of_below hb)
      obtain ⟨b, off, rfl, c, ⟨g0, g1, g2, g3⟩, hc, hs⟩ := (hl k hlt)
      have hbl := cell_lt g0
      simp only at g0 g1 g2 g3 hbl
      have hlt2 : w.heap.size < wr.heap.size := by omega
      have hcS := hc
      obtain ⟨ac, kc, rfl, -, -, -⟩ := hcS
      have hCr := hc.mono (ext_of_below hfinB)
      obtain ⟨hcc, hzz⟩ := bcell hfinB
      have hBr := hB.below hb (by omega)
      have e0 : wr.cell? ⟨w.heap.size, 0, none⟩ = some (.slice a0 n0 cap0) := hBr.cell 0 _ rfl
      have e1 : wr.cell? ⟨w.heap.size, 3, none⟩ = some (.slice (some ⟨b, off, none⟩) l.length kap) := hBr.cell 3 _ rfl
      clear hl hc hB hA hR hR0
      generalize l[k] = s at *
      clear hsz hsz2
      go_wp2_with fail
      refine (isName_any s.name _ hs.1).mono ?_
      rintro e w1 ⟨rfl, rfl⟩
      have hAm := below_box wr (.cells #[.string s.name, .slice ac s.coefs.length kc, .int .i64 s.target.lo, .int .i64 s.target.hi] 59)
      have hBm := Blk.new wr #[.string s.name, .slice ac s.coefs.length kc, .int .i64 s.target.lo, .int .i64 s.target.hi] 59
      cases hn : nameB s.name with
      | false =>
        have hfin := hx.out.trans hst.out
        rw [if_pos hn] at hfin
        have HF := Lib.hid hfin
        clear hfin hn
        go_wp2
        go_ret
        exact ⟨ret_int HF.out.symm, hfinB.trans (hAm.mono (by omega))⟩
      | true =>
        go_wp2_with fail
        refine (containsFunc_prp _ isFn_samePrp _ (fun m => eqS m.name s.name) _ (l.take k) _ (RPrps.mono (ext_of_below hAm) (hRr.take k hk)) (tells_prp _ _ _ _ (hBm.cell 0 _ rfl))).mono ?_
        rintro e w1 ⟨rfl, hb1⟩
        have hW1 := hAm.trans (hb1.mono (by simp))
        have hBm1 := hBm.below hb1 (by simp)
        cases hs1 : (l.take k).any (fun m => eqS m.name s.name) with
        | true =>
          have hfin := hx.out.trans hst.out
          rw [if_neg (by simp [hn]), if_pos hs1] at hfin
          have HF := Lib.hid hfin
          clear hfin hn hs1
          go_wp2
          go_ret
          exact ⟨ret_int HF.out.symm, hfinB.trans (hW1.mono (by omega))⟩
        | false =>
          have hfin := hx.out.trans hst.out
          rw [if_neg (by simp [hn]), if_neg (by simp [hs1])] at hfin
          have HF := Lib.hid hfin
          have d1 : w1.cell? ⟨wr.heap.size, 1, none⟩ = some (.slice ac s.coefs.length kc) := hBm1.cell 1 _ rfl
          have f0 : w1.cell? ⟨w.heap.size, 0, none⟩ = some (.slice a0 n0 cap0) := (ext_of_below hW1) _ _ e0
          clear hfin hn hs1 hb1 hBm hAm e0 e1 g0 g1 g2 g3 hcc hzz
          go_wp2_with fail
          refine (allBetween_any _ s.coefs n0 _ _ _ (hCr.mono (ext_of_below hW1))).mono ?_
          rintro e w2 ⟨rfl, hb2⟩
          have hW2 := hfinB.trans ((hW1.mono (Nat.le_refl _)).trans (hb2.mono hW1.size) |>.mono (by omega))
          have hW2' := hb.trans ((hW1.mono (Nat.le_refl _)).trans (hb2.mono hW1.size) |>.mono hb.size)
          have hBm2 := hBm1.below hb2 hBm1.lt
          have q2 : w2.cell? ⟨wr.heap.size, 2, none⟩ = some (.int .i64 s.target.lo) := hBm2.cell 2 _ rfl
          have q3 : w2.cell? ⟨wr.heap.size, 3, none⟩ = some (.int .i64 s.target.hi) := hBm2.cell 3 _ rfl
          clear hb2 hW1 hCr hb hBm1 hBm2
          cases hz : allBetweenB s.coefs n0 (-10000) 10000 with
          | false =>
            have hp : prpB n0 s = 1 := by simp [prpB, hz]
            have hfin := HF.out
            rw [if_neg (by rw [hp]; decide), hp] at hfin
            have HX := Lib.hid hfin
            clear hfin HF hx hst hp
            go_wp2
            go_ret
            exact ⟨ret_int HX.out.symm, hW2⟩
          | true =>
            go_wp2_with fail
            refine (withinS s.target _ _ _).mono ?_
            rintro e w3 ⟨rfl, hb3⟩
            have hW3 := hW2.trans (hb3.mono hW2.size)
            have hW3' := hW2'.trans (hb3.mono hW2'.size)
            clear hb3 hW2 hW2'
            cases hz2 : withinB s.target (-10000) 10000 with
            | false =>
              have hp : prpB n0 s = 1 := by simp [prpB, hz2]
              have hfin := HF.out
              rw [if_neg (by rw [hp]; decide), hp] at hfin
              have HX := Lib.hid hfin
              clear hfin HF hx hst hp
              go_wp2
              go_ret
              exact ⟨ret_int HX.out.symm, hW3⟩
            | true =>
              have hp : prpB n0 s = 0 := by simp [prpB, hz, hz2]
              have hfin := HF.out
              rw [if_pos hp] at hfin
              have HX := Lib.hid hfin
              clear hfin HF hx hst hp
              go_wp2
              go_roundw
              case rel => exact ⟨k + 1, by omega, by go_num, HX, hW3'⟩
              case measure => simp [intOf]; omega
    · have hfin := hx.out
      rw [seqB_end _ _ _ _ (by omega)] at hfin
      have HF := Lib.hid hfin
      clear hfin hx hl
      go_wp2
      go_ret
      exact ⟨ret_int HF.out.symm, hfinB⟩

end Go.Proofs.YtaldpalhckdcdaaGreatDoor.B1
namespace Go.Proofs.YtaldpalhckdcdaaGreatDoor.B1
open Go.RowKit Go.PlainAid
set_option linter.unusedVariables false
def checkB (b : Bat) : Int :=
  if oxB b.oxides ≠ 0 then oxB b.oxides
  else if matsB b.mats b.oxides.length ≠ 0 then matsB b.mats b.oxides.length
  else if allWithinB b.shares b.oxides.length 0 1000 = false then 1
  else if prpsB b.props b.oxides.length ≠ 0 then prpsB b.props b.oxides.length
  else if (withinB b.redox (-10000) 10000 && betweenB b.wanted 1 10000) = false then 1 else 0

set_option maxRecDepth 100000 in
theorem check_any (v : Value) (b : Bat) (w : World) (h : RBat w v b) :
    Calls Tryz.prog 90 #[v] w fun e w' => e = .returned (.int .i64 (checkB b)) ∧ Below w.heap.size w w' := by
  obtain ⟨v0, v1, v2, v3, rfl, h0, h1, h2, h3, i1, i2, i3⟩ := h
  have h0S := h0
  have h1S := h1
  have h2S := h2
  have h3S := h3
  obtain ⟨a0, k0, rfl, -, ⟨-, l0⟩, -⟩ := h0S
  obtain ⟨a1, k1, rfl, -, ⟨-, l1⟩, -⟩ := h1S
  obtain ⟨a2, k2, rfl, -, ⟨-, l2⟩, -⟩ := h2S
  obtain ⟨a3, k3, rfl, -, ⟨-, l3⟩, -⟩ := h3S
  have hA := below_box w (.cells #[.slice a0 b.oxides.length k0, .slice a1 b.mats.length k1, .slice a2 b.shares.length k2, .slice a3 b.props.length k3, .int .i64 b.redox.lo, .int .i64 b.redox.hi, .int .i64 b.wanted] 56)
  have hB := Blk.new w #[.slice a0 b.oxides.length k0, .slice a1 b.mats.length k1, .slice a2 b.shares.length k2, .slice a3 b.props.length k3, .int .i64 b.redox.lo, .int .i64 b.redox.hi, .int .i64 b.wanted] 56
  have H0 := h0.mono (ext_of_below hA)
  go_enter Tryz.func90, Tryz.ntmps90
  go_wp2_with fail
  refine (checkOxides_any _ b.oxides _ H0).mono ?_
  rintro e w1 ⟨rfl, rfl⟩
  clear H0 h0
  by_cases e1 : oxB b.oxides = 0
  case neg =>
    have e1' : (oxB b.oxides != 0) = true := by simp [e1]
    have hfin := Lib.hid (show checkB b = oxB b.oxides by simp [checkB, e1])
    clear hB e1
    go_wp2
    go_ret
    exact ⟨ret_int hfin.out.symm, hA⟩
  have e1' : (oxB b.oxides != 0) = false := by simp [e1]
  have E1 := Lib.hid e1
  clear e1
  go_wp2_with fail
  refine (checkMaterials_any a0 _ k0 _ _ _ _ _ _ b.mats _ (h1.mono (ext_of_below hA)) l0).mono ?_
  rintro e w1 ⟨rfl, hb⟩
  have hA1 := hA.trans (hb.mono (by simp))
  have hB1 := hB.below hb (by simp)
  clear hb hB hA h1
  by_cases e2 : matsB b.mats b.oxides.length = 0
  case neg =>
    have e2' : (matsB b.mats b.oxides.length != 0) = true := by simp [e2]
    have hfin := Lib.hid (show checkB b = matsB b.mats b.oxides.length by simp [checkB, E1.out, e2])
    clear hB1 e2
    go_wp2
    go_ret
    exact ⟨ret_int hfin.out.symm, hA1⟩
  have e2' : (matsB b.mats b.oxides.length != 0) = false := by simp [e2]
  have E2 := Lib.hid e2
  clear e2
  have c0 : w1.cell? ⟨w.heap.size, 0, none⟩ = some (.slice a0 b.oxides.length k0) := hB1.cell 0 _ rfl
  have c2 : w1.cell? ⟨w.heap.size, 2, none⟩ = some (.slice a2 b.shares.length k2) := hB1.cell 2 _ rfl
  go_wp2_with fail
  refine (allWithin_any _ b.shares _ _ _ _ (h2.mono (ext_of_below hA1))).mono ?_
  rintro e w2 ⟨rfl, hb⟩
  have hA2 := hA1.trans (hb.mono hA1.size)
  have hB2 := hB1.below hb hB1.lt
  clear hb hB1 hA1 h2 c0 c2 e1' e2'
  cases e3 : allWithinB b.shares b.oxides.length 0 1000 with
  | false =>
    have hfin := Lib.hid (show checkB b = 1 by simp [checkB, E1.out, E2.out, e3])
    clear hB2
    go_wp2
    go_ret
    exact ⟨ret_int hfin.out.symm, hA2⟩
  | true =>
  have E3 := Lib.hid e3
  clear e3
  have c0 : w2.cell? ⟨w.heap.size, 0, none⟩ = some (.slice a0 b.oxides.length k0) := hB2.cell 0 _ rfl
  have c1 : w2.cell? ⟨w.heap.size, 1, none⟩ = some (.slice a1 b.mats.length k1) := hB2.cell 1 _ rfl
  have c2 : w2.cell? ⟨w.heap.size, 2, none⟩ = some (.slice a2 b.shares.length k2) := hB2.cell 2 _ rfl
  have c3 : w2.cell? ⟨w.heap.size, 3, none⟩ = some (.slice a3 b.props.length k3) := hB2.cell 3 _ rfl
  have c4 : w2.cell? ⟨w.heap.size, 4, none⟩ = some (.int .i64 b.redox.lo) := hB2.cell 4 _ rfl
  have c5 : w2.cell? ⟨w.heap.size, 5, none⟩ = some (.int .i64 b.redox.hi) := hB2.cell 5 _ rfl
  have c6 : w2.cell? ⟨w.heap.size, 6, none⟩ = some (.int .i64 b.wanted) := hB2.cell 6 _ rfl
  go_wp2_with fail
  refine (checkProperties_any a0 _ k0 _ _ _ _ _ _ b.props _ (h3.mono (ext_of_below hA2))).mono ?_
  rintro e w3 ⟨rfl, hb⟩
  have hA3 := hA2.trans (hb.mono hA2.size)
  have hB3 := hB2.below hb hB2.lt
  clear hb hB2 hA2 h3 c0 c1 c2 c3 c4 c5 c6
  by_cases e4 : prpsB b.props b.oxides.length = 0
  case neg =>
    have e4' : (prpsB b.props b.oxides.length != 0) = true := by simp [e4]
    have hfin := Lib.hid (show checkB b = prpsB b.props b.oxides.length by simp [checkB, E1.out, E2.out, E3.out, e4])
    clear hB3 e4
    go_wp2
    go_ret
    exact ⟨ret_int hfin.out.symm, hA3⟩
  have e4' : (prpsB b.props b.oxides.length != 0) = false := by simp [e4]
  have E4 := Lib.hid e4
  clear e4
  have c4 : w3.cell? ⟨w.heap.size, 4, none⟩ = some (.int .i64 b.redox.lo) := hB3.cell 4 _ rfl
  have c5 : w3.cell? ⟨w.heap.size, 5, none⟩ = some (.int .i64 b.redox.hi) := hB3.cell 5 _ rfl
  go_wp2_with fail
  refine (withinS b.redox _ _ _).mono ?_
  rintro e w4 ⟨rfl, hb⟩
  have hA4 := hA3.trans (hb.mono hA3.size)
  have hB4 := hB3.below hb hB3.lt
  clear hb hB3 hA3 c4 c5 e4'
  cases e5 : withinB b.redox (-10000) 10000 with
  | false =>
    have hfin := Lib.hid (show checkB b = 1 by simp [checkB, E1.out, E2.out, E3.out, E4.out, e5])
    clear hB4
    go_wp2
    go_ret
    exact ⟨ret_int hfin.out.symm, hA4⟩
  | true =>
  have c6 : w4.cell? ⟨w.heap.size, 6, none⟩ = some (.int .i64 b.wanted) := hB4.cell 6 _ rfl
  go_wp2_with fail
  refine (betweenN b.wanted _ _ _).mono ?_
  rintro e w5 ⟨rfl, rfl⟩
  cases e6 : betweenB b.wanted 1 10000 with
  | false =>
    have hfin := Lib.hid (show checkB b = 1 by simp [checkB, E1.out, E2.out, E3.out, E4.out, e6])
    clear hB4 c6
    go_wp2
    go_ret
    exact ⟨ret_int hfin.out.symm, hA4⟩
  | true =>
    have hfin := Lib.hid (show checkB b = 0 by simp [checkB, E1.out, E2.out, E3.out, E4.out, e5, e6])
    clear hB4 c6
    go_wp2
    go_ret
    exact ⟨ret_int hfin.out.symm, hA4⟩

def recB (b : Bat) (r : List Int) : Int := if allBetweenB r b.mats.length 0 10000 = true then 0 else 1

theorem checkRecipe_any (v rv : Value) (b : Bat) (r : List Int) (w : World) (h : RBat w v b) (hr : RInts w rv r) :
    Calls Tryz.prog 91 #[v, rv] w fun e w' => e = .returned (.int .i64 (recB b r)) ∧ Below w.heap.size w w' := by
  obtain ⟨v0, v1, v2, v3, rfl, h0, h1, h2, h3, i1, i2, i3⟩ := h
  obtain ⟨a0, k0, rfl, -, ⟨-, l0⟩, -⟩ := h0
  obtain ⟨a1, k1, rfl, -, ⟨-, l1⟩, -⟩ := h1
  obtain ⟨a2, k2, rfl, -, ⟨-, l2⟩, -⟩ := h2
  obtain ⟨a3, k3, rfl, -, ⟨-, l3⟩, -⟩ := h3
  have hA := below_box w (.cells #[.slice a0 b.oxides.length k0, .slice a1 b.mats.length k1, .slice a2 b.shares.length k2, .slice a3 b.props.length k3, .int .i64 b.redox.lo, .int .i64 b.redox.hi, .int .i64 b.wanted] 56)
  go_enter Tryz.func91, Tryz.ntmps91
  go_wp2_with fail
  refine (allBetween_any rv r _ _ _ _ (hr.mono (ext_of_below hA))).mono ?_
  rintro e w1 ⟨rfl, hb⟩
  have hA1 := hA.trans (hb.mono (by simp))
  clear hb hA
  cases e1 : allBetweenB r b.mats.length 0 10000 with
  | false =>
    have hfin := Lib.hid (show recB b r = 1 by simp [recB, e1])
    go_wp2
    go_ret
    exact ⟨ret_int hfin.out.symm, hA1⟩
  | true =>
    have hfin := Lib.hid (show recB b r = 0 by simp [recB, e1])
    go_wp2
    go_ret
    exact ⟨ret_int hfin.out.symm, hA1⟩

def bothB (b : Bat) (r : List Int) : Int := if checkB b ≠ 0 then checkB b else recB b r

theorem _root_.Go.Proofs.YtaldpalhckdcdaaGreatDoor.RBat.agg {w : World} {v : Value} {b : Bat} (h : RBat w v b) : ∃ a0 k0 a1 k1 a2 k2 a3 k3, v = .agg #[.slice a0 b.oxides.length k0, .slice a1 b.mats.length k1, .slice a2 b.shares.length k2, .slice a3 b.props.length k3, .int .i64 b.redox.lo, .int .i64 b.redox.hi, .int .i64 b.wanted] := by
  obtain ⟨v0, v1, v2, v3, rfl, h0, h1, h2, h3, i1, i2, i3⟩ := h
  obtain ⟨a0, k0, rfl, -, ⟨-, l0⟩, -⟩ := h0
  obtain ⟨a1, k1, rfl, -, ⟨-, l1⟩, -⟩ := h1
  obtain ⟨a2, k2, rfl, -, ⟨-, l2⟩, -⟩ := h2
  obtain ⟨a3, k3, rfl, -, ⟨-, l3⟩, -⟩ := h3
  exact ⟨a0, k0, a1, k1, a2, k2, a3, k3, rfl⟩

set_option maxRecDepth 100000 in
theorem checkBoth_any (v rv : Value) (b : Bat) (r : List Int) (w : World) (h : RBat w v b) (hr : RInts w rv r) :
    Calls Tryz.prog 54 #[v, rv] w fun e w' => e = .returned (.int .i64 (bothB b r)) ∧ Below w.heap.size w w' := by
  obtain ⟨a0, k0, a1, k1, a2, k2, a3, k3, rfl⟩ := h.agg
  have hA := below_box w (.cells #[.slice a0 b.oxides.length k0, .slice a1 b.mats.length k1, .slice a2 b.shares.length k2, .slice a3 b.props.length k3, .int .i64 b.redox.lo, .int .i64 b.redox.hi, .int .i64 b.wanted] 56)
  have hB := Blk.new w #[.slice a0 b.oxides.length k0, .slice a1 b.mats.length k1, .slice a2 b.shares.length k2, .slice a3 b.props.length k3, .int .i64 b.redox.lo, .int .i64 b.redox.hi, .int .i64 b.wanted] 56
  go_enter Tryz.func54, Tryz.ntmps54
  go_wp2_with fail
  refine (check_any _ b _ (h.mono (ext_of_below hA))).mono ?_
  rintro e w1 ⟨rfl, hb⟩
  have hA1 := hA.trans (hb.mono (by simp))
  have hB1 := hB.below hb (by simp)
  clear hb hA hB
  by_cases e1 : checkB b = 0
  case neg =>
    have e1' : (checkB b != 0) = true := by simp [e1]
    have hfin := Lib.hid (show bothB b r = checkB b by simp [bothB, e1])
    clear hB1 e1
    go_wp2
    go_ret
    exact ⟨ret_int hfin.out.symm, hA1⟩
  have e1' : (checkB b != 0) = false := by simp [e1]
  have hfin := Lib.hid (show bothB b r = recB b r by simp [bothB, e1])
  clear e1
  have c0 : w1.cell? ⟨w.heap.size, 0, none⟩ = some (.slice a0 b.oxides.length k0) := hB1.cell 0 _ rfl
  have c1 : w1.cell? ⟨w.heap.size, 1, none⟩ = some (.slice a1 b.mats.length k1) := hB1.cell 1 _ rfl
  have c2 : w1.cell? ⟨w.heap.size, 2, none⟩ = some (.slice a2 b.shares.length k2) := hB1.cell 2 _ rfl
  have c3 : w1.cell? ⟨w.heap.size, 3, none⟩ = some (.slice a3 b.props.length k3) := hB1.cell 3 _ rfl
  have c4 : w1.cell? ⟨w.heap.size, 4, none⟩ = some (.int .i64 b.redox.lo) := hB1.cell 4 _ rfl
  have c5 : w1.cell? ⟨w.heap.size, 5, none⟩ = some (.int .i64 b.redox.hi) := hB1.cell 5 _ rfl
  have c6 : w1.cell? ⟨w.heap.size, 6, none⟩ = some (.int .i64 b.wanted) := hB1.cell 6 _ rfl
  go_wp2_with fail
  refine (checkRecipe_any _ rv b r _ (h.mono (ext_of_below hA1)) (hr.mono (ext_of_below hA1))).mono ?_
  rintro e w2 ⟨rfl, hb⟩
  have hA2 := hA1.trans (hb.mono hA1.size)
  clear hb c0 c1 c2 c3 c4 c5 c6 hB1 hA1
  go_wp2
  go_ret
  exact ⟨ret_int hfin.out.symm, hA2⟩

end Go.Proofs.YtaldpalhckdcdaaGreatDoor.B1
namespace Go.Proofs.YtaldpalhckdcdaaGreatDoor.B1
open Go.RowKit Go.PlainAid
set_option linter.unusedVariables false
theorem own_below {w w1 : World} {B base : Nat} {e : TypeId} {size : Nat} {v : Value} {n : Nat} {xs : List Value} (h : w.ownsRow base e size v n xs) (hb : Below B w w1) (hB : ∀ g, v.ownBlock = some g → g < B) : w1.ownsRow base e size v n xs := by
  obtain ⟨h1, h2⟩ := h
  refine ⟨h1, ?_⟩
  rcases h2 with h2 | ⟨g, cap, cur, hv, hg, hh, r⟩
  · exact Or.inl h2
  · refine Or.inr ⟨g, cap, cur, hv, hg, ?_, r⟩
    rw [hb.block g (hB g (by rw [hv]; rfl))]
    exact hh

/-- a slice of the call's own is seen where its block is. -/
theorem own_vis {S : Nat → Prop} {w : World} {base : Nat} {e : TypeId} {size : Nat} {v : Value} {n : Nat} {xs : List Value} (h : w.ownsRow base e size v n xs) (hS : ∀ g, v.ownBlock = some g → S g) : (vis S w).ownsRow base e size v n xs := by
  obtain ⟨h1, h2⟩ := h
  refine ⟨h1, ?_⟩
  rcases h2 with h2 | ⟨g, cap, cur, hv, hg, hh, r⟩
  · exact Or.inl h2
  · exact Or.inr ⟨g, cap, cur, hv, hg, by rw [vis_block (hS g (by rw [hv]; rfl))]; exact hh, r⟩

theorem own_lt {w : World} {base : Nat} {e : TypeId} {size : Nat} {v : Value} {n : Nat} {xs : List Value} (h : w.ownsRow base e size v n xs) : ∀ g, v.ownBlock = some g → g < w.heap.size := fun g hg => (h.lt g hg).2

theorem own_cells {w : World} {base : Nat} {e : TypeId} {size : Nat} {v : Value} {n : Nat} {xs : List Value} (h : w.ownsRow base e size v n xs) :
    (v = .slice none 0 0 ∧ n = 0) ∨ ∃ g cap, v = .slice (some ⟨g, 0, none⟩) n cap ∧ n ≤ cap ∧ cap ≤ 9223372036854775807 ∧ ∀ j (hj : j < xs.length), w.cell? ⟨g, j, none⟩ = some (xs[j]'hj) := by
  rcases h.2 with h2 | ⟨g, cap, cur, hv, hg, hh, h1, h2, h3, h4⟩
  · exact .inl h2
  · refine .inr ⟨g, cap, hv, h1, by simpa [maxLen] using h2, fun j hj => ?_⟩
    subst hv
    rw [h.cellAt j (by rw [← h.1]; exact hj), List.getElem?_eq_getElem hj]

/-- what a slice of the call's own reads as. -/
theorem own_RSl {α : Type} {R : World → Addr → α → Prop} {w : World} {base : Nat} {e : TypeId} {size : Nat} {v : Value} {xs : List Value} {l : List α} (h : w.ownsRow base e size v l.length xs) (hm : l.length ≤ 140737488351232)
    (hR : ∀ g cap, v = .slice (some ⟨g, 0, none⟩) l.length cap → (∀ j (hj : j < xs.length), w.cell? ⟨g, j, none⟩ = some (xs[j]'hj)) → ∀ i (hi : i < l.length), R w ⟨g, i * size, none⟩ (l[i]'hi)) : RSl size R w v l := by
  rcases own_cells h with ⟨h1, h2⟩ | ⟨g, cap, h1, h2, h3, h4⟩
  · exact ⟨none, 0, by rw [h1, h2], by omega, ⟨by omega, hm⟩, fun i hi => by omega⟩
  · refine ⟨some ⟨g, 0, none⟩, cap, h1, h2, ⟨h3, hm⟩, fun i hi => ⟨g, 0, rfl, ?_⟩⟩
    rw [Nat.zero_add]
    exact hR g cap h1 h4 i hi

theorem own_RInts {w : World} {base : Nat} {e : TypeId} {v : Value} {l : List Int} (h : w.ownsRow base e 1 v l.length (l.map (Value.int .i64))) (hm : l.length ≤ 140737488351232) (hi : ∀ x ∈ l, I64 x) : RInts w v l :=
  own_RSl h hm fun g cap _ hc i hil => by
    have := hc i (by simpa using hil)
    rw [List.getElem_map] at this
    exact ⟨by rw [Nat.mul_one]; exact this, hi _ (List.getElem_mem hil)⟩

/-- cells of structs, one behind the other. -/
theorem flat_at {α : Type} (c : α → List Value) (n : Nat) (hn : ∀ x, (c x).length = n) : ∀ (l : List α) (i j : Nat) (hi : i < l.length) (hj : j < n), (l.flatMap c)[i * n + j]? = (c (l[i]'hi))[j]? := by
  intro l
  induction l with
  | nil => intro i j hi; simp at hi
  | cons a l ih =>
    intro i j hi hj
    rw [List.flatMap_cons]
    cases i with
    | zero =>
      rw [Nat.zero_mul, Nat.zero_add, List.getElem?_append_left (by rw [hn]; exact hj)]
      rfl
    | succ i =>
      rw [List.getElem?_append_right (by rw [hn, Nat.succ_mul]; omega), hn, show (i + 1) * n + j - n = i * n + j from by rw [Nat.succ_mul]; omega, ih i j (by simpa using hi) hj]
      rfl

theorem flat_len {α : Type} (c : α → List Value) (n : Nat) (hn : ∀ x, (c x).length = n) : ∀ (l : List α), (l.flatMap c).length = l.length * n := by
  intro l
  induction l with
  | nil => simp
  | cons a l ih => rw [List.flatMap_cons, List.length_append, hn, ih, List.length_cons, Nat.succ_mul, Nat.add_comm]

theorem flat_cell {α : Type} {c : α → List Value} {n : Nat} (hn : ∀ x, (c x).length = n) {l : List α} {w : World} {g : Nat} (hc : ∀ j (hj : j < (l.flatMap c).length), w.cell? ⟨g, j, none⟩ = some ((l.flatMap c)[j]'hj)) (i j : Nat) (hi : i < l.length) (hj : j < n) (u : Value) (hu : (c (l[i]'hi))[j]? = some u) : w.cell? ⟨g, i * n + j, none⟩ = some u := by
  have hlt : i * n + j < (l.flatMap c).length := by
    rw [flat_len c n hn]
    have := Nat.mul_le_mul_right n (show i + 1 ≤ l.length from hi)
    rw [Nat.succ_mul] at this
    omega
  have h1 := flat_at c n hn l i j hi hj
  rw [hu, List.getElem?_eq_getElem hlt] at h1
  rw [hc _ hlt, h1]

def spCells (s : Sp) : List Value := [.int .i64 s.lo, .int .i64 s.hi]

theorem own_RSps {w : World} {base : Nat} {e : TypeId} {v : Value} {l : List Sp} (h : w.ownsRow base e 2 v l.length (l.flatMap spCells)) (hm : l.length ≤ 140737488351232) (hi : ∀ x ∈ l, I64 x.lo ∧ I64 x.hi) : RSps w v l :=
  own_RSl h hm fun g cap _ hc i hil => by
    have h0 := flat_cell (c := spCells) (n := 2) (fun _ => rfl) hc i 0 hil (by omega) _ rfl
    have h1 := flat_cell (c := spCells) (n := 2) (fun _ => rfl) hc i 1 hil (by omega) _ rfl
    exact ⟨h0, h1, (hi _ (List.getElem_mem hil)).1, (hi _ (List.getElem_mem hil)).2⟩

theorem info_int : (Tryz.prog.info? 3).map (fun i => (i.zero, i.size, i.bytes)) = some (some (.int .i64 0), 1, 8) := by kernel_rfl

theorem info_span : (Tryz.prog.info? 27).map (fun i => (i.zero, i.size, i.bytes)) = some (some (.agg #[.int .i64 0, .int .i64 0]), 2, 16) := by kernel_rfl

end Go.Proofs.YtaldpalhckdcdaaGreatDoor.B1
namespace Go.Proofs.YtaldpalhckdcdaaGreatDoor.B1
open Go.RowKit Go.PlainAid
set_option linter.unusedVariables false
theorem ext_upto (l : List Int) (ys : List Int) (hl : ys.length = l.length) (h : ∀ j, j < l.length → ys.getD j 0 = l.getD j 0) : ys = l := by
  apply List.ext_getElem hl
  intro j h1 h2
  have := h j h2
  simp [List.getD, List.getElem?_eq_getElem h1, List.getElem?_eq_getElem h2] at this
  exact this

end Go.Proofs.YtaldpalhckdcdaaGreatDoor.B1
namespace Go.Proofs.YtaldpalhckdcdaaGreatDoor.B1
open Go.RowKit Go.PlainAid
set_option linter.unusedVariables false
theorem own_drew {w : World} {base : Nat} {e : TypeId} {size : Nat} {v : Value} {n : Nat} {xs : List Value} (h : w.ownsRow base e size v n xs) : w.drew.ownsRow base e size v n xs := h

end Go.Proofs.YtaldpalhckdcdaaGreatDoor.B1
namespace Go.Proofs.YtaldpalhckdcdaaGreatDoor.B1
open Go.RowKit Go.PlainAid
set_option linter.unusedVariables false
structure SpIn (s : Sp) (a b : Int) : Prop where
  lo : a ≤ s.lo
  le : s.lo ≤ s.hi
  hi : s.hi ≤ b

structure MatOk (m : Mat) (n : Nat) : Prop where
  price : 0 ≤ m.price ∧ m.price ≤ 10000
  redox : -1000 ≤ m.redox ∧ m.redox ≤ 1000
  least : 0 ≤ m.least ∧ m.least ≤ 10000
  most : m.least ≤ m.most ∧ m.most ≤ 10000
  step : 1 ≤ m.step ∧ m.step ≤ 10000
  len : m.content.length = n
  spans : ∀ s ∈ m.content, SpIn s 0 1000
  sum : (tot m.content).lo ≤ 1000

structure PrpOk (p : Prp) (n : Nat) : Prop where
  len : p.coefs.length = n
  coefs : ∀ c ∈ p.coefs, -10000 ≤ c ∧ c ≤ 10000
  target : SpIn p.target (-10000) 10000

structure OkB (b : Bat) : Prop where
  ox : 1 ≤ b.oxides.length ∧ b.oxides.length ≤ 12
  mt : 1 ≤ b.mats.length ∧ b.mats.length ≤ 12
  mats : ∀ m ∈ b.mats, MatOk m b.oxides.length
  shLen : b.shares.length = b.oxides.length
  shares : ∀ s ∈ b.shares, SpIn s 0 1000
  pr : b.props.length ≤ 6
  props : ∀ p ∈ b.props, PrpOk p b.oxides.length
  redox : SpIn b.redox (-10000) 10000
  wanted : 1 ≤ b.wanted ∧ b.wanted ≤ 10000

theorem within_iff {s : Sp} {a b : Int} (h : withinB s a b = true) : SpIn s a b := by
  unfold withinB at h
  simp only [Bool.and_eq_true, decide_eq_true_eq] at h
  exact ⟨h.1.1, h.1.2, h.2⟩

theorem between_iff {n a b : Int} (h : betweenB n a b = true) : a ≤ n ∧ n ≤ b := by
  unfold betweenB at h
  simpa only [Bool.and_eq_true, decide_eq_true_eq] using h

theorem allWithin_iff {l : List Sp} {n : Nat} {a b : Int} (h : allWithinB l n a b = true) : l.length = n ∧ ∀ s ∈ l, SpIn s a b := by
  unfold allWithinB at h
  simp only [Bool.and_eq_true, beq_iff_eq, Bool.not_eq_true', List.any_eq_false] at h
  refine ⟨by omega, fun s hs => within_iff ?_⟩
  have := h.2 s hs
  simpa using this

theorem allBetween_iff {l : List Int} {n : Nat} {a b : Int} (h : allBetweenB l n a b = true) : l.length = n ∧ ∀ s ∈ l, a ≤ s ∧ s ≤ b := by
  unfold allBetweenB at h
  simp only [Bool.and_eq_true, beq_iff_eq, Bool.not_eq_true', List.any_eq_false] at h
  refine ⟨by omega, fun s hs => between_iff ?_⟩
  have := h.2 s hs
  simpa using this

theorem seqB_zero {α : Type} (name : α → ByteArray) (chk : α → Int) : ∀ (l seen : List α), seqB name chk seen l = 0 → ∀ x ∈ l, chk x = 0 := by
  intro l
  induction l with
  | nil => intro seen h x hx; cases hx
  | cons a l ih =>
    intro seen h x hx
    unfold seqB at h
    split at h
    · omega
    · split at h
      · omega
      · split at h
        · rename_i h0
          rcases List.mem_cons.1 hx with rfl | hx
          · exact h0
          · exact ih _ h x hx
        · rename_i h0
          exact absurd h h0

theorem mat_ok {m : Mat} {n : Nat} (h : numB m n = 0) : MatOk m n := by
  unfold numB at h
  split at h
  · omega
  rename_i h1
  split at h
  · omega
  rename_i h2
  split at h
  · omega
  rename_i h3
  split at h
  · omega
  rename_i h4
  simp only [Bool.not_eq_false, Bool.and_eq_true] at h1 h2 h3
  obtain ⟨e1, e2⟩ := allWithin_iff h3
  exact ⟨between_iff h1.1, between_iff h1.2, between_iff h2.1.1, between_iff h2.1.2, between_iff h2.2, e1, e2, by omega⟩

theorem prp_ok {p : Prp} {n : Nat} (h : prpB n p = 0) : PrpOk p n := by
  unfold prpB at h
  split at h
  · omega
  rename_i h1
  simp only [Bool.not_eq_false, Bool.and_eq_true] at h1
  obtain ⟨e1, e2⟩ := allBetween_iff h1.1
  exact ⟨e1, e2, within_iff h1.2⟩

theorem ok_of {b : Bat} (h : checkB b = 0) : OkB b := by
  unfold checkB at h
  split at h
  · rename_i h1; exact absurd h h1
  rename_i h1
  split at h
  · rename_i h1; exact absurd h h1
  rename_i h2
  split at h
  · omega
  rename_i h3
  split at h
  · rename_i h1; exact absurd h h1
  rename_i h4
  split at h
  · omega
  rename_i h5
  simp only [ne_eq, Decidable.not_not] at h1 h2 h4
  simp only [Bool.not_eq_false, Bool.and_eq_true] at h3 h5
  have o : 1 ≤ b.oxides.length ∧ b.oxides.length ≤ 12 := by
    unfold oxB at h1
    split at h1
    · omega
    split at h1
    · omega
    omega
  have m : 1 ≤ b.mats.length ∧ b.mats.length ≤ 12 ∧ ∀ m ∈ b.mats, numB m b.oxides.length = 0 := by
    unfold matsB at h2
    split at h2
    · omega
    split at h2
    · omega
    exact ⟨by omega, by omega, seqB_zero _ _ _ _ h2⟩
  have p : b.props.length ≤ 6 ∧ ∀ p ∈ b.props, prpB b.oxides.length p = 0 := by
    unfold prpsB at h4
    split at h4
    · omega
    exact ⟨by omega, seqB_zero _ _ _ _ h4⟩
  obtain ⟨e1, e2⟩ := allWithin_iff h3
  exact ⟨o, ⟨m.1, m.2.1⟩, fun x hx => mat_ok (m.2.2 x hx), e1, e2, p.1, fun x hx => prp_ok (p.2 x hx), within_iff h5.1, between_iff h5.2⟩

end Go.Proofs.YtaldpalhckdcdaaGreatDoor.B1
namespace Go.Proofs.YtaldpalhckdcdaaGreatDoor.B1
open Go.RowKit Go.PlainAid
set_option linter.unusedVariables false
theorem rec_len {b : Bat} {r : List Int} (h : bothB b r = 0) : checkB b = 0 ∧ r.length = b.mats.length ∧ ∀ x ∈ r, 0 ≤ x ∧ x ≤ 10000 := by
  unfold bothB at h
  split at h
  · rename_i h1; exact absurd h h1
  rename_i h1
  simp only [ne_eq, Decidable.not_not] at h1
  unfold recB at h
  split at h
  · rename_i h2
    exact ⟨h1, allBetween_iff h2⟩
  · omega

end Go.Proofs.YtaldpalhckdcdaaGreatDoor.B1
namespace Go.Proofs.YtaldpalhckdcdaaGreatDoor.B1
open Go.RowKit Go.PlainAid
set_option linter.unusedVariables false
def cont (b : Bat) (k q : Nat) : Sp := match b.mats[k]? with | some m => m.content.getD q ⟨0, 0⟩ | none => ⟨0, 0⟩

def loSum (b : Bat) (r : List Int) (c q : Nat) : Int := ((List.range c).map fun k => r.getD k 0 * (cont b k q).lo).sum

def hiSum (b : Bat) (r : List Int) (c q : Nat) : Int := ((List.range c).map fun k => r.getD k 0 * (cont b k q).hi).sum

def gAt (b : Bat) (r : List Int) (c q : Nat) : Sp := ⟨wrap64 (loSum b r c q), wrap64 (hiSum b r c q)⟩

/-- behind c materials, and behind j oxides of the next one. -/
def gTo (b : Bat) (r : List Int) (c j : Nat) : List Sp := (List.range b.oxides.length).map fun q => gAt b r (if q < j then c + 1 else c) q

def gramsB (b : Bat) (r : List Int) : List Sp := gTo b r b.mats.length 0

theorem gTo_len (b : Bat) (r : List Int) (c j : Nat) : (gTo b r c j).length = b.oxides.length := by simp [gTo]

theorem gTo_get (b : Bat) (r : List Int) (c j q : Nat) (h : q < (gTo b r c j).length) : (gTo b r c j)[q] = gAt b r (if q < j then c + 1 else c) q := by simp [gTo]

theorem gTo_next (b : Bat) (r : List Int) (c j : Nat) (h : b.oxides.length ≤ j) : gTo b r c j = gTo b r (c + 1) 0 := by
  unfold gTo
  apply List.map_congr_left
  intro q hq
  have := List.mem_range.1 hq
  rw [if_pos (by omega), if_neg (by omega)]

theorem gAt_succ (b : Bat) (r : List Int) (c q : Nat) (m : Mat) (s : Sp) (hm : b.mats[c]? = some m) (hs : m.content[q]? = some s) :
    gAt b r (c + 1) q = ⟨wrap64 ((gAt b r c q).lo + wrap64 (r.getD c 0 * s.lo)), wrap64 ((gAt b r c q).hi + wrap64 (r.getD c 0 * s.hi))⟩ := by
  have e : cont b c q = s := by simp [cont, hm, List.getD, hs]
  unfold gAt
  simp only [wrap_add', wrap_add]
  unfold loSum hiSum
  rw [List.range_succ, List.map_append, List.map_append, List.map_singleton, List.map_singleton, sum_snoc, sum_snoc, e]

theorem gTo_set (b : Bat) (r : List Int) (c j : Nat) (h : j < b.oxides.length) : (gTo b r c j).set j (gAt b r (c + 1) j) = gTo b r c (j + 1) := by
  apply List.ext_getElem
  · simp [gTo]
  intro q h1 h2
  rw [gTo_get]
  by_cases hq : q = j
  · subst hq
    rw [List.getElem_set_self, if_pos (by omega)]
  · rw [List.getElem_set_ne (by omega), gTo_get]
    by_cases hj : q < j
    · rw [if_pos hj, if_pos (by omega)]
    · rw [if_neg hj, if_neg (by omega)]

theorem flat_set0 (l : List Sp) (j : Nat) (a : Int) (h : j < l.length) : (l.flatMap spCells).set (j * 2) (.int .i64 a) = (l.set j ⟨a, (l[j]'h).hi⟩).flatMap spCells := by
  induction l generalizing j with
  | nil => simp at h
  | cons x l ih =>
    cases j with
    | zero => rfl
    | succ j =>
      rw [show (j + 1) * 2 = j * 2 + 2 from by omega]
      show Value.int .i64 x.lo :: Value.int .i64 x.hi :: ((l.flatMap spCells).set (j * 2) (.int .i64 a)) = Value.int .i64 x.lo :: Value.int .i64 x.hi :: ((l.set j ⟨a, (l[j]'(by simpa using h)).hi⟩).flatMap spCells)
      rw [ih j (by simpa using h)]

theorem flat_set1 (l : List Sp) (j : Nat) (a : Int) (h : j < l.length) : (l.flatMap spCells).set (j * 2 + 1) (.int .i64 a) = (l.set j ⟨(l[j]'h).lo, a⟩).flatMap spCells := by
  induction l generalizing j with
  | nil => simp at h
  | cons x l ih =>
    cases j with
    | zero => rfl
    | succ j =>
      rw [show (j + 1) * 2 + 1 = j * 2 + 1 + 2 from by omega]
      show Value.int .i64 x.lo :: Value.int .i64 x.hi :: ((l.flatMap spCells).set (j * 2 + 1) (.int .i64 a)) = Value.int .i64 x.lo :: Value.int .i64 x.hi :: ((l.set j ⟨(l[j]'(by simpa using h)).lo, a⟩).flatMap spCells)
      rw [ih j (by simpa using h)]

theorem zero_spans (n : Nat) : (madeCells #[Value.int .i64 0, Value.int .i64 0] (n * 2)).toList = (List.replicate n (⟨0, 0⟩ : Sp)).flatMap spCells := by
  apply List.ext_getElem?
  intro j
  by_cases hj : j < n * 2
  · obtain ⟨q, t, ht, rfl⟩ : ∃ q t, t < 2 ∧ j = q * 2 + t := ⟨j / 2, j % 2, by omega, by omega⟩
    rw [flat_at spCells 2 (fun _ => rfl) _ q t (by simp; omega) ht]
    simp only [List.getElem_replicate]
    have : t = 0 ∨ t = 1 := by omega
    rcases this with rfl | rfl
    · simp only [madeCells, spCells, Nat.add_zero] at hj ⊢
      simp
      exact ⟨q * 2, by rw [List.getElem?_range (by omega)], by simp⟩
    · simp only [madeCells, spCells] at hj ⊢
      simp
      exact ⟨q * 2 + 1, by rw [List.getElem?_range (by omega)], by simp [Nat.add_mod]⟩
  · rw [List.getElem?_eq_none (by simp [madeCells]; omega), List.getElem?_eq_none (by rw [flat_len spCells 2 (fun _ => rfl)]; simp; omega)]

theorem gTo_zero (b : Bat) (r : List Int) : gTo b r 0 0 = List.replicate b.oxides.length ⟨0, 0⟩ := by
  apply List.ext_getElem
  · simp [gTo]
  intro q h1 h2
  rw [gTo_get, List.getElem_replicate, if_neg (by omega)]
  simp [gAt, loSum, hiSum, wrap64]

end Go.Proofs.YtaldpalhckdcdaaGreatDoor.B1
namespace Go.Proofs.YtaldpalhckdcdaaGreatDoor.B1
open Go.RowKit Go.PlainAid
set_option linter.unusedVariables false
def RetSps (w : World) (l : List Sp) (e : Ending) (w' : World) : Prop := ∃ v, e = .returned v ∧ RSps (vis (w.heap.size ≤ ·) w') v l ∧ Below w.heap.size w w'

set_option maxRecDepth 100000 in
theorem grams_any (vb rv : Value) (b : Bat) (r : List Int) (w : World) (h : RBat w vb b) (hr : RInts w rv r) (hk : OkB b) (hlr : r.length = b.mats.length) :
    Calls Tryz.prog 56 #[vb, rv] w (RetSps w (gramsB b r)) := by
  obtain ⟨v0, v1, v2, v3, rfl, h0, h1, h2, h3, i1, i2, i3⟩ := id h
  obtain ⟨a0, k0, rfl, -, ⟨-, l0⟩, -⟩ := h0
  obtain ⟨a1, k1, rfl, -, ⟨-, l1⟩, hl⟩ := h1
  obtain ⟨a2, k2, rfl, -, ⟨-, l2⟩, -⟩ := h2
  obtain ⟨a3, k3, rfl, -, ⟨-, l3⟩, -⟩ := h3
  obtain ⟨ar, kr, rfl, -, ⟨-, lr⟩, hrl⟩ := hr
  obtain ⟨i0, hi, hz0, hz1, hz2⟩ := info_parts info_span
  have hn := hk.ox
  have hms := hk.mt
  have hmc := fun m hm => (hk.mats m hm).len
  have hA0 := below_box w (.cells #[.slice a0 b.oxides.length k0, .slice a1 b.mats.length k1, .slice a2 b.shares.length k2, .slice a3 b.props.length k3, .int .i64 b.redox.lo, .int .i64 b.redox.hi, .int .i64 b.wanted] 56)
  have hB0 := Blk.new w #[.slice a0 b.oxides.length k0, .slice a1 b.mats.length k1, .slice a2 b.shares.length k2, .slice a3 b.props.length k3, .int .i64 b.redox.lo, .int .i64 b.redox.hi, .int .i64 b.wanted] 56
  clear h
  go_enter Tryz.func56, Tryz.ntmps56
  go_wp2_with (at_make; refine wpList_make_full _ rfl _ _ _ rfl (w.heap.size + 1) 27 i0 (.agg #[.int .i64 0, .int .i64 0]) 2 Tryz.underlying28 hi hz0 hz1 .i64 .i64 _ _ b.oxides.length rfl rfl rfl rfl ?_ ?_ ?_ ?_)
  · rw [hz2]; omega
  · unfold maxLen; omega
  · simp
  intro W1 hown hgrow
  have hA1 := hA0.grown hgrow (by simp) (by intro k hk; cases hk)
  have hC1 : Below (w.heap.size + 1) _ W1 := Below.grown (Below.refl _ _) hgrow (by simp) (by intro k hk; cases hk)
  have hB1 := hB0.below hC1 (by omega)
  have hlt1 : w.heap.size + 1 < W1.heap.size := own_lt hown _ rfl
  rw [zero_spans, ← gTo_zero b r] at hown
  have m1 : W1.cell? ⟨w.heap.size, 1, none⟩ = some (.slice a1 b.mats.length k1) := hB1.cell 1 _ rfl
  clear hA0 hgrow hC1 hB0
  go_wp2
  go_loopw [17] (fun i wr => ∃ (c : Nat), c ≤ b.mats.length ∧ i = .int .i64 c ∧ wr.ownsRow (w.heap.size + 1) 27 2 (.slice (some ⟨w.heap.size + 1, 0, none⟩) b.oxides.length b.oxides.length) b.oxides.length ((gTo b r c 0).flatMap spCells) ∧ Below (w.heap.size + 1) W1 wr) (fun i _ => b.mats.length - (intOf i).toNat)
  case atStart => exact ⟨0, Nat.zero_le _, rfl, hown, Below.refl _ _⟩
  case round =>
    clear hown
    obtain ⟨c, hc, rfl, hown, hb⟩ := hrel
    have hfinB := hA1.trans (hb.mono (by omega))
    by_cases hlt : c < b.mats.length
    · obtain ⟨b1, o1, rfl, vc, ⟨g0, g1, g2, g3, g4, g5, g6⟩, hcon, hs⟩ := hl c hlt
      obtain ⟨ac, kc, rfl, -, ⟨-, lc⟩, hcl⟩ := id hcon
      have hmlen := hmc _ (List.getElem_mem hlt)
      have hget : b.mats[c]? = some (b.mats[c]'hlt) := List.getElem?_eq_getElem hlt
      obtain ⟨b2, o2, rfl, q1, -⟩ := hrl c (by omega)
      have hrget : r.getD c 0 = r[c]'(by omega) := by simp [List.getD, List.getElem?_eq_getElem (show c < r.length by omega)]
      have hcr : c < r.length := by omega
      have hbl := cell_lt g0
      have hbl2 := cell_lt q1
      simp only at g0 g1 g2 g3 g4 g5 g6 hbl hbl2
      simp only [Nat.mul_one] at q1
      obtain ⟨hcc, hzz⟩ := bcell hfinB
      have hlr2 : w.heap.size + 1 < wr.heap.size := own_lt hown _ rfl
      have HG := Lib.hid hget
      have HR := Lib.hid hrget
      have HL := Lib.hid hmlen
      clear hl hrl hmc hs hcon hget hrget hmlen
      generalize b.mats[c] = m at *
      generalize r[c]'(by omega) = rc at *
      go_wp2_with fail
      have hAm := below_box wr (.cells #[.string m.name, .int .i64 m.price, .int .i64 m.redox, .int .i64 m.least, .int .i64 m.most, .int .i64 m.step, .slice ac m.content.length kc] 105)
      have hfin1 := hfinB.trans (hAm.mono hfinB.size)
      have hb1 := hb.trans (hAm.mono (by omega))
      have hown1 := own_below hown hAm (own_lt hown)
      generalize wr.alloc (.cells #[.string m.name, .int .i64 m.price, .int .i64 m.redox, .int .i64 m.least, .int .i64 m.most, .int .i64 m.step, .slice ac m.content.length kc] 105) = Wm at *
      clear hcc hzz hAm hown hb hfinB g0 g1 g2 g3 g4 g5 g6
      have hszm := hfin1.size
      have hwm : w.heap.size + 1 < Wm.heap.size := own_lt hown1 _ rfl
      clear hlr2
      obtain ⟨wo, hwo⟩ : ∃ wo : World, wo = wr := ⟨_, rfl⟩
      subst hwo
      go_loopw [25] (fun i wr => ∃ (j : Nat), j ≤ m.content.length ∧ i = .int .i64 j ∧ wr.ownsRow (w.heap.size + 1) 27 2 (.slice (some ⟨w.heap.size + 1, 0, none⟩) b.oxides.length b.oxides.length) b.oxides.length ((gTo b r c j).flatMap spCells) ∧ Below (w.heap.size + 1) Wm wr) (fun i _ => m.content.length - (intOf i).toNat)
      case atStart => exact ⟨0, Nat.zero_le _, rfl, hown1, Below.refl _ _⟩
      case round =>
        clear hown1
        obtain ⟨j, hj, rfl, hown, hb⟩ := hrel
        have hfin2 := hfin1.trans (hb.mono (by omega))
        by_cases hlj : j < m.content.length
        · obtain ⟨b3, o3, rfl, s1, s2, -, -⟩ := hcl j hlj
          have hsget : m.content[j]? = some (m.content[j]'hlj) := List.getElem?_eq_getElem hlj
          have hjn : j < b.oxides.length := by rw [← HL.out]; exact hlj
          have hstep := gAt_succ b r c j m _ HG.out hsget
          have hset := gTo_set b r c j hjn
          have hjl : j < (gTo b r c j).length := by rw [gTo_len]; exact hjn
          have hold := gTo_get b r c j j hjl
          rw [if_neg (Nat.lt_irrefl j)] at hold
          rw [HR.out] at hstep
          have hbl3 := cell_lt s1
          simp only at s1 s2 hbl3
          obtain ⟨hcc, hzz⟩ := bcell hfin2
          have HS := Lib.hid hstep
          have HT := Lib.hid hset
          clear hcl hsget hstep hset
          generalize m.content[j] = s at *
          go_wp2_with fail
          have W2 := below_box wr (.cells #[.int .i64 s.lo, .int .i64 s.hi] 27)
          have B2 := Blk.new wr #[.int .i64 s.lo, .int .i64 s.hi] 27
          have hown2 := own_below hown W2 (own_lt hown)
          have hb2 := hb.trans (W2.mono (by have := hb.size; omega))
          have q1' := ext_of_below (hfin2.trans (W2.mono hfin2.size)) _ _ q1
          have p0 := B2.cell 0 (.int .i64 s.lo) rfl
          have p1 := B2.cell 1 (.int .i64 s.hi) rfl
          have hnr : w.heap.size + 1 < wr.heap.size := own_lt hown _ rfl
          generalize hgn : wr.heap.size = nr at *
          generalize wr.alloc (.cells #[.int .i64 s.lo, .int .i64 s.hi] 27) = W4 at *
          have t0 := hown2.cellAt (j * 2) (by omega)
          have t1 := hown2.cellAt (j * 2 + 1) (by omega)
          rw [show (j * 2) = j * 2 + 0 from rfl, flat_at spCells 2 (fun _ => rfl) _ j 0 hjl (by omega), hold] at t0
          rw [flat_at spCells 2 (fun _ => rfl) _ j 1 hjl (by omega), hold] at t1
          replace t0 : W4.cell? ⟨w.heap.size + 1, j * 2, none⟩ = some (.int .i64 (gAt b r c j).lo) := t0
          replace t1 : W4.cell? ⟨w.heap.size + 1, j * 2 + 1, none⟩ = some (.int .i64 (gAt b r c j).hi) := t1
          have z0 := hown2.frozenAt (j * 2)
          have z1 := hown2.frozenAt (j * 2 + 1)
          have hown3 := (hown2.stored (j * 2) (.int .i64 (wrap64 ((gAt b r c j).lo + wrap64 (rc * s.lo))))).1
          rw [flat_set0 _ j _ hjl, hold] at hown3
          have hown4 := (hown3.stored (j * 2 + 1) (.int .i64 (wrap64 ((gAt b r c j).hi + wrap64 (rc * s.hi))))).1
          rw [flat_set1 _ j _ (by simpa using hjl)] at hown4
          simp only [List.getElem_set_self, List.set_set] at hown4
          rw [← HS.out, HT.out] at hown4
          have hb4 := (hb2.setCell (p := ⟨w.heap.size + 1, j * 2, none⟩) (by simp) (.int .i64 (wrap64 ((gAt b r c j).lo + wrap64 (rc * s.lo))))).setCell (p := ⟨w.heap.size + 1, j * 2 + 1, none⟩) (by simp) (.int .i64 (wrap64 ((gAt b r c j).hi + wrap64 (rc * s.hi))))
          have j1 : (0 : Int) ≤ (j : Int) := Int.natCast_nonneg _
          have j2 : (j : Int) < (b.oxides.length : Int) := by omega
          have j3 : (0 : Int) ≤ (c : Int) := Int.natCast_nonneg _
          have j4 : (c : Int) < (b.mats.length : Int) := by omega
          have HO := Lib.hid hown4
          have HB := Lib.hid hb4
          clear hown hown2 hown3 hown4 hb2 hb4 W2 B2 hcc hzz hb hfin2 hold HS HT s1 s2 hgn
          generalize gAt b r c j = g at *
          go_region
          go_wp2
          go_region
          go_wp2
          go_roundw
          case rel => exact ⟨j + 1, by omega, by go_num, own_drew (own_drew HO.out), HB.out.drew.drew⟩
          case measure => simp [intOf]; omega
        · have hnext := gTo_next b r c j (by rw [← HL.out]; omega)
          rw [hnext] at hown
          have hbF := hb1.trans hb
          clear hnext hcl hb hfin2
          go_wp2
          go_roundw
          case rel => exact ⟨c + 1, by omega, by go_num, hown, hbF⟩
          case measure => simp [intOf]; omega
    · have hfin : (gTo b r c 0) = gramsB b r := by unfold gramsB; rw [show c = b.mats.length from by omega]
      rw [hfin] at hown
      have hRI := own_RSps (l := gramsB b r) (by unfold gramsB; rw [gTo_len]; exact own_vis (S := (w.heap.size ≤ ·)) hown (by intro g hg; simp [Value.ownBlock] at hg; omega)) (by unfold gramsB; rw [gTo_len]; omega)
        (by intro x hx; unfold gramsB gTo at hx; obtain ⟨q, _, rfl⟩ := List.mem_map.1 hx; exact ⟨wrap_I64 _, wrap_I64 _⟩)
      have HR := Lib.hid hRI
      clear hRI hown hfin hl hrl hmc hb
      go_wp2
      go_ret
      exact ⟨_, rfl, HR.out, hfinB⟩

end Go.Proofs.YtaldpalhckdcdaaGreatDoor.B1
namespace Go.Proofs.YtaldpalhckdcdaaGreatDoor.B1
open Go.RowKit Go.PlainAid
set_option linter.unusedVariables false
def maxTo (l : List Int) (k : Nat) : Int := (l.take k).foldl max (l.getD 0 0)

def maxB (l : List Int) : Int := l.foldl max (l.getD 0 0)

theorem maxTo_succ (l : List Int) (k : Nat) (h : k < l.length) : maxTo l (k + 1) = max (maxTo l k) l[k] := by
  unfold maxTo
  rw [List.take_succ_eq_append_getElem h, List.foldl_append]
  rfl

set_option maxRecDepth 100000 in
theorem max_any (v : Value) (l : List Int) (w : World) (h : RInts w v l) (hn : 1 ≤ l.length) :
    Calls Tryz.prog 110 #[v] w fun e w' => e = .returned (.int .i64 (maxB l)) ∧ w = w' := by
  obtain ⟨a, kap, rfl, hc1, ⟨hc2, hm⟩, hl⟩ := h
  obtain ⟨b, off, rfl, h0, -⟩ := hl 0 (by omega)
  simp only [Nat.zero_mul, Nat.add_zero] at h0
  have hge : ¬ (l.length : Int) < 1 := by omega
  have hpos : 0 < l.length := by omega
  have hM : l[0] = maxTo l 1 := by
    have := maxTo_succ l 0 (by omega)
    rw [this]; unfold maxTo
    simp [List.getD, List.getElem?_eq_getElem hpos]
  have HM := Lib.hid hM
  clear hM
  go_enter Tryz.func110, Tryz.ntmps110
  go_wp2
  go_loop [3, 4] (fun m i => ∃ (k : Nat) (x : Int), 1 ≤ k ∧ k ≤ l.length ∧ i = .int .i64 k ∧ m = .int .i64 x ∧ Hid (x = maxTo l k)) (fun _ i => l.length - (intOf i).toNat)
  case atStart => exact ⟨1, _, by omega, by omega, rfl, rfl, HM⟩
  case round =>
    obtain ⟨k, x, hk1, hk, rfl, rfl, hx⟩ := hrel
    by_cases hlt : k < l.length
    · obtain ⟨b', off', e, h1, -⟩ := hl k hlt
      simp only [Option.some.injEq, Addr.mk.injEq, and_true] at e
      obtain ⟨rfl, rfl⟩ := e
      simp only [Nat.mul_one] at h1
      have hst := maxTo_succ l k hlt
      rw [← hx.out] at hst
      have HS := Lib.hid hst
      clear hl hst hx h0
      generalize l[k] = y at *
      by_cases hxy : x < y
      · have hX : maxTo l (k + 1) = y := by rw [HS.out]; omega
        have HX := Lib.hid hX.symm
        clear hX HS
        go_wp2
        go_round
        case rel => exact ⟨k + 1, _, by omega, by omega, by go_num, rfl, HX⟩
        case measure => simp [intOf]; omega
      · have hX : maxTo l (k + 1) = x := by rw [HS.out]; omega
        have HX := Lib.hid hX.symm
        clear hX HS
        go_wp2
        go_round
        case rel => exact ⟨k + 1, _, by omega, by omega, by go_num, rfl, HX⟩
        case measure => simp [intOf]; omega
    · have hX : x = maxB l := by rw [hx.out]; unfold maxTo maxB; rw [List.take_of_length_le (by omega)]
      have HX := Lib.hid hX
      clear hX hx hl
      go_wp2
      go_ret
      exact ⟨ret_int HX.out, rfl⟩

end Go.Proofs.YtaldpalhckdcdaaGreatDoor.B1
namespace Go.Proofs.YtaldpalhckdcdaaGreatDoor.B1
open Go.RowKit Go.PlainAid
set_option linter.unusedVariables false
structure MeanOk (c : List Int) (g : List Sp) : Prop where
  len : c.length = g.length
  n : 1 ≤ c.length ∧ c.length ≤ 12
  hc : ∀ x ∈ c, -10000 ≤ x ∧ x ≤ 10000
  hg : ∀ s ∈ g, 0 ≤ s.lo ∧ s.lo ≤ s.hi ∧ s.hi ≤ 1000000000
  pos : 1 ≤ (g.map Sp.lo).sum

def pickB (t c : Int) (s : Sp) : Int := if t ≤ c then s.hi else s.lo

def sumTo (c : List Int) (g : List Sp) (t : Int) (k : Nat) : Int := ((List.range k).map fun i => c.getD i 0 * pickB t (c.getD i 0) (g.getD i ⟨0, 0⟩)).sum

def wTo (c : List Int) (g : List Sp) (t : Int) (k : Nat) : Int := ((List.range k).map fun i => pickB t (c.getD i 0) (g.getD i ⟨0, 0⟩)).sum

def meanB (c : List Int) (g : List Sp) (t : Int) : Int := -(-(sumTo c g t c.length) / wTo c g t c.length)

def meansB (c : List Int) (g : List Sp) : List Int := c.map (meanB c g)

def gmB (c : List Int) (g : List Sp) : Int := maxB (meansB c g)

theorem sumTo_succ (c : List Int) (g : List Sp) (t : Int) (k : Nat) : sumTo c g t (k + 1) = sumTo c g t k + c.getD k 0 * pickB t (c.getD k 0) (g.getD k ⟨0, 0⟩) := by
  unfold sumTo
  rw [List.range_succ, List.map_append, List.map_singleton, sum_snoc]

theorem wTo_succ (c : List Int) (g : List Sp) (t : Int) (k : Nat) : wTo c g t (k + 1) = wTo c g t k + pickB t (c.getD k 0) (g.getD k ⟨0, 0⟩) := by
  unfold wTo
  rw [List.range_succ, List.map_append, List.map_singleton, sum_snoc]

theorem pick_bd {g : List Sp} (hg : ∀ s ∈ g, 0 ≤ s.lo ∧ s.lo ≤ s.hi ∧ s.hi ≤ 1000000000) (t x : Int) (k : Nat) (hk : k < g.length) : (g.getD k ⟨0, 0⟩).lo ≤ pickB t x (g.getD k ⟨0, 0⟩) ∧ 0 ≤ pickB t x (g.getD k ⟨0, 0⟩) ∧ pickB t x (g.getD k ⟨0, 0⟩) ≤ 1000000000 := by
  have h := hg _ (List.getElem_mem hk)
  rw [show g.getD k ⟨0, 0⟩ = g[k] from by simp [List.getD, List.getElem?_eq_getElem hk]]
  unfold pickB
  split <;> omega

theorem wTo_bd {c : List Int} {g : List Sp} (h : MeanOk c g) (t : Int) : ∀ k, k ≤ c.length → 0 ≤ wTo c g t k ∧ wTo c g t k ≤ 1000000000 * k ∧ ((g.take k).map Sp.lo).sum ≤ wTo c g t k := by
  intro k
  induction k with
  | zero => intro _; simp [wTo]
  | succ k ih =>
    intro hk
    have h1 := ih (by omega)
    have h2 := pick_bd h.hg t (c.getD k 0) k (by rw [← h.len]; omega)
    have hkl : k < g.length := by rw [← h.len]; omega
    rw [wTo_succ, List.take_succ_eq_append_getElem hkl, List.map_append, List.map_singleton, sum_snoc]
    rw [show g.getD k ⟨0, 0⟩ = g[k] from by simp [List.getD, List.getElem?_eq_getElem hkl]] at h2 ⊢
    refine ⟨by omega, by omega, by omega⟩

theorem mul_bd {a b : Int} (ha : -10000 ≤ a ∧ a ≤ 10000) (hb : 0 ≤ b ∧ b ≤ 1000000000) : -10000000000000 ≤ a * b ∧ a * b ≤ 10000000000000 := by
  have h1 : a * b ≤ 10000 * b := Int.mul_le_mul_of_nonneg_right ha.2 hb.1
  have h2 : -10000 * b ≤ a * b := Int.mul_le_mul_of_nonneg_right ha.1 hb.1
  omega

theorem sumTo_bd {c : List Int} {g : List Sp} (h : MeanOk c g) (t : Int) : ∀ k, k ≤ c.length → -(10000000000000 * k) ≤ sumTo c g t k ∧ sumTo c g t k ≤ 10000000000000 * k := by
  intro k
  induction k with
  | zero => intro _; simp [sumTo]
  | succ k ih =>
    intro hk
    have h1 := ih (by omega)
    have h2 := pick_bd h.hg t (c.getD k 0) k (by rw [← h.len]; omega)
    have h3 := h.hc _ (List.getElem_mem (show k < c.length by omega))
    rw [show c[k]'(by omega) = c.getD k 0 from by simp [List.getD, List.getElem?_eq_getElem (show k < c.length by omega)]] at h3
    have h4 := mul_bd h3 ⟨h2.2.1, h2.2.2⟩
    rw [sumTo_succ]
    refine ⟨by omega, by omega⟩

theorem w_pos {c : List Int} {g : List Sp} (h : MeanOk c g) (t : Int) : 1 ≤ wTo c g t c.length := by
  have h1 := (wTo_bd h t c.length (Nat.le_refl _)).2.2
  rw [List.take_of_length_le (by rw [h.len]; exact Nat.le_refl _)] at h1
  have := h.pos
  omega

theorem mean_I64 {c : List Int} {g : List Sp} (h : MeanOk c g) (t : Int) : -200000000000000 ≤ meanB c g t ∧ meanB c g t ≤ 200000000000000 := by
  have h1 := sumTo_bd h t c.length (Nat.le_refl _)
  have h2 := Int.natAbs_ediv_le_natAbs (-(sumTo c g t c.length)) (wTo c g t c.length)
  have h3 := h.n
  unfold meanB
  omega

theorem sum_step2 {c : List Int} {g : List Sp} {t : Int} {k : Nat} {x y : Int} (hx : x = wrap64 (sumTo c g t k)) (hy : y = wrap64 (wTo c g t k)) :
    wrap64 (x + wrap64 (c.getD k 0 * pickB t (c.getD k 0) (g.getD k ⟨0, 0⟩))) = wrap64 (sumTo c g t (k + 1)) ∧ wrap64 (y + pickB t (c.getD k 0) (g.getD k ⟨0, 0⟩)) = wrap64 (wTo c g t (k + 1)) := by
  rw [hx, hy, wrap_add', wrap_add, wrap_add, sumTo_succ, wTo_succ]
  exact ⟨rfl, rfl⟩

set_option maxRecDepth 100000 in
theorem greatestMean_any (vc vg : Value) (c : List Int) (g : List Sp) (w : World) (hc : RInts w vc c) (hg : RSps w vg g) (hk : MeanOk c g) :
    Calls Tryz.prog 95 #[vc, vg] w fun e w' => e = .returned (.int .i64 (gmB c g)) ∧ Below w.heap.size w w' := by
  obtain ⟨ac, kc, rfl, -, ⟨-, lc⟩, hcl⟩ := hc
  obtain ⟨ag, kg, rfl, -, ⟨-, lg⟩, hgl⟩ := hg
  obtain ⟨i0, hi, hz0, hz1, hz2⟩ := info_parts info_int
  have hn := hk.n
  have hlen : c.length ≤ g.length := by rw [hk.len]; exact Nat.le_refl _
  go_enter Tryz.func95, Tryz.ntmps95
  go_wp2
  go_loopw [5, 15] (fun v i wr => ∃ (k : Nat) (l : List Int), k ≤ c.length ∧ i = .int .i64 k ∧ Hid (l = (c.take k).map (meanB c g)) ∧ wr.ownsRow w.heap.size 3 1 v l.length (l.map (Value.int .i64)) ∧ Below w.heap.size w wr) (fun _ i _ => c.length - (intOf i).toNat)
  case atStart => exact ⟨0, [], Nat.zero_le _, rfl, rfl, World.ownsRow_nil _ _ _ _, Below.refl _ _⟩
  case round =>
    obtain ⟨k, l, hkk, rfl, hx, hown, hb⟩ := hrel
    by_cases hlt : k < c.length
    · obtain ⟨b1, o1, rfl, q1, -⟩ := hcl k hlt
      simp only [Nat.mul_one] at q1
      have hbl := cell_lt q1
      simp only at hbl
      obtain ⟨hcc, hzz⟩ := bcell hb
      have hll : l.length ≤ 12 := by rw [hx.out]; simp; omega
      have hsn : l ++ [meanB c g (c[k]'hlt)] = (c.take (k + 1)).map (meanB c g) := by
        rw [hx.out, List.take_succ_eq_append_getElem hlt, List.map_append, List.map_singleton]
      have HSN := Lib.hid hsn
      clear hsn hx
      generalize c[k] = t at *
      go_wp2_with fail
      obtain ⟨wo, hwo⟩ : ∃ wo : World, wo = wr := ⟨_, rfl⟩
      subst hwo
      clear q1
      go_loop [8, 9, 21] (fun x y i => ∃ (j : Nat) (p q : Int), j ≤ c.length ∧ i = .int .i64 j ∧ x = .int .i64 p ∧ y = .int .i64 q ∧ Hid (p = wrap64 (sumTo c g t j) ∧ q = wrap64 (wTo c g t j))) (fun _ _ i => c.length - (intOf i).toNat)
      case atStart => exact ⟨0, 0, 0, Nat.zero_le _, rfl, rfl, rfl, by simp [Hid, sumTo, wTo, wrap64]⟩
      case round =>
        obtain ⟨j, p, q, hj, rfl, rfl, rfl, hpq⟩ := hrel
        by_cases hlj : j < c.length
        · obtain ⟨b1', o1', e, q1, -⟩ := hcl j hlj
          simp only [Option.some.injEq, Addr.mk.injEq, and_true] at e
          obtain ⟨rfl, rfl⟩ := e
          obtain ⟨b2, o2, rfl, q2, q3, -, -⟩ := hgl j (by omega)
          have hst := sum_step2 hpq.out.1 hpq.out.2
          have hlg : j < g.length := by omega
          rw [show c.getD j 0 = c[j]'hlj from by simp [List.getD, List.getElem?_eq_getElem hlj], show g.getD j ⟨0, 0⟩ = g[j]'hlg from by simp [List.getD, List.getElem?_eq_getElem hlg]] at hst
          have hbl2 := cell_lt q2
          simp only [Nat.mul_one] at q1 q2 q3 hbl2
          have HS := Lib.hid hst
          clear hst hpq hcl hgl hown HSN
          generalize c[j] = x at *
          generalize g[j]'hlg = s at *
          by_cases htx : t ≤ x
          · have hp : pickB t x s = s.hi := by simp [pickB, htx]
            have HP := Lib.hid hp
            clear hp
            go_wp2
            go_round
            case rel => exact ⟨j + 1, _, _, by omega, by go_num, rfl, rfl, by have := HS.out; rw [HP.out] at this; exact this⟩
            case measure => simp [intOf]; omega
          · have hp : pickB t x s = s.lo := by simp [pickB, htx]
            have HP := Lib.hid hp
            clear hp
            go_wp2
            go_round
            case rel => exact ⟨j + 1, _, _, by omega, by go_num, rfl, rfl, by have := HS.out; rw [HP.out] at this; exact this⟩
            case measure => simp [intOf]; omega
        · have hje : j = c.length := by omega
          have hsb := sumTo_bd hk t c.length (Nat.le_refl _)
          have hwb := wTo_bd hk t c.length (Nat.le_refl _)
          have hwp := w_pos hk t
          have hp : p = sumTo c g t c.length := by rw [hpq.out.1, hje]; exact wrap_id _ (by unfold I64; omega)
          have hq : q = wTo c g t c.length := by rw [hpq.out.2, hje]; exact wrap_id _ (by unfold I64; omega)
          have hup := up_any p q
          have hmb := mean_I64 hk t
          have HM : Hid (meanB c g t = -(-p / q)) := by unfold meanB; rw [hp, hq]; rfl
          have hp1 : -9223372036854775807 ≤ p ∧ p ≤ 9223372036854775807 := by omega
          have hq1 : 0 < q ∧ q ≤ 9223372036854775807 := by omega
          clear hpq hp hq hsb hwb hwp hcl hgl
          go_wp2_with fail
          refine (hup _ hp1 hq1).mono ?_
          rintro e w1 ⟨rfl, rfl⟩
          rw [← HM.out]
          have hown2 := hown.alloc (.cells #[.int .i64 (meanB c g t)] 3)
          go_wp2_with (at_builtin; refine wpList_append_own _ rfl _ _ 36 rfl w.heap.size 3 i0 (.int .i64 0) 1 8 Tryz.underlying36 hi hz0 hz1 hz2 rfl (by decide) _ l.length _ rfl hown2 ⟨wo.heap.size, 0, none⟩ 1 1 [.int .i64 (meanB c g t)] rfl rfl (cell_one_new _ _ _) (by simp [Value.oneCell']) (by unfold maxLen; omega) (by omega) (by simp; have := hb.size; omega) ?_; intro v6 w6 hown6 hgrow6 _)
          have hB6 := (hb.alloc hb.size (.cells #[.int .i64 (meanB c g t)] 3)).grown hgrow6 (by simp; have := hb.size; omega) (fun q hq => (hown2.lt q hq).1)
          have hownF : w6.ownsRow w.heap.size 3 1 v6 (l ++ [meanB c g t]).length ((l ++ [meanB c g t]).map (Value.int .i64)) := by simpa using hown6
          clear hown6 hown2 hgrow6 hown hb hup
          go_roundw
          case rel => exact ⟨k + 1, l ++ [meanB c g t], by omega, by go_num, HSN, hownF, hB6⟩
          case measure => simp [intOf]; omega
    · have hl : l = meansB c g := by rw [hx.out, List.take_of_length_le (by omega)]; rfl
      subst hl
      have hRI := own_RInts (l := meansB c g) hown (by unfold meansB; rw [List.length_map]; omega) (by intro x hx; obtain ⟨t, _, rfl⟩ := List.mem_map.1 hx; have := mean_I64 hk t; unfold I64; omega)
      have hml := max_any u5 (meansB c g) wr hRI (by unfold meansB; rw [List.length_map]; omega)
      clear hRI hown hx hcl hgl
      go_wp2_with fail
      refine hml.mono ?_
      rintro e w1 ⟨rfl, rfl⟩
      clear hml
      go_wp2
      go_ret
      exact ⟨rfl, hb⟩

end Go.Proofs.YtaldpalhckdcdaaGreatDoor.B1
namespace Go.Proofs.YtaldpalhckdcdaaGreatDoor.B1
open Go.RowKit Go.PlainAid
set_option linter.unusedVariables false
def negB (c : List Int) : List Int := c.map fun x => -x

def valueB (c : List Int) (g : List Sp) : Sp := ⟨-(gmB (negB c) g), gmB c g⟩

theorem neg_ok {c : List Int} {g : List Sp} (h : MeanOk c g) : MeanOk (negB c) g := by
  refine ⟨by simp [negB, h.len], by simpa [negB] using h.n, ?_, h.hg, h.pos⟩
  intro x hx
  obtain ⟨y, hy, rfl⟩ := List.mem_map.1 hx
  have := h.hc y hy
  omega

theorem foldl_max_bd (lo hi : Int) : ∀ (l : List Int) (a : Int), lo ≤ a ∧ a ≤ hi → (∀ x ∈ l, lo ≤ x ∧ x ≤ hi) → lo ≤ l.foldl max a ∧ l.foldl max a ≤ hi := by
  intro l
  induction l with
  | nil => intro a h _; exact h
  | cons x l ih =>
    intro a h hl
    have := hl x List.mem_cons_self
    exact ih _ (by omega) fun y hy => hl y (List.mem_cons_of_mem _ hy)

theorem gm_bd {c : List Int} {g : List Sp} (h : MeanOk c g) : -200000000000000 ≤ gmB c g ∧ gmB c g ≤ 200000000000000 := by
  have hm : ∀ x ∈ meansB c g, -200000000000000 ≤ x ∧ x ≤ 200000000000000 := by
    intro x hx
    obtain ⟨t, _, rfl⟩ := List.mem_map.1 hx
    exact mean_I64 h t
  unfold gmB maxB
  refine foldl_max_bd _ _ _ _ ?_ hm
  have hl : 0 < (meansB c g).length := by have := h.n; simp [meansB]; omega
  rw [show (meansB c g).getD 0 0 = (meansB c g)[0] from by simp [List.getD, List.getElem?_eq_getElem hl]]
  exact hm _ (List.getElem_mem hl)

def RetSp (w : World) (s : Sp) (e : Ending) (w' : World) : Prop := e = .returned (.agg #[.int .i64 s.lo, .int .i64 s.hi]) ∧ Below w.heap.size w w'

set_option maxRecDepth 100000 in
theorem value_any (vc vg : Value) (c : List Int) (g : List Sp) (w : World) (hc : RInts w vc c) (hg : RSps w vg g) (hk : MeanOk c g) :
    Calls Tryz.prog 58 #[vc, vg] w (RetSp w (valueB c g)) := by
  obtain ⟨ac, kc, rfl, -, ⟨-, lc⟩, hcl⟩ := id hc
  obtain ⟨i0, hi, hz0, hz1, hz2⟩ := info_parts info_int
  have hn := hk.n
  have hA0 := below_box w (.cells #[.int .i64 0, .int .i64 0] 27)
  have hB0 := Blk.new w #[.int .i64 0, .int .i64 0] 27
  go_enter Tryz.func58, Tryz.ntmps58
  go_wp2_with (at_make; refine wpList_make_full _ rfl _ _ _ rfl (w.heap.size + 1) 3 i0 (.int .i64 0) 1 Tryz.underlying36 hi hz0 hz1 .i64 .i64 _ _ c.length rfl rfl rfl rfl ?_ ?_ ?_ ?_)
  · rw [hz2]; omega
  · unfold maxLen; omega
  · simp
  intro W1 hown hgrow
  have hA1 := hA0.grown hgrow (by simp) (by intro k hk; cases hk)
  have hC1 : Below (w.heap.size + 1) _ W1 := Below.grown (Below.refl _ _) hgrow (by simp) (by intro k hk; cases hk)
  have hB1 := hB0.below hC1 (by omega)
  have hlt1 : w.heap.size + 1 < W1.heap.size := own_lt hown _ rfl
  rw [toList_madeCells_one, show List.replicate c.length (Value.int .i64 0) = (List.replicate c.length (0 : Int)).map (Value.int .i64) from by simp] at hown
  clear hA0 hgrow hC1 hB0
  go_wp2
  go_loopw [13] (fun i wr => ∃ (k : Nat) (ys : List Int), k ≤ c.length ∧ i = .int .i64 k ∧ Hid (ys.length = c.length ∧ ∀ j, j < k → ys.getD j 0 = (negB c).getD j 0) ∧ wr.ownsRow (w.heap.size + 1) 3 1 (.slice (some ⟨w.heap.size + 1, 0, none⟩) c.length c.length) c.length (ys.map (Value.int .i64)) ∧ Below (w.heap.size + 1) W1 wr) (fun i _ => c.length - (intOf i).toNat)
  case atStart => exact ⟨0, List.replicate c.length 0, Nat.zero_le _, rfl, ⟨by simp, by intro j hj; omega⟩, hown, Below.refl _ _⟩
  case round =>
    clear hown
    obtain ⟨k, ys, hkk, rfl, hx, hown, hb⟩ := hrel
    have hfinB := hA1.trans (hb.mono (by omega))
    by_cases hlt : k < c.length
    · obtain ⟨b1, o1, rfl, q1, -⟩ := hcl k hlt
      simp only [Nat.mul_one] at q1
      have hxk := hk.hc _ (List.getElem_mem hlt)
      have hng : (negB c).getD k 0 = -(c[k]'hlt) := by simp [negB, List.getD, List.getElem?_eq_getElem hlt]
      have hst : ∀ x, x = -(c[k]'hlt) → (ys.set k x).length = c.length ∧ ∀ j, j < k + 1 → (ys.set k x).getD j 0 = (negB c).getD j 0 := by
        intro x hxx
        refine ⟨by simpa using hx.out.1, fun j hj => ?_⟩
        by_cases hjk : j = k
        · subst hjk
          rw [hng, ← hxx]
          simp [List.getD, hx.out.1, hlt]
        · have h1 := hx.out.2 j (by omega)
          rw [← h1]
          simp only [List.getD]
          rw [List.getElem?_set_ne (by omega)]
      have HST := Lib.hid hst
      have e1 := hown.cellAt k (by omega)
      rw [List.getElem?_map, List.getElem?_eq_getElem (by rw [hx.out.1]; exact hlt), Option.map_some] at e1
      have e2 := hown.frozenAt k
      have hbl := cell_lt q1
      simp only at hbl
      obtain ⟨hcc, hzz⟩ := bcell hfinB
      clear hst hng hcl hc
      generalize c[k] = x at *
      have hown2 := (hown.stored k (.int .i64 (-x))).1
      rw [← List.map_set] at hown2
      have hb2 := hb.setCell (p := ⟨w.heap.size + 1, k, none⟩) (by simp) (.int .i64 (-x))
      clear hown hfinB hb
      go_wp2
      go_roundw
      case rel => exact ⟨k + 1, _, by omega, by go_num, HST.out _ rfl, hown2, hb2⟩
      case measure => simp [intOf]; omega
    · have hfin := ext_upto (negB c) ys (by rw [hx.out.1]; simp [negB]) (fun j hj => hx.out.2 j (by simp [negB] at hj; omega))
      subst hfin
      have hRI := own_RInts (l := negB c) (by unfold negB; rw [List.length_map]; exact hown) (by unfold negB; rw [List.length_map]; exact lc) (by intro x hx; obtain ⟨m, hm, rfl⟩ := List.mem_map.1 hx; have := hk.hc m hm; unfold I64; omega)
      have hg1 := greatestMean_any _ vg (negB c) g wr hRI (hg.mono (ext_of_below hfinB)) (neg_ok hk)
      have hBr := hB1.below hb (by omega)
      have hgb1 := gm_bd (neg_ok hk)
      clear hx hown hRI hcl hb hA1 hB1
      go_wp2_with fail
      refine hg1.mono ?_
      rintro e w2 ⟨rfl, hb2⟩
      have hA2 := hfinB.trans (hb2.mono hfinB.size)
      have hB2 := hBr.below hb2 hBr.lt
      have hg2 := greatestMean_any _ vg c g w2 (hc.mono (ext_of_below hA2)) (hg.mono (ext_of_below hA2)) hk
      clear hg1 hb2 hfinB hBr
      go_wp2_with fail
      refine hg2.mono ?_
      rintro e w3 ⟨rfl, hb3⟩
      have hA3 := hA2.trans (hb3.mono hA2.size)
      have hB3 := hB2.below hb3 hB2.lt
      have z0 : w3.cell? ⟨w.heap.size, 0, none⟩ = some (.int .i64 0) := hB3.cell 0 _ rfl
      have z1 : w3.cell? ⟨w.heap.size, 1, none⟩ = some (.int .i64 0) := hB3.cell 1 _ rfl
      have f0 := hB3.frozen 0
      have f1 := hB3.frozen 1
      clear hg2 hb3 hA2 hB2 hc hg
      go_wp2
      have B3 := (hB3.set 0 (.int .i64 (-(gmB (negB c) g)))).set 1 (.int .i64 (gmB c g))
      have d0 := B3.cell 0 (.int .i64 (-(gmB (negB c) g))) rfl
      have d1 := B3.cell 1 (.int .i64 (gmB c g)) rfl
      exact bodyPost_ret (v := .agg #[.int .i64 (-(gmB (negB c) g)), .int .i64 (gmB c g)]) (by simp only [results, Tryz.results58]; simp [go_sem, d0, d1]) rfl ⟨rfl, (hA3.setCell (p := ⟨w.heap.size, 0, none⟩) (by simp) _).setCell (p := ⟨w.heap.size, 1, none⟩) (by simp) _⟩

end Go.Proofs.YtaldpalhckdcdaaGreatDoor.B1
namespace Go.Proofs.YtaldpalhckdcdaaGreatDoor.B1
open Go.RowKit Go.PlainAid
set_option linter.unusedVariables false
theorem cont_ok {b : Bat} (h : OkB b) (k q : Nat) (hk : k < b.mats.length) (hq : q < b.oxides.length) : SpIn (cont b k q) 0 1000 := by
  have hm := h.mats _ (List.getElem_mem hk)
  unfold cont
  rw [List.getElem?_eq_getElem hk]
  have hl : q < (b.mats[k]).content.length := by rw [hm.len]; exact hq
  have := hm.spans _ (List.getElem_mem hl)
  simp only [List.getD, List.getElem?_eq_getElem hl, Option.getD_some]
  exact this

theorem prod_bd {a c : Int} (ha : 0 ≤ a ∧ a ≤ 10000) (hc : 0 ≤ c ∧ c ≤ 1000) : 0 ≤ a * c ∧ a * c ≤ 10000000 := by
  have h1 : a * c ≤ 10000 * c := Int.mul_le_mul_of_nonneg_right ha.2 hc.1
  have h2 : 0 ≤ a * c := Int.mul_nonneg ha.1 hc.1
  omega

theorem sums_ok {b : Bat} (h : OkB b) {r : List Int} (hr : ∀ x ∈ r, 0 ≤ x ∧ x ≤ 10000) (hl : r.length = b.mats.length) (q : Nat) (hq : q < b.oxides.length) :
    ∀ c, c ≤ b.mats.length → 0 ≤ loSum b r c q ∧ loSum b r c q ≤ hiSum b r c q ∧ hiSum b r c q ≤ 10000000 * c := by
  intro c
  induction c with
  | zero => intro _; simp [loSum, hiSum]
  | succ c ih =>
    intro hc
    have h1 := ih (by omega)
    have h2 := cont_ok h c q (by omega) hq
    have h3 := hr _ (List.getElem_mem (show c < r.length by omega))
    have e : r.getD c 0 = r[c]'(by omega) := by simp [List.getD, List.getElem?_eq_getElem (show c < r.length by omega)]
    have h4 := prod_bd h3 ⟨h2.lo, by have := h2.le; have := h2.hi; omega⟩
    have h5 := prod_bd h3 ⟨by have := h2.le; have := h2.lo; omega, h2.hi⟩
    have h6 : r[c]'(by omega) * (cont b c q).lo ≤ r[c]'(by omega) * (cont b c q).hi := Int.mul_le_mul_of_nonneg_left h2.le h3.1
    unfold loSum hiSum at h1 ⊢
    rw [List.range_succ, List.map_append, List.map_append, List.map_singleton, List.map_singleton, sum_snoc, sum_snoc, e]
    omega

theorem gAt_ok {b : Bat} (h : OkB b) {r : List Int} (hr : ∀ x ∈ r, 0 ≤ x ∧ x ≤ 10000) (hl : r.length = b.mats.length) (q : Nat) (hq : q < b.oxides.length) :
    gAt b r b.mats.length q = ⟨loSum b r b.mats.length q, hiSum b r b.mats.length q⟩ := by
  have h1 := sums_ok h hr hl q hq b.mats.length (Nat.le_refl _)
  have h2 := h.mt
  unfold gAt
  rw [wrap_id _ (by unfold I64; omega), wrap_id _ (by unfold I64; omega)]

theorem grams_ok {b : Bat} (h : OkB b) {r : List Int} (hr : ∀ x ∈ r, 0 ≤ x ∧ x ≤ 10000) (hl : r.length = b.mats.length) :
    ∀ s ∈ gramsB b r, 0 ≤ s.lo ∧ s.lo ≤ s.hi ∧ s.hi ≤ 120000000 := by
  intro s hs
  unfold gramsB gTo at hs
  obtain ⟨q, hq, rfl⟩ := List.mem_map.1 hs
  have hq := List.mem_range.1 hq
  rw [if_neg (by omega), gAt_ok h hr hl q hq]
  have h1 := sums_ok h hr hl q hq b.mats.length (Nat.le_refl _)
  have h2 := h.mt
  simp only
  omega

theorem sum_bd (f : Sp → Int) (m : Int) (hm : 0 ≤ m) : ∀ l : List Sp, (∀ s ∈ l, 0 ≤ f s ∧ f s ≤ m) → 0 ≤ (l.map f).sum ∧ (l.map f).sum ≤ m * l.length := by
  intro l
  induction l with
  | nil => intro _; simp
  | cons a l ih =>
    intro h
    have h1 := ih fun s hs => h s (List.mem_cons_of_mem _ hs)
    have h2 := h a List.mem_cons_self
    rw [List.map_cons, List.sum_cons, List.length_cons, Int.natCast_succ, Int.mul_add]
    omega

theorem tot_ok {b : Bat} (h : OkB b) {r : List Int} (hr : ∀ x ∈ r, 0 ≤ x ∧ x ≤ 10000) (hl : r.length = b.mats.length) :
    (tot (gramsB b r)).lo = ((gramsB b r).map Sp.lo).sum ∧ (tot (gramsB b r)).hi = ((gramsB b r).map Sp.hi).sum ∧ 0 ≤ ((gramsB b r).map Sp.lo).sum ∧ ((gramsB b r).map Sp.lo).sum ≤ 1440000000 ∧ 0 ≤ ((gramsB b r).map Sp.hi).sum ∧ ((gramsB b r).map Sp.hi).sum ≤ 1440000000 := by
  have hg := grams_ok h hr hl
  have hlen : (gramsB b r).length = b.oxides.length := gTo_len _ _ _ _
  have ho := h.ox
  have h1 := sum_bd Sp.lo 120000000 (by omega) (gramsB b r) fun s hs => by have := hg s hs; omega
  have h2 := sum_bd Sp.hi 120000000 (by omega) (gramsB b r) fun s hs => by have := hg s hs; omega
  rw [hlen] at h1 h2
  unfold tot
  simp only
  rw [wrap_id _ (by unfold I64; omega), wrap_id _ (by unfold I64; omega)]
  omega

theorem value_I64 {c : List Int} {g : List Sp} (h : MeanOk c g) : I64 (valueB c g).lo ∧ I64 (valueB c g).hi := by
  have h1 := gm_bd h
  have h2 := gm_bd (neg_ok h)
  unfold valueB I64
  simp only
  omega

end Go.Proofs.YtaldpalhckdcdaaGreatDoor.B1
namespace Go.Proofs.YtaldpalhckdcdaaGreatDoor.B1
open Go.RowKit Go.PlainAid
set_option linter.unusedVariables false
def exSi : ByteArray := ⟨#[115, 105]⟩

def exNa : ByteArray := ⟨#[110, 97]⟩

def exSand : ByteArray := ⟨#[115, 97, 110, 100]⟩

def exSoda : ByteArray := ⟨#[115, 111, 100, 97]⟩

def exB : Bat := ⟨[exSi, exNa], [⟨exSand, 1, 0, 0, 200, 20, [⟨980, 1000⟩, ⟨0, 0⟩]⟩, ⟨exSoda, 4, 0, 0, 100, 20, [⟨0, 0⟩, ⟨570, 580⟩]⟩], [⟨700, 800⟩, ⟨200, 300⟩], [], ⟨-9999, 9999⟩, 100⟩

def RetBat (w : World) (b : Bat) (e : Ending) (w' : World) : Prop := ∃ v, e = .returned v ∧ RBat (vis (w.heap.size ≤ ·) w') v b ∧ Below w.heap.size w w'

theorem _root_.Go.Proofs.YtaldpalhckdcdaaGreatDoor.Blk.vis {S : Nat → Prop} {w : World} {k : Nat} {cs : Array Value} {t : TypeId} (h : Blk w k cs t) (hS : S k) : Blk (vis S w) k cs t := by
  unfold Blk at *; rw [vis_block hS]; exact h

theorem six (w : World) (c0 c1 c2 c3 c4 c5 : Array Value) (t0 t1 t2 t3 t4 t5 : TypeId) :
    Blk ((((((w.alloc (.cells c0 t0)).alloc (.cells c1 t1)).alloc (.cells c2 t2)).alloc (.cells c3 t3)).alloc (.cells c4 t4)).alloc (.cells c5 t5)) w.heap.size c0 t0 ∧
    Blk ((((((w.alloc (.cells c0 t0)).alloc (.cells c1 t1)).alloc (.cells c2 t2)).alloc (.cells c3 t3)).alloc (.cells c4 t4)).alloc (.cells c5 t5)) (w.heap.size + 1) c1 t1 ∧
    Blk ((((((w.alloc (.cells c0 t0)).alloc (.cells c1 t1)).alloc (.cells c2 t2)).alloc (.cells c3 t3)).alloc (.cells c4 t4)).alloc (.cells c5 t5)) (w.heap.size + 1 + 1) c2 t2 ∧
    Blk ((((((w.alloc (.cells c0 t0)).alloc (.cells c1 t1)).alloc (.cells c2 t2)).alloc (.cells c3 t3)).alloc (.cells c4 t4)).alloc (.cells c5 t5)) (w.heap.size + 1 + 1 + 1) c3 t3 ∧
    Blk ((((((w.alloc (.cells c0 t0)).alloc (.cells c1 t1)).alloc (.cells c2 t2)).alloc (.cells c3 t3)).alloc (.cells c4 t4)).alloc (.cells c5 t5)) (w.heap.size + 1 + 1 + 1 + 1) c4 t4 ∧
    Blk ((((((w.alloc (.cells c0 t0)).alloc (.cells c1 t1)).alloc (.cells c2 t2)).alloc (.cells c3 t3)).alloc (.cells c4 t4)).alloc (.cells c5 t5)) (w.heap.size + 1 + 1 + 1 + 1 + 1) c5 t5 := by
  refine ⟨((((((Blk.new w c0 t0).alloc _).alloc _).alloc _).alloc _).alloc _), ?_, ?_, ?_, ?_, ?_⟩
  · have := (((((Blk.new (w.alloc (.cells c0 t0)) c1 t1).alloc (.cells c2 t2)).alloc (.cells c3 t3)).alloc (.cells c4 t4)).alloc (.cells c5 t5))
    simpa only [World.size_alloc] using this
  · have := ((((Blk.new ((w.alloc (.cells c0 t0)).alloc (.cells c1 t1)) c2 t2).alloc (.cells c3 t3)).alloc (.cells c4 t4)).alloc (.cells c5 t5))
    simpa only [World.size_alloc] using this
  · have := (((Blk.new (((w.alloc (.cells c0 t0)).alloc (.cells c1 t1)).alloc (.cells c2 t2)) c3 t3).alloc (.cells c4 t4)).alloc (.cells c5 t5))
    simpa only [World.size_alloc] using this
  · have := ((Blk.new ((((w.alloc (.cells c0 t0)).alloc (.cells c1 t1)).alloc (.cells c2 t2)).alloc (.cells c3 t3)) c4 t4).alloc (.cells c5 t5))
    simpa only [World.size_alloc] using this
  · have := Blk.new (((((w.alloc (.cells c0 t0)).alloc (.cells c1 t1)).alloc (.cells c2 t2)).alloc (.cells c3 t3)).alloc (.cells c4 t4)) c5 t5
    simpa only [World.size_alloc] using this

theorem two_at {α : Type} {R : World → Addr → α → Prop} {sz : Nat} {w : World} {k : Nat} {x y : α} (h0 : R w ⟨k, 0, none⟩ x) (h1 : R w ⟨k, sz, none⟩ y) : RSl sz R w (.slice (some ⟨k, 0, none⟩) 2 2) [x, y] := by
  refine ⟨some ⟨k, 0, none⟩, 2, rfl, Nat.le_refl _, ⟨by omega, by simp⟩, fun i hi => ⟨k, 0, rfl, ?_⟩⟩
  have hi2 : i < 2 := hi
  match i, hi2 with
  | 0, _ => simpa using h0
  | 1, _ => simpa using h1

theorem sp_at {w : World} {k : Nat} {cs : Array Value} {t : TypeId} (h : Blk w k cs t) (o : Nat) (a b : Int) (ha : cs[o]? = some (.int .i64 a)) (hb : cs[o + 1]? = some (.int .i64 b)) (ia : I64 a) (ib : I64 b) : RSp w ⟨k, o, none⟩ ⟨a, b⟩ :=
  ⟨h.cell o _ ha, h.cell (o + 1) _ hb, ia, ib⟩

theorem i64_lit {n : Int} (h : -9223372036854775808 ≤ n ∧ n ≤ 9223372036854775807) : I64 n := h

set_option maxRecDepth 100000 in
theorem example_any (w : World) : Calls Tryz.prog 14 #[] w (RetBat w exB) := by
  go_enter Tryz.func14, Tryz.ntmps14
  go_wp2
  obtain ⟨B0, B1, B2, B3, B4, B5⟩ := six w
    #[.slice (some ⟨w.heap.size + 1, 0, none⟩) 2 2, .slice (some ⟨w.heap.size + 1 + 1 + 1 + 1 + 1, 0, none⟩) 2 2, .slice (some ⟨w.heap.size + 1 + 1, 0, none⟩) 2 2, .slice none 0 0, .int .i64 (-9999), .int .i64 9999, .int .i64 100]
    #[.string exSi, .string exNa] #[.int .i64 700, .int .i64 800, .int .i64 200, .int .i64 300] #[.int .i64 980, .int .i64 1000, .int .i64 0, .int .i64 0] #[.int .i64 0, .int .i64 0, .int .i64 570, .int .i64 580]
    #[.string exSand, .int .i64 1, .int .i64 0, .int .i64 0, .int .i64 200, .int .i64 20, .slice (some ⟨w.heap.size + 1 + 1 + 1, 0, none⟩) 2 2, .string exSoda, .int .i64 4, .int .i64 0, .int .i64 0, .int .i64 100, .int .i64 20, .slice (some ⟨w.heap.size + 1 + 1 + 1 + 1, 0, none⟩) 2 2]
    56 9 27 27 27 105
  have hA : Below w.heap.size w ((((((w.alloc (.cells #[.slice (some ⟨w.heap.size + 1, 0, none⟩) 2 2, .slice (some ⟨w.heap.size + 1 + 1 + 1 + 1 + 1, 0, none⟩) 2 2, .slice (some ⟨w.heap.size + 1 + 1, 0, none⟩) 2 2, .slice none 0 0, .int .i64 (-9999), .int .i64 9999, .int .i64 100] 56)).alloc (.cells #[.string exSi, .string exNa] 9)).alloc (.cells #[.int .i64 700, .int .i64 800, .int .i64 200, .int .i64 300] 27)).alloc (.cells #[.int .i64 980, .int .i64 1000, .int .i64 0, .int .i64 0] 27)).alloc (.cells #[.int .i64 0, .int .i64 0, .int .i64 570, .int .i64 580] 27)).alloc (.cells #[.string exSand, .int .i64 1, .int .i64 0, .int .i64 0, .int .i64 200, .int .i64 20, .slice (some ⟨w.heap.size + 1 + 1 + 1, 0, none⟩) 2 2, .string exSoda, .int .i64 4, .int .i64 0, .int .i64 0, .int .i64 100, .int .i64 20, .slice (some ⟨w.heap.size + 1 + 1 + 1 + 1, 0, none⟩) 2 2] 105)) := by go_grown
  refine bodyPost_ret (v := .agg #[.slice (some ⟨w.heap.size + 1, 0, none⟩) 2 2, .slice (some ⟨w.heap.size + 1 + 1 + 1 + 1 + 1, 0, none⟩) 2 2, .slice (some ⟨w.heap.size + 1 + 1, 0, none⟩) 2 2, .slice none 0 0, .int .i64 (-9999), .int .i64 9999, .int .i64 100]) (by simp only [results, Tryz.results14]; simp [go_sem]) rfl ⟨_, rfl, ?_, hA⟩
  have V1 := B1.vis (S := (w.heap.size ≤ ·)) (by omega)
  have V2 := B2.vis (S := (w.heap.size ≤ ·)) (by omega)
  have V3 := B3.vis (S := (w.heap.size ≤ ·)) (by omega)
  have V4 := B4.vis (S := (w.heap.size ≤ ·)) (by omega)
  have V5 := B5.vis (S := (w.heap.size ≤ ·)) (by omega)
  have c3 : RSps _ (.slice (some ⟨w.heap.size + 1 + 1 + 1, 0, none⟩) 2 2) [⟨980, 1000⟩, ⟨0, 0⟩] := two_at (sp_at V3 0 _ _ rfl rfl (i64_lit (by omega)) (i64_lit (by omega))) (sp_at V3 2 _ _ rfl rfl (i64_lit (by omega)) (i64_lit (by omega)))
  have c4 : RSps _ (.slice (some ⟨w.heap.size + 1 + 1 + 1 + 1, 0, none⟩) 2 2) [⟨0, 0⟩, ⟨570, 580⟩] := two_at (sp_at V4 0 _ _ rfl rfl (i64_lit (by omega)) (i64_lit (by omega))) (sp_at V4 2 _ _ rfl rfl (i64_lit (by omega)) (i64_lit (by omega)))
  refine ⟨_, _, _, _, rfl, two_at ⟨V1.cell 0 _ rfl, by decide⟩ ⟨V1.cell 1 _ rfl, by decide⟩, two_at ?_ ?_, two_at (sp_at V2 0 _ _ rfl rfl (i64_lit (by omega)) (i64_lit (by omega))) (sp_at V2 2 _ _ rfl rfl (i64_lit (by omega)) (i64_lit (by omega))), ?_, i64_lit (by decide), i64_lit (by decide), i64_lit (by decide)⟩
  · exact ⟨_, ⟨V5.cell 0 _ rfl, V5.cell 1 _ rfl, V5.cell 2 _ rfl, V5.cell 3 _ rfl, V5.cell 4 _ rfl, V5.cell 5 _ rfl, V5.cell 6 _ rfl⟩, c3, by decide, i64_lit (by decide), i64_lit (by decide), i64_lit (by decide), i64_lit (by decide), i64_lit (by decide)⟩
  · exact ⟨_, ⟨V5.cell 7 _ rfl, V5.cell 8 _ rfl, V5.cell 9 _ rfl, V5.cell 10 _ rfl, V5.cell 11 _ rfl, V5.cell 12 _ rfl, V5.cell 13 _ rfl⟩, c4, by decide, i64_lit (by decide), i64_lit (by decide), i64_lit (by decide), i64_lit (by decide), i64_lit (by decide)⟩
  · exact ⟨none, 0, rfl, Nat.le_refl _, ⟨by omega, by simp [exB]⟩, fun i h => by simp [exB] at h⟩

end Go.Proofs.YtaldpalhckdcdaaGreatDoor.B1
namespace Go.Proofs.YtaldpalhckdcdaaGreatDoor.B1
open Go.RowKit Go.PlainAid Go.ChangeShapes Go.WideShapes Go.ChangeAt
set_option linter.unusedVariables false
section
variable {H : Type} {enc : TypeId × Value → H} {w : World} {base : Nat} {spare : Nat → Bool} {held : Bool}
def Light (t : TypeId) (d : DataW H) : Prop := ∀ n ∈ d.weights Tryz.prog t, n ≤ 140737488351232

/-- cells that read at a type are those of something. -/
def Rd {α : Type} (enc : TypeId × Value → H) (w : World) (base : Nat) (spare : Nat → Bool) (held : Bool) (t : TypeId) (V : List Value → α → Prop) : Prop :=
  ∀ fuel cs x, DataW.trod enc Tryz.prog w base spare held fuel t cs = some x → Light t x.1 → ∃ a, V cs a

theorem wf_I64 {n : Int} (h : (Lit.int .i64 n).wf = true) : I64 n := by
  simp only [Lit.wf, Bool.and_eq_true, decide_eq_true_eq, IntKind.min, IntKind.max, IntKind.signed, IntKind.bits] at h
  unfold I64
  simp at h
  omega

def CInt (cs : List Value) (n : Int) : Prop := cs = [.int .i64 n] ∧ I64 n

theorem rd_int : Rd enc w base spare held 3 CInt := fun fuel cs x h _ => by
  obtain ⟨n, rfl, _, hw⟩ := DataW.trod_int Tryz.underlying3 h
  exact ⟨n, rfl, wf_I64 hw⟩

def CStr (cs : List Value) (s : ByteArray) : Prop := cs = [.string s] ∧ s.size ≤ 140737488351232

theorem rd_str : Rd enc w base spare held 9 CStr := fun fuel cs x h hl => by
  obtain ⟨s, rfl, rfl, hw⟩ := DataW.trod_string Tryz.underlying9 h
  refine ⟨s, rfl, ?_⟩
  have := hl s.data.toList.length (by simp [DataW.weights])
  simpa using this

theorem plain_add (b off k : Nat) : (⟨b, off, none⟩ : Addr).add k = ⟨b, off + k, none⟩ := by
  unfold Addr.add
  split
  · rename_i h; subst h; rfl
  · rfl

theorem weights_elem {e : TypeId} : ∀ {l : List (DataW H)} {d : DataW H}, d ∈ l → ∀ n ∈ d.weights Tryz.prog e, n ∈ DataW.weightsAll Tryz.prog e l
  | a :: l, d, h, n, hn => by
    simp only [DataW.weightsAll, List.mem_append]
    rcases List.mem_cons.1 h with rfl | h
    · exact .inl hn
    · exact .inr (weights_elem h n hn)

theorem rd_slice {α : Type} {t e : TypeId} {sz : Nat} {V : List Value → α → Prop} {R : World → Addr → α → Prop} (ht : Tryz.prog.underlying t = some (.slice e)) (hC : Tryz.prog.cellsOf e = sz) (h0 : 0 < sz) (hb : 0 < Tryz.prog.bytesOf e)
    (he : Rd enc w base spare held e V) (hlink : ∀ b o cs a, V cs a → cs.length = sz → (∀ j (h : j < cs.length), w.cell? ⟨b, o + j, none⟩ = some (cs[j]'h)) → R w ⟨b, o, none⟩ a) :
    Rd enc w base spare held t fun cs l => ∃ v, cs = [v] ∧ RSl sz R w v l := by
  intro fuel cs x h hl
  rcases DataW.trod_slice ht h with ⟨rfl, rfl⟩ | ⟨a, len, cap, elems, rest, n, rfl, rfl, rfl, _, hlc, hcm, hlen, hel, _, _⟩
  · exact ⟨[], _, rfl, none, 0, rfl, Nat.le_refl _, ⟨by omega, by simp⟩, fun i hi => by simp at hi⟩
  · have hw : len ≤ 140737488351232 := by
      have := hl ((elems.length + rest.length) * Tryz.prog.bytesOf e) (by simp [DataW.weights, ht])
      have h1 : len * 1 ≤ (elems.length + rest.length) * Tryz.prog.bytesOf e := Nat.mul_le_mul (by omega) hb
      omega
    have key : ∀ i, i < len → ∃ x : α, (∃ cs', V cs' x ∧ cs'.length = sz ∧ ∀ j, j < sz → w.cell? (a.add (i * sz + j)) = cs'[j]?) := by
      intro i hi
      have h1 := hel i hi
      rw [List.getElem?_eq_getElem (by omega)] at h1
      obtain ⟨cs', hc, ht'⟩ := Option.bind_eq_some_iff.1 h1
      rw [hC] at hc
      obtain ⟨_, hcl, hat⟩ := World.cells?_some hc
      obtain ⟨x, hx⟩ := he _ _ _ ht' fun m hm => hl m (by
        simp only [DataW.weights, ht, List.mem_cons, List.mem_append]
        exact .inr (.inl (weights_elem (List.mem_map_of_mem (List.getElem_mem (by omega))) m hm)))
      refine ⟨x, cs', hx, hcl, fun j hj => ?_⟩
      rw [← Go.Deep.add_add]
      exact hat j hj
    refine ⟨(List.range len).attach.map fun i => (key i.1 (List.mem_range.1 i.2)).choose, _, rfl, some a, cap, by simp, by simpa using hlc, ⟨by simpa [maxLen] using hcm, by simpa using hw⟩, fun i hi => ?_⟩
    have hi' : i < len := by simpa using hi
    obtain ⟨cs', hV, hcl, hat⟩ := (key i hi').choose_spec
    obtain ⟨b, off, spot⟩ := a
    have hspot : spot = none := by
      by_cases hi0 : i = 0
      · subst hi0
        have := hat 0 h0
        rw [List.getElem?_eq_getElem (by omega)] at this
        simp only [Nat.zero_mul, Nat.add_zero, Addr.add, if_true] at this
        exact World.cell?_spot this
      · have hl0 : 0 < len := by omega
        obtain ⟨cs0, _, hcl0, hat0⟩ := (key 0 hl0).choose_spec
        have := hat0 0 h0
        rw [List.getElem?_eq_getElem (by omega)] at this
        simp only [Nat.zero_mul, Nat.add_zero, Addr.add, if_true] at this
        exact World.cell?_spot this
    subst hspot
    refine ⟨b, off, rfl, ?_⟩
    have hget : ((List.range len).attach.map fun i => (key i.1 (List.mem_range.1 i.2)).choose)[i]'hi = (key i hi').choose := by simp only [List.getElem_map, List.getElem_attach, List.getElem_range]
    rw [hget]
    refine hlink _ _ cs' _ hV hcl fun j hj => ?_
    have h2 := hat j (by omega)
    rw [List.getElem?_eq_getElem hj] at h2
    rw [plain_add] at h2
    rw [Nat.add_assoc]
    exact h2

theorem rd_ints : Rd enc w base spare held 36 fun cs l => ∃ v, cs = [v] ∧ RInts w v l :=
  rd_slice Tryz.underlying36 (by kernel_rfl) (by decide) (by rw [show Tryz.prog.bytesOf 3 = 8 from by kernel_rfl]; decide) rd_int fun b o cs a ⟨h1, h2⟩ _ hc => by
    subst h1
    exact ⟨by simpa using hc 0 (by simp), h2⟩

theorem rd_strs : Rd enc w base spare held 52 fun cs l => ∃ v, cs = [v] ∧ RStrs w v l :=
  rd_slice Tryz.underlying52 (by kernel_rfl) (by decide) (by rw [show Tryz.prog.bytesOf 9 = 16 from by kernel_rfl]; decide) rd_str fun b o cs a ⟨h1, h2⟩ _ hc => by
    subst h1
    exact ⟨by simpa using hc 0 (by simp), h2⟩

end
end Go.Proofs.YtaldpalhckdcdaaGreatDoor.B1
namespace Go.Proofs.YtaldpalhckdcdaaGreatDoor.B1
open Go.RowKit Go.PlainAid Go.ChangeShapes Go.WideShapes Go.ChangeAt
set_option linter.unusedVariables false
theorem len2 {α : Type} : ∀ {cs : List α}, cs.length = 2 → ∃ c0 c1, cs = [c0, c1]
  | [c0, c1], _ => ⟨_, _, rfl⟩

theorem len4 {α : Type} : ∀ {cs : List α}, cs.length = 4 → ∃ c0 c1 c2 c3, cs = [c0, c1, c2, c3]
  | [c0, c1, c2, c3], _ => ⟨_, _, _, _, rfl⟩

theorem len7 {α : Type} : ∀ {cs : List α}, cs.length = 7 → ∃ c0 c1 c2 c3 c4 c5 c6, cs = [c0, c1, c2, c3, c4, c5, c6]
  | [c0, c1, c2, c3, c4, c5, c6], _ => ⟨_, _, _, _, _, _, _, rfl⟩

section
variable {H : Type} {enc : TypeId × Value → H} {w : World} {base : Nat} {spare : Nat → Bool} {held : Bool}
theorem struct_field {t : TypeId} {fs : Array Field} {fuel : Nat} {cs : List Value} {x : DataW H × List MemPlace} (ht : Tryz.prog.underlying t = some (.struct fs)) (h : DataW.trod enc Tryz.prog w base spare held fuel t cs = some x) (hl : Light t x.1) :
    cs.length = Tryz.prog.cellsOf t ∧ ∀ (i : Nat) (ft : TypeId) (o : Nat), fs[i]?.map (fun f => (f.type, f.offset)) = some (ft, o) → ∃ n y, DataW.trod enc Tryz.prog w base spare held n ft ((cs.drop o).take (Tryz.prog.cellsOf ft)) = some y ∧ Light ft y.1 := by
  obtain ⟨xs, n, rfl, rfl, hcl, hxl, hf⟩ := DataW.trod_struct ht h
  refine ⟨hcl, fun i ft o hio => ?_⟩
  obtain ⟨f, hi, hfo⟩ := Option.map_eq_some_iff.1 hio
  obtain ⟨rfl, rfl⟩ := Prod.mk.inj hfo
  have hlt : i < fs.size := (Array.getElem?_eq_some_iff.1 hi).1
  have h1 := hf i f hi
  rw [List.getElem?_eq_getElem (by omega)] at h1
  refine ⟨n, _, h1, fun m hm => hl m ?_⟩
  simp only [DataW.weights, ht]
  refine DataW.weights_mem_each (j := i) (t := f.type) (d := (xs[i]'(by omega)).1) ?_ ?_ m hm
  · rw [List.getElem?_map]
    have : fs.toList[i]? = some f := by simpa using hi
    rw [this]; rfl
  · rw [List.getElem?_map, List.getElem?_eq_getElem (by omega)]; rfl

theorem cells_int : Tryz.prog.cellsOf 3 = 1 := by kernel_rfl

theorem cells_string : Tryz.prog.cellsOf 9 = 1 := by kernel_rfl

theorem cells_span : Tryz.prog.cellsOf 27 = 2 := by kernel_rfl

theorem cells_mat : Tryz.prog.cellsOf 105 = 7 := by kernel_rfl

theorem cells_prp : Tryz.prog.cellsOf 59 = 4 := by kernel_rfl

theorem cells_bat : Tryz.prog.cellsOf 56 = 7 := by kernel_rfl

theorem cells_ints : Tryz.prog.cellsOf 36 = 1 := by kernel_rfl

theorem cells_strs : Tryz.prog.cellsOf 52 = 1 := by kernel_rfl

theorem cells_sps : Tryz.prog.cellsOf 28 = 1 := by kernel_rfl

theorem cells_mats : Tryz.prog.cellsOf 53 = 1 := by kernel_rfl

theorem cells_prps : Tryz.prog.cellsOf 54 = 1 := by kernel_rfl

def CSp (cs : List Value) (s : Sp) : Prop := cs = [.int .i64 s.lo, .int .i64 s.hi] ∧ I64 s.lo ∧ I64 s.hi

theorem rd_span : Rd enc w base spare held 27 CSp := fun fuel cs x h hl => by
  obtain ⟨hc, hf⟩ := struct_field Tryz.underlying27 h hl
  rw [cells_span] at hc
  obtain ⟨c0, c1, rfl⟩ := len2 hc
  obtain ⟨n0, y0, h0, l0⟩ := hf 0 3 0 rfl
  obtain ⟨n1, y1, h1, l1⟩ := hf 1 3 1 rfl
  simp only [cells_int, List.drop_zero, List.drop_succ_cons, List.take_succ_cons, List.take_zero] at h0 h1
  obtain ⟨a, e0, i0⟩ := rd_int _ _ _ h0 l0
  obtain ⟨b, e1, i1⟩ := rd_int _ _ _ h1 l1
  simp only [List.cons.injEq, and_true] at e0 e1
  subst e0 e1
  exact ⟨⟨a, b⟩, rfl, i0, i1⟩

theorem rd_sps : Rd enc w base spare held 28 fun cs l => ∃ v, cs = [v] ∧ RSps w v l :=
  rd_slice Tryz.underlying28 cells_span (by decide) (by rw [show Tryz.prog.bytesOf 27 = 16 from by kernel_rfl]; decide) rd_span fun b o cs a ⟨h1, h2, h3⟩ _ hc => by
    subst h1
    exact ⟨by simpa using hc 0 (by simp), by simpa using hc 1 (by simp), h2, h3⟩

def CMat (w : World) (cs : List Value) (m : Mat) : Prop :=
  ∃ c, cs = [.string m.name, .int .i64 m.price, .int .i64 m.redox, .int .i64 m.least, .int .i64 m.most, .int .i64 m.step, c] ∧ RSps w c m.content ∧ m.name.size ≤ 140737488351232 ∧ I64 m.price ∧ I64 m.redox ∧ I64 m.least ∧ I64 m.most ∧ I64 m.step

theorem rd_mat : Rd enc w base spare held 105 (CMat w) := fun fuel cs x h hl => by
  obtain ⟨hc, hf⟩ := struct_field Tryz.underlying105 h hl
  rw [cells_mat] at hc
  obtain ⟨c0, c1, c2, c3, c4, c5, c6, rfl⟩ := len7 hc
  obtain ⟨n0, y0, h0, l0⟩ := hf 0 9 0 rfl
  obtain ⟨n1, y1, h1, l1⟩ := hf 1 3 1 rfl
  obtain ⟨n2, y2, h2, l2⟩ := hf 2 3 2 rfl
  obtain ⟨n3, y3, h3, l3⟩ := hf 3 3 3 rfl
  obtain ⟨n4, y4, h4, l4⟩ := hf 4 3 4 rfl
  obtain ⟨n5, y5, h5, l5⟩ := hf 5 3 5 rfl
  obtain ⟨n6, y6, h6, l6⟩ := hf 6 28 6 rfl
  simp only [cells_int, cells_string, cells_sps, List.drop_zero, List.drop_succ_cons, List.take_succ_cons, List.take_zero] at h0 h1 h2 h3 h4 h5 h6
  obtain ⟨a0, e0, i0⟩ := rd_str _ _ _ h0 l0
  obtain ⟨a1, e1, i1⟩ := rd_int _ _ _ h1 l1
  obtain ⟨a2, e2, i2⟩ := rd_int _ _ _ h2 l2
  obtain ⟨a3, e3, i3⟩ := rd_int _ _ _ h3 l3
  obtain ⟨a4, e4, i4⟩ := rd_int _ _ _ h4 l4
  obtain ⟨a5, e5, i5⟩ := rd_int _ _ _ h5 l5
  obtain ⟨a6, v6, e6, i6⟩ := rd_sps _ _ _ h6 l6
  simp only [List.cons.injEq, and_true] at e0 e1 e2 e3 e4 e5 e6
  subst e0 e1 e2 e3 e4 e5 e6
  exact ⟨⟨a0, a1, a2, a3, a4, a5, a6⟩, _, rfl, i6, i0, i1, i2, i3, i4, i5⟩

theorem rd_mats : Rd enc w base spare held 53 fun cs l => ∃ v, cs = [v] ∧ RMats w v l :=
  rd_slice Tryz.underlying53 cells_mat (by decide) (by rw [show Tryz.prog.bytesOf 105 = 80 from by kernel_rfl]; decide) rd_mat fun b o cs a ⟨c, h1, h2⟩ _ hc => by
    subst h1
    exact ⟨c, ⟨by simpa using hc 0 (by simp), by simpa using hc 1 (by simp), by simpa using hc 2 (by simp), by simpa using hc 3 (by simp), by simpa using hc 4 (by simp), by simpa using hc 5 (by simp), by simpa using hc 6 (by simp)⟩, h2⟩

def CPrp (w : World) (cs : List Value) (m : Prp) : Prop :=
  ∃ c, cs = [.string m.name, c, .int .i64 m.target.lo, .int .i64 m.target.hi] ∧ RInts w c m.coefs ∧ m.name.size ≤ 140737488351232 ∧ I64 m.target.lo ∧ I64 m.target.hi

theorem rd_prp : Rd enc w base spare held 59 (CPrp w) := fun fuel cs x h hl => by
  obtain ⟨hc, hf⟩ := struct_field Tryz.underlying59 h hl
  rw [cells_prp] at hc
  obtain ⟨c0, c1, c2, c3, rfl⟩ := len4 hc
  obtain ⟨n0, y0, h0, l0⟩ := hf 0 9 0 rfl
  obtain ⟨n1, y1, h1, l1⟩ := hf 1 36 1 rfl
  obtain ⟨n2, y2, h2, l2⟩ := hf 2 27 2 rfl
  simp only [cells_string, cells_ints, cells_span, List.drop_zero, List.drop_succ_cons, List.take_succ_cons, List.take_zero] at h0 h1 h2
  obtain ⟨a0, e0, i0⟩ := rd_str _ _ _ h0 l0
  obtain ⟨a1, v1, e1, i1⟩ := rd_ints _ _ _ h1 l1
  obtain ⟨a2, e2, i2, i3⟩ := rd_span _ _ _ h2 l2
  simp only [List.cons.injEq, and_true] at e0 e1 e2
  obtain ⟨rfl, rfl⟩ := e2
  subst e0 e1
  exact ⟨⟨a0, a1, a2⟩, _, rfl, i1, i0, i2, i3⟩

theorem rd_prps : Rd enc w base spare held 54 fun cs l => ∃ v, cs = [v] ∧ RPrps w v l :=
  rd_slice Tryz.underlying54 cells_prp (by decide) (by rw [show Tryz.prog.bytesOf 59 = 56 from by kernel_rfl]; decide) rd_prp fun b o cs a ⟨c, h1, h2⟩ _ hc => by
    subst h1
    exact ⟨c, ⟨by simpa using hc 0 (by simp), by simpa using hc 1 (by simp), by simpa using hc 2 (by simp), by simpa using hc 3 (by simp)⟩, h2⟩

theorem rd_bat : Rd enc w base spare held 56 fun cs b => RBat w (.agg cs.toArray) b := fun fuel cs x h hl => by
  obtain ⟨hc, hf⟩ := struct_field Tryz.underlying56 h hl
  rw [cells_bat] at hc
  obtain ⟨c0, c1, c2, c3, c4, c5, c6, rfl⟩ := len7 hc
  obtain ⟨n0, y0, h0, l0⟩ := hf 0 52 0 rfl
  obtain ⟨n1, y1, h1, l1⟩ := hf 1 53 1 rfl
  obtain ⟨n2, y2, h2, l2⟩ := hf 2 28 2 rfl
  obtain ⟨n3, y3, h3, l3⟩ := hf 3 54 3 rfl
  obtain ⟨n4, y4, h4, l4⟩ := hf 4 27 4 rfl
  obtain ⟨n5, y5, h5, l5⟩ := hf 5 3 6 rfl
  simp only [cells_int, cells_strs, cells_mats, cells_sps, cells_prps, cells_span, List.drop_zero, List.drop_succ_cons, List.take_succ_cons, List.take_zero] at h0 h1 h2 h3 h4 h5
  obtain ⟨a0, v0, e0, i0⟩ := rd_strs _ _ _ h0 l0
  obtain ⟨a1, v1, e1, i1⟩ := rd_mats _ _ _ h1 l1
  obtain ⟨a2, v2, e2, i2⟩ := rd_sps _ _ _ h2 l2
  obtain ⟨a3, v3, e3, i3⟩ := rd_prps _ _ _ h3 l3
  obtain ⟨a4, e4, i4, i4'⟩ := rd_span _ _ _ h4 l4
  obtain ⟨a5, e5, i5⟩ := rd_int _ _ _ h5 l5
  simp only [List.cons.injEq, and_true] at e0 e1 e2 e3 e4 e5
  obtain ⟨rfl, rfl⟩ := e4
  subst e0 e1 e2 e3 e5
  exact ⟨⟨a0, a1, a2, a3, a4, a5⟩, _, _, _, _, rfl, i0, i1, i2, i3, i4, i4', i5⟩

end
end Go.Proofs.YtaldpalhckdcdaaGreatDoor.B1
namespace Go.Proofs.YtaldpalhckdcdaaGreatDoor.B1
open Go.ChangeShapes Go.WideShapes Go.ChangeAt Go.RowKit Go.PlainAid
set_option linter.unusedVariables false
theorem own : ownKnob Tryz.prog.godebug = none := by kernel_rfl

end Go.Proofs.YtaldpalhckdcdaaGreatDoor.B1
namespace Go.Proofs.YtaldpalhckdcdaaGreatDoor.B1
open Go.RowKit Go.PlainAid
set_option linter.unusedVariables false
/-- a span, and an error. -/
def RetSpE (w : World) (p : Sp × Int) (e : Ending) (w' : World) : Prop := e = .returned (.tuple #[.agg #[.int .i64 p.1.lo, .int .i64 p.1.hi], .int .i64 p.2]) ∧ Below w.heap.size w w'

def valB (b : Bat) (r : List Int) (n : Nat) : Sp × Int :=
  if bothB b r ≠ 0 then (⟨0, 0⟩, bothB b r) else if h : n < b.props.length then (if (tot (gramsB b r)).lo = 0 then (⟨0, 0⟩, 8) else (valueB (b.props[n]).coefs (gramsB b r), 0)) else (⟨0, 0⟩, 7)

theorem coefs_ok {b : Bat} (h : OkB b) {r : List Int} (hr : ∀ x ∈ r, 0 ≤ x ∧ x ≤ 10000) (hl : r.length = b.mats.length) (hp : (tot (gramsB b r)).lo ≠ 0) {p : Prp} (hm : p ∈ b.props) : MeanOk p.coefs (gramsB b r) := by
  have hg := grams_ok h hr hl
  have ht := tot_ok h hr hl
  have hlen : (gramsB b r).length = b.oxides.length := gTo_len _ _ _ _
  have hq := h.props p hm
  exact ⟨by rw [hlen, hq.len], by rw [hq.len]; exact h.ox, hq.coefs, fun s hs => by have := hg s hs; omega, by rw [ht.1] at hp; omega⟩

set_option maxRecDepth 100000 in
theorem val_any (v rv : Value) (b : Bat) (r : List Int) (n : Nat) (hn : (n : Int) ≤ 1000000) (w : World) (h : RBat w v b) (hr : RInts w rv r) :
    Calls Tryz.prog 15 #[v, rv, .int .i64 n] w (RetSpE w (valB b r n)) := by
  obtain ⟨a0, k0, a1, k1, a2, k2, a3, k3, rfl⟩ := h.agg
  have hA := below_two w (.cells #[.slice a0 b.oxides.length k0, .slice a1 b.mats.length k1, .slice a2 b.shares.length k2, .slice a3 b.props.length k3, .int .i64 b.redox.lo, .int .i64 b.redox.hi, .int .i64 b.wanted] 56) (.cells #[.int .i64 0, .int .i64 0] 27)
  have hB := (Blk.new w #[.slice a0 b.oxides.length k0, .slice a1 b.mats.length k1, .slice a2 b.shares.length k2, .slice a3 b.props.length k3, .int .i64 b.redox.lo, .int .i64 b.redox.hi, .int .i64 b.wanted] 56).alloc (.cells #[.int .i64 0, .int .i64 0] 27)
  have hC : Blk ((w.alloc (.cells #[.slice a0 b.oxides.length k0, .slice a1 b.mats.length k1, .slice a2 b.shares.length k2, .slice a3 b.props.length k3, .int .i64 b.redox.lo, .int .i64 b.redox.hi, .int .i64 b.wanted] 56)).alloc (.cells #[.int .i64 0, .int .i64 0] 27)) (w.heap.size + 1) #[.int .i64 0, .int .i64 0] 27 := by
    have := Blk.new (w.alloc (.cells #[.slice a0 b.oxides.length k0, .slice a1 b.mats.length k1, .slice a2 b.shares.length k2, .slice a3 b.props.length k3, .int .i64 b.redox.lo, .int .i64 b.redox.hi, .int .i64 b.wanted] 56)) #[.int .i64 0, .int .i64 0] 27
    simpa using this
  go_enter Tryz.func15, Tryz.ntmps15
  go_wp2_with fail
  generalize (w.alloc (.cells #[.slice a0 b.oxides.length k0, .slice a1 b.mats.length k1, .slice a2 b.shares.length k2, .slice a3 b.props.length k3, .int .i64 b.redox.lo, .int .i64 b.redox.hi, .int .i64 b.wanted] 56)).alloc (.cells #[.int .i64 0, .int .i64 0] 27) = W at *
  refine (checkBoth_any _ _ b r _ (h.mono (ext_of_below hA)) (hr.mono (ext_of_below hA))).mono ?_
  rintro e w1 ⟨rfl, hb1⟩
  have hA1 := hA.trans (hb1.mono hA.size)
  have hB1 := hB.below hb1 hB.lt
  have hC1 := hC.below hb1 hC.lt
  clear hA hB hC hb1
  by_cases e1 : bothB b r = 0
  case neg =>
    have e1' : (bothB b r != 0) = true := by simp [e1]
    have hfin := Lib.hid (show valB b r n = (⟨0, 0⟩, bothB b r) by simp [valB, e1])
    have z0 : w1.cell? ⟨w.heap.size + 1, 0, none⟩ = some (.int .i64 0) := hC1.cell 0 _ rfl
    have z1 : w1.cell? ⟨w.heap.size + 1, 1, none⟩ = some (.int .i64 0) := hC1.cell 1 _ rfl
    have y0 := hC1.frozen 0
    have y1 := hC1.frozen 1
    clear hB1 e1
    go_wp2
    have B9 := (hC1.set 0 (.int .i64 0)).set 1 (.int .i64 0)
    have d0 := B9.cell 0 (.int .i64 0) rfl
    have d1 := B9.cell 1 (.int .i64 0) rfl
    unfold RetSpE
    rw [hfin.out]
    exact bodyPost_ret (v := .tuple #[.agg #[.int .i64 0, .int .i64 0], .int .i64 (bothB b r)]) (by simp only [results, Tryz.results15]; simp [go_sem, d0, d1]) rfl ⟨rfl, (hA1.setCell (p := ⟨w.heap.size + 1, 0, none⟩) (by simp) _).setCell (p := ⟨w.heap.size + 1, 1, none⟩) (by simp) _⟩
  have e1' : (bothB b r != 0) = false := by simp [e1]
  obtain ⟨g1, g2, g3⟩ := rec_len e1
  have hok := ok_of g1
  have f0 := hB1.cell 0 (.slice a0 b.oxides.length k0) rfl
  have f1 := hB1.cell 1 (.slice a1 b.mats.length k1) rfl
  have f2 := hB1.cell 2 (.slice a2 b.shares.length k2) rfl
  have f3 := hB1.cell 3 (.slice a3 b.props.length k3) rfl
  have f4 := hB1.cell 4 (.int .i64 b.redox.lo) rfl
  have f5 := hB1.cell 5 (.int .i64 b.redox.hi) rfl
  have f6 := hB1.cell 6 (.int .i64 b.wanted) rfl
  have E1 := Lib.hid e1
  have G2 := Lib.hid g2
  have G3 := Lib.hid g3
  have hp6 := hok.pr
  clear e1 g1 g2 g3
  by_cases hnp : n < b.props.length
  case neg =>
    have hfin := Lib.hid (show valB b r n = (⟨0, 0⟩, 7) by simp [valB, E1.out, hnp])
    have hbt := between_any n 0 ((b.props.length : Int) - 1) w1
    rw [show (decide ((0 : Int) ≤ n) && decide ((n : Int) ≤ (b.props.length : Int) - 1)) = false from by simp; omega] at hbt
    have z0 : w1.cell? ⟨w.heap.size + 1, 0, none⟩ = some (.int .i64 0) := hC1.cell 0 _ rfl
    have z1 : w1.cell? ⟨w.heap.size + 1, 1, none⟩ = some (.int .i64 0) := hC1.cell 1 _ rfl
    have y0 := hC1.frozen 0
    have y1 := hC1.frozen 1
    clear hnp
    go_wp2_with fail
    refine hbt.mono ?_
    rintro e w2 ⟨rfl, rfl⟩
    clear hbt
    go_wp2
    have B9 := (hC1.set 0 (.int .i64 0)).set 1 (.int .i64 0)
    have d0 := B9.cell 0 (.int .i64 0) rfl
    have d1 := B9.cell 1 (.int .i64 0) rfl
    unfold RetSpE
    rw [hfin.out]
    exact bodyPost_ret (v := .tuple #[.agg #[.int .i64 0, .int .i64 0], .int .i64 7]) (by simp only [results, Tryz.results15]; simp [go_sem, d0, d1]) rfl ⟨rfl, (hA1.setCell (p := ⟨w.heap.size + 1, 0, none⟩) (by simp) _).setCell (p := ⟨w.heap.size + 1, 1, none⟩) (by simp) _⟩
  have hbt := between_any n 0 ((b.props.length : Int) - 1) w1
  rw [show (decide ((0 : Int) ≤ n) && decide ((n : Int) ≤ (b.props.length : Int) - 1)) = true from by simp; omega] at hbt
  have hgr := grams_any _ rv b r w1 (h.mono (ext_of_below hA1)) (hr.mono (ext_of_below hA1)) hok G2.out
  go_wp2_with fail
  refine hbt.mono ?_
  rintro e w2 ⟨rfl, rfl⟩
  clear hbt
  go_wp2_with fail
  refine hgr.mono ?_
  rintro e w2 ⟨vg, rfl, hvg, hb2⟩
  have hA2 := hA1.trans (hb2.mono hA1.size)
  have hB2 := hB1.below hb2 hB1.lt
  have hC2 := hC1.below hb2 hC1.lt
  have hvg2 := hvg.mono (vis_ext _ _)
  clear hgr f0 f1 f2 f3 f4 f5 f6 hB1 hC1 hA1 hb2 hvg
  go_wp2_with fail
  refine (total_any vg (gramsB b r) w2 hvg2).mono ?_
  rintro e w3 ⟨rfl, hb3⟩
  have hA3 := hA2.trans (hb3.mono hA2.size)
  have hB3 := hB2.below hb3 hB2.lt
  have hC3 := hC2.below hb3 hC2.lt
  have hvg3 := hvg2.mono (ext_of_below hb3)
  have hfd := fun w => field_lo (.int .i64 (tot (gramsB b r)).lo) (.int .i64 (tot (gramsB b r)).hi) w
  clear hB2 hC2 hA2 hb3 hvg2 e1'
  have z0 : w3.cell? ⟨w.heap.size + 1, 0, none⟩ = some (.int .i64 0) := hC3.cell 0 _ rfl
  have z1 : w3.cell? ⟨w.heap.size + 1, 1, none⟩ = some (.int .i64 0) := hC3.cell 1 _ rfl
  have y0 := hC3.frozen 0
  have y1 := hC3.frozen 1
  by_cases hz : (tot (gramsB b r)).lo = 0
  · have hfin := Lib.hid (show valB b r n = (⟨0, 0⟩, 8) by simp [valB, E1.out, hz, hnp])
    have hz' : ((tot (gramsB b r)).lo == 0) = true := by simp [hz]
    clear hz hvg3 hB3
    go_wp2
    have B9 := (hC3.set 0 (.int .i64 0)).set 1 (.int .i64 0)
    have d0 := B9.cell 0 (.int .i64 0) rfl
    have d1 := B9.cell 1 (.int .i64 0) rfl
    unfold RetSpE
    rw [hfin.out]
    exact bodyPost_ret (v := .tuple #[.agg #[.int .i64 0, .int .i64 0], .int .i64 8]) (by simp only [results, Tryz.results15]; simp [go_sem, d0, d1]) rfl ⟨rfl, (hA3.setCell (p := ⟨w.heap.size + 1, 0, none⟩) (by simp) _).setCell (p := ⟨w.heap.size + 1, 1, none⟩) (by simp) _⟩
  have hfin := Lib.hid (show valB b r n = (valueB (b.props[n]'hnp).coefs (gramsB b r), 0) by simp [valB, E1.out, hz, hnp])
  have hz' : ((tot (gramsB b r)).lo == 0) = false := by simp [hz]
  have hmo := coefs_ok hok G3.out G2.out hz (List.getElem_mem hnp)
  have m3 : w3.cell? ⟨w.heap.size, 3, none⟩ = some (.slice a3 b.props.length k3) := hB3.cell 3 _ rfl
  obtain ⟨v0, v1, v2, v3, ev, q0, q1, q2, q3, i1, i2, i3⟩ := h
  simp only [Value.agg.injEq, Array.mk.injEq, List.cons.injEq, and_true] at ev
  obtain ⟨-, -, -, rfl, -⟩ := ev
  obtain ⟨ap, kp, ep, -, ⟨-, lp⟩, hl3⟩ := q3
  simp only [Value.slice.injEq, true_and] at ep
  obtain ⟨rfl, rfl⟩ := ep
  obtain ⟨b1, o1, rfl, vc, ⟨t0, t1, t2, t3⟩, hco, hs⟩ := hl3 n hnp
  obtain ⟨ac, kc, rfl, -, -, -⟩ := id hco
  simp only at t1
  have t1' := ext_of_below hA3 _ _ t1
  have hbp := cell_lt t1
  simp only at hbp
  have hva := value_any _ vg _ _ w3 (hco.mono (ext_of_below hA3)) hvg3 hmo
  have hvi := value_I64 hmo
  clear hl3 t0 t1 t2 t3 q0 q1 q2 hs i1 i2 i3 hco hmo hB3 hz
  generalize b.props[n] = p at *
  go_wp2_with fail
  refine hva.mono ?_
  rintro e w4 ⟨rfl, hb4⟩
  have hA4 := hA3.trans (hb4.mono hA3.size)
  have hC4 := hC3.below hb4 hC3.lt
  clear hva hb4 hA3 hC3 z0 z1 y0 y1
  have z0 : w4.cell? ⟨w.heap.size + 1, 0, none⟩ = some (.int .i64 0) := hC4.cell 0 _ rfl
  have z1 : w4.cell? ⟨w.heap.size + 1, 1, none⟩ = some (.int .i64 0) := hC4.cell 1 _ rfl
  have y0 := hC4.frozen 0
  have y1 := hC4.frozen 1
  go_wp2
  have B9 := (hC4.set 0 (.int .i64 (valueB p.coefs (gramsB b r)).lo)).set 1 (.int .i64 (valueB p.coefs (gramsB b r)).hi)
  have d0 := B9.cell 0 (.int .i64 (valueB p.coefs (gramsB b r)).lo) rfl
  have d1 := B9.cell 1 (.int .i64 (valueB p.coefs (gramsB b r)).hi) rfl
  unfold RetSpE
  rw [hfin.out]
  exact bodyPost_ret (v := .tuple #[.agg #[.int .i64 (valueB p.coefs (gramsB b r)).lo, .int .i64 (valueB p.coefs (gramsB b r)).hi], .int .i64 0]) (by simp only [results, Tryz.results15]; simp [go_sem, d0, d1]) rfl ⟨rfl, (hA4.setCell (p := ⟨w.heap.size + 1, 0, none⟩) (by simp) _).setCell (p := ⟨w.heap.size + 1, 1, none⟩) (by simp) _⟩

end Go.Proofs.YtaldpalhckdcdaaGreatDoor.B1
namespace Go.Proofs.YtaldpalhckdcdaaGreatDoor.B1
open Go.RowKit Go.PlainAid
set_option linter.unusedVariables false
def valI (b : Bat) (r : List Int) (n : Int) : Sp × Int := if n < 0 then (⟨0, 0⟩, if bothB b r = 0 then 7 else bothB b r) else valB b r n.toNat

set_option maxRecDepth 100000 in
theorem valI_any (v rv : Value) (b : Bat) (r : List Int) (n : Int) (w : World) (h : RBat w v b) (hr : RInts w rv r) :
    Calls Tryz.prog 15 #[v, rv, .int .i64 n] w (RetSpE w (valI b r n)) := by
  by_cases hnp : bothB b r = 0 ∧ 0 ≤ n ∧ n < b.props.length
  · obtain ⟨e0, hn0, hn1⟩ := hnp
    have hp6 := (ok_of (rec_len e0).1).pr
    obtain ⟨m, rfl⟩ := Int.eq_ofNat_of_zero_le hn0
    have e : valI b r (m : Int) = valB b r m := by unfold valI; rw [if_neg (by omega)]; simp
    rw [e]
    exact val_any v rv b r m (by omega) w h hr
  obtain ⟨a0, k0, a1, k1, a2, k2, a3, k3, rfl⟩ := h.agg
  have hA := below_two w (.cells #[.slice a0 b.oxides.length k0, .slice a1 b.mats.length k1, .slice a2 b.shares.length k2, .slice a3 b.props.length k3, .int .i64 b.redox.lo, .int .i64 b.redox.hi, .int .i64 b.wanted] 56) (.cells #[.int .i64 0, .int .i64 0] 27)
  have hB := (Blk.new w #[.slice a0 b.oxides.length k0, .slice a1 b.mats.length k1, .slice a2 b.shares.length k2, .slice a3 b.props.length k3, .int .i64 b.redox.lo, .int .i64 b.redox.hi, .int .i64 b.wanted] 56).alloc (.cells #[.int .i64 0, .int .i64 0] 27)
  have hC : Blk ((w.alloc (.cells #[.slice a0 b.oxides.length k0, .slice a1 b.mats.length k1, .slice a2 b.shares.length k2, .slice a3 b.props.length k3, .int .i64 b.redox.lo, .int .i64 b.redox.hi, .int .i64 b.wanted] 56)).alloc (.cells #[.int .i64 0, .int .i64 0] 27)) (w.heap.size + 1) #[.int .i64 0, .int .i64 0] 27 := by
    have := Blk.new (w.alloc (.cells #[.slice a0 b.oxides.length k0, .slice a1 b.mats.length k1, .slice a2 b.shares.length k2, .slice a3 b.props.length k3, .int .i64 b.redox.lo, .int .i64 b.redox.hi, .int .i64 b.wanted] 56)) #[.int .i64 0, .int .i64 0] 27
    simpa using this
  go_enter Tryz.func15, Tryz.ntmps15
  go_wp2_with fail
  generalize (w.alloc (.cells #[.slice a0 b.oxides.length k0, .slice a1 b.mats.length k1, .slice a2 b.shares.length k2, .slice a3 b.props.length k3, .int .i64 b.redox.lo, .int .i64 b.redox.hi, .int .i64 b.wanted] 56)).alloc (.cells #[.int .i64 0, .int .i64 0] 27) = W at *
  refine (checkBoth_any _ _ b r _ (h.mono (ext_of_below hA)) (hr.mono (ext_of_below hA))).mono ?_
  rintro e w1 ⟨rfl, hb1⟩
  have hA1 := hA.trans (hb1.mono hA.size)
  have hB1 := hB.below hb1 hB.lt
  have hC1 := hC.below hb1 hC.lt
  clear hA hB hC hb1
  by_cases e1 : bothB b r = 0
  case neg =>
    have e1' : (bothB b r != 0) = true := by simp [e1]
    have hfin := Lib.hid (show valI b r n = (⟨0, 0⟩, bothB b r) by simp [valI, valB, e1])
    have z0 : w1.cell? ⟨w.heap.size + 1, 0, none⟩ = some (.int .i64 0) := hC1.cell 0 _ rfl
    have z1 : w1.cell? ⟨w.heap.size + 1, 1, none⟩ = some (.int .i64 0) := hC1.cell 1 _ rfl
    have y0 := hC1.frozen 0
    have y1 := hC1.frozen 1
    clear hB1 e1
    go_wp2
    have B9 := (hC1.set 0 (.int .i64 0)).set 1 (.int .i64 0)
    have d0 := B9.cell 0 (.int .i64 0) rfl
    have d1 := B9.cell 1 (.int .i64 0) rfl
    unfold RetSpE
    rw [hfin.out]
    exact bodyPost_ret (v := .tuple #[.agg #[.int .i64 0, .int .i64 0], .int .i64 (bothB b r)]) (by simp only [results, Tryz.results15]; simp [go_sem, d0, d1]) rfl ⟨rfl, (hA1.setCell (p := ⟨w.heap.size + 1, 0, none⟩) (by simp) _).setCell (p := ⟨w.heap.size + 1, 1, none⟩) (by simp) _⟩
  have e1' : (bothB b r != 0) = false := by simp [e1]
  obtain ⟨g1, g2, g3⟩ := rec_len e1
  have hok := ok_of g1
  have f0 := hB1.cell 0 (.slice a0 b.oxides.length k0) rfl
  have f1 := hB1.cell 1 (.slice a1 b.mats.length k1) rfl
  have f2 := hB1.cell 2 (.slice a2 b.shares.length k2) rfl
  have f3 := hB1.cell 3 (.slice a3 b.props.length k3) rfl
  have f4 := hB1.cell 4 (.int .i64 b.redox.lo) rfl
  have f5 := hB1.cell 5 (.int .i64 b.redox.hi) rfl
  have f6 := hB1.cell 6 (.int .i64 b.wanted) rfl
  have E1 := Lib.hid e1
  have G2 := Lib.hid g2
  have G3 := Lib.hid g3
  have hp6 := hok.pr
  clear e1 g1 g2 g3
  have hfin := Lib.hid (show valI b r n = (⟨0, 0⟩, 7) by
    have h9 := E1.out
    unfold valI valB
    split
    · simp
    · simp only [h9]; rw [dif_neg (by omega)]; simp)
  have hbt := between_any n 0 ((b.props.length : Int) - 1) w1
  rw [show (decide ((0 : Int) ≤ n) && decide (n ≤ (b.props.length : Int) - 1)) = false from by
    by_cases h0 : 0 ≤ n
    · have : ¬ n < b.props.length := fun h => hnp ⟨E1.out, h0, h⟩
      simp; omega
    · simp; omega] at hbt
  have z0 : w1.cell? ⟨w.heap.size + 1, 0, none⟩ = some (.int .i64 0) := hC1.cell 0 _ rfl
  have z1 : w1.cell? ⟨w.heap.size + 1, 1, none⟩ = some (.int .i64 0) := hC1.cell 1 _ rfl
  have y0 := hC1.frozen 0
  have y1 := hC1.frozen 1
  clear hnp
  go_wp2_with fail
  refine hbt.mono ?_
  rintro e w2 ⟨rfl, rfl⟩
  clear hbt
  go_wp2
  have B9 := (hC1.set 0 (.int .i64 0)).set 1 (.int .i64 0)
  have d0 := B9.cell 0 (.int .i64 0) rfl
  have d1 := B9.cell 1 (.int .i64 0) rfl
  unfold RetSpE
  rw [hfin.out]
  exact bodyPost_ret (v := .tuple #[.agg #[.int .i64 0, .int .i64 0], .int .i64 7]) (by simp only [results, Tryz.results15]; simp [go_sem, d0, d1]) rfl ⟨rfl, (hA1.setCell (p := ⟨w.heap.size + 1, 0, none⟩) (by simp) _).setCell (p := ⟨w.heap.size + 1, 1, none⟩) (by simp) _⟩

end Go.Proofs.YtaldpalhckdcdaaGreatDoor.B1
