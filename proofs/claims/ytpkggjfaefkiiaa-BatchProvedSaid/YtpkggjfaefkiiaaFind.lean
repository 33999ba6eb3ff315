/- slices.IndexFunc and ContainsFunc, by their contracts: what the closure answers of each element is taken as a premise; no statement is proved here. -/
import Derived.Test.YtpkggjfaefkiiaaSum
namespace Go.Proofs.Ytpkggjfaefkiiaa
open Go.RowKit
set_option linter.unusedVariables false

/-- what a call of a closure answers of the elements of a list that reads in w. -/
def Tells {α : Type} (f : Nat) (cap : Array Value) (V : World → Value → α → Prop) (w : World) (l : List α) (p : α → Bool) : Prop :=
  ∀ x v w1, x ∈ l → V w v x → Below w.heap.size w w1 → Calls Try.prog f (#[v] ++ cap) w1 fun e w2 => e = .returned (.bool (p x)) ∧ Below w1.heap.size w1 w2

theorem any_take {α : Type} (l : List α) (p : α → Bool) (k : Nat) (hk : k < l.length) (h : (l.take k).any p = false) : (l.take (k + 1)).any p = p l[k] := by
  rw [List.take_succ_eq_append_getElem hk, List.any_append, h]; simp

theorem any_of {α : Type} (l : List α) (p : α → Bool) (k : Nat) (hk : k < l.length) (h : p l[k] = true) : l.any p = true := List.any_eq_true.2 ⟨_, List.getElem_mem hk, h⟩

def VInt (_ : World) (v : Value) (x : Int) : Prop := v = .int .i64 x ∧ I64 x
def VSp (_ : World) (v : Value) (s : Sp) : Prop := v = .agg #[.int .i64 s.lo, .int .i64 s.hi] ∧ I64 s.lo ∧ I64 s.hi
def VMat (w : World) (v : Value) (m : Mat) : Prop :=
  ∃ c, v = .agg #[.string m.name, .int .i64 m.price, .int .i64 m.redox, .int .i64 m.least, .int .i64 m.most, .int .i64 m.step, c] ∧ RSps w c m.content ∧ m.name.size ≤ 140737488351232 ∧ I64 m.price ∧ I64 m.redox ∧ I64 m.least ∧ I64 m.most ∧ I64 m.step
def VPrp (w : World) (v : Value) (m : Prp) : Prop :=
  ∃ c, v = .agg #[.string m.name, c, .int .i64 m.target.lo, .int .i64 m.target.hi] ∧ RInts w c m.coefs ∧ m.name.size ≤ 140737488351232 ∧ I64 m.target.lo ∧ I64 m.target.hi
theorem VMat.mono {w w' : World} (e : Ext w w') {v : Value} {x : Mat} (h : VMat w v x) : VMat w' v x := by
  obtain ⟨c, h0, h1, h2⟩ := h
  exact ⟨c, h0, h1.mono e, h2⟩
theorem VPrp.mono {w w' : World} (e : Ext w w') {v : Value} {x : Prp} (h : VPrp w v x) : VPrp w' v x := by
  obtain ⟨c, h0, h1, h2⟩ := h
  exact ⟨c, h0, h1.mono e, h2⟩

set_option maxRecDepth 100000 in
theorem indexFunc_int (f : Nat) (hF : IsFn f) (cap : Array Value) (p : Int → Bool) (v : Value) (l : List Int) (w : World) (h : RInts w v l) (hf : Tells f cap VInt w l p) :
    Calls Try.prog 136 #[v, .func (.func f) #[] cap] w fun e w' => ∃ n : Int, e = .returned (.int .i64 n) ∧ decide (0 ≤ n) = l.any p ∧ Below w.heap.size w w' := by
  obtain ⟨a, kap, rfl, hc1, ⟨hc2, hm⟩, hl⟩ := h
  go_enter Try.func136, Try.ntmps136
  go_wp2
  go_loopw [8] (fun i wr => ∃ (k : Nat), k ≤ l.length ∧ i = .int .i64 k ∧ Hid ((l.take k).any p = false) ∧ Below w.heap.size w wr) (fun i _ => l.length - (intOf i).toNat)
  case atStart => exact ⟨0, Nat.zero_le _, rfl, by simp [Hid], Below.refl _ _⟩
  case round =>
    obtain ⟨k, hk, rfl, hx, hb⟩ := hrel
    by_cases hlt : k < l.length
    · obtain ⟨b, off, rfl, h1, h2⟩ := hl k hlt
      have hbl := cell_lt h1
      have hf' := hf l[k] (.int .i64 l[k]) _ (List.getElem_mem hlt) (⟨rfl, h2⟩) hb
      obtain ⟨hc, hz⟩ := bcell hb
      simp only [Nat.mul_one] at h1 hbl
      have hst := Lib.hid (any_take l p k hlt hx.out)
      have hfi := any_of l p k hlt
      clear hf hl hc1 h2
      generalize l[k] = s at *
      have HFI := Lib.hid hfi
      clear hfi
      unfold IsFn at hF
      go_wp2_with fail
      refine hf'.mono ?_
      rintro e w1 ⟨rfl, hb1⟩
      have hB := hb.trans (hb1.mono hb.size)
      cases hp : p s with
      | false =>
        go_wp2
        go_roundw
        case rel => exact ⟨k + 1, by omega, by go_num, hst.out.trans hp, hB⟩
        case measure => simp [intOf]; omega
      | true =>
        go_wp2
        go_ret
        exact ⟨_, rfl, by rw [HFI.out hp]; simp, hB⟩
    · go_wp2
      go_ret
      refine ⟨_, rfl, ?_, hb⟩
      have := hx.out
      rw [List.take_of_length_le (by omega)] at this
      rw [this]; rfl

theorem containsFunc_int (f : Nat) (hF : IsFn f) (cap : Array Value) (p : Int → Bool) (v : Value) (l : List Int) (w : World) (h : RInts w v l) (hf : Tells f cap VInt w l p) :
    Calls Try.prog 122 #[v, .func (.func f) #[] cap] w fun e w' => e = .returned (.bool (l.any p)) ∧ Below w.heap.size w w' := by
  go_enter Try.func122, Try.ntmps122
  go_wp2_with fail
  refine (indexFunc_int f hF cap p v l _ h hf).mono ?_
  rintro e w1 ⟨n, rfl, hn, hb1⟩
  have HN := Lib.hid hn
  clear hn
  go_wp2
  go_ret
  exact ⟨ret_bool HN.out, hb1⟩

set_option maxRecDepth 100000 in
theorem indexFunc_sp (f : Nat) (hF : IsFn f) (cap : Array Value) (p : Sp → Bool) (v : Value) (l : List Sp) (w : World) (h : RSps w v l) (hf : Tells f cap VSp w l p) :
    Calls Try.prog 131 #[v, .func (.func f) #[] cap] w fun e w' => ∃ n : Int, e = .returned (.int .i64 n) ∧ decide (0 ≤ n) = l.any p ∧ Below w.heap.size w w' := by
  obtain ⟨a, kap, rfl, hc1, ⟨hc2, hm⟩, hl⟩ := h
  go_enter Try.func131, Try.ntmps131
  go_wp2
  go_loopw [8] (fun i wr => ∃ (k : Nat), k ≤ l.length ∧ i = .int .i64 k ∧ Hid ((l.take k).any p = false) ∧ Below w.heap.size w wr) (fun i _ => l.length - (intOf i).toNat)
  case atStart => exact ⟨0, Nat.zero_le _, rfl, by simp [Hid], Below.refl _ _⟩
  case round =>
    obtain ⟨k, hk, rfl, hx, hb⟩ := hrel
    by_cases hlt : k < l.length
    · obtain ⟨b, off, rfl, h1, h2, h3, h4⟩ := hl k hlt
      have hbl := cell_lt h1
      have hf' := hf l[k] (.agg #[.int .i64 l[k].lo, .int .i64 l[k].hi]) _ (List.getElem_mem hlt) (⟨rfl, h3, h4⟩) hb
      obtain ⟨hc, hz⟩ := bcell hb
      simp only at h1 h2 hbl
      have hst := Lib.hid (any_take l p k hlt hx.out)
      have hfi := any_of l p k hlt
      clear hf hl hc1 h3 h4
      generalize l[k] = s at *
      have HFI := Lib.hid hfi
      clear hfi
      unfold IsFn at hF
      go_wp2_with fail
      refine hf'.mono ?_
      rintro e w1 ⟨rfl, hb1⟩
      have hB := hb.trans (hb1.mono hb.size)
      cases hp : p s with
      | false =>
        go_wp2
        go_roundw
        case rel => exact ⟨k + 1, by omega, by go_num, hst.out.trans hp, hB⟩
        case measure => simp [intOf]; omega
      | true =>
        go_wp2
        go_ret
        exact ⟨_, rfl, by rw [HFI.out hp]; simp, hB⟩
    · go_wp2
      go_ret
      refine ⟨_, rfl, ?_, hb⟩
      have := hx.out
      rw [List.take_of_length_le (by omega)] at this
      rw [this]; rfl

theorem containsFunc_sp (f : Nat) (hF : IsFn f) (cap : Array Value) (p : Sp → Bool) (v : Value) (l : List Sp) (w : World) (h : RSps w v l) (hf : Tells f cap VSp w l p) :
    Calls Try.prog 106 #[v, .func (.func f) #[] cap] w fun e w' => e = .returned (.bool (l.any p)) ∧ Below w.heap.size w w' := by
  go_enter Try.func106, Try.ntmps106
  go_wp2_with fail
  refine (indexFunc_sp f hF cap p v l _ h hf).mono ?_
  rintro e w1 ⟨n, rfl, hn, hb1⟩
  have HN := Lib.hid hn
  clear hn
  go_wp2
  go_ret
  exact ⟨ret_bool HN.out, hb1⟩

set_option maxRecDepth 100000 in
theorem indexFunc_mat (f : Nat) (hF : IsFn f) (cap : Array Value) (p : Mat → Bool) (v : Value) (l : List Mat) (w : World) (h : RMats w v l) (hf : Tells f cap VMat w l p) :
    Calls Try.prog 130 #[v, .func (.func f) #[] cap] w fun e w' => ∃ n : Int, e = .returned (.int .i64 n) ∧ decide (0 ≤ n) = l.any p ∧ Below w.heap.size w w' := by
  obtain ⟨a, kap, rfl, hc1, ⟨hc2, hm⟩, hl⟩ := h
  go_enter Try.func130, Try.ntmps130
  go_wp2
  go_loopw [8] (fun i wr => ∃ (k : Nat), k ≤ l.length ∧ i = .int .i64 k ∧ Hid ((l.take k).any p = false) ∧ Below w.heap.size w wr) (fun i _ => l.length - (intOf i).toNat)
  case atStart => exact ⟨0, Nat.zero_le _, rfl, by simp [Hid], Below.refl _ _⟩
  case round =>
    obtain ⟨k, hk, rfl, hx, hb⟩ := hrel
    by_cases hlt : k < l.length
    · obtain ⟨b, off, rfl, c, ⟨h0, h1, h2, h3, h4, h5, h6⟩, h7, h8⟩ := hl k hlt
      have hbl := cell_lt h0
      have hf' := hf l[k] (.agg #[.string l[k].name, .int .i64 l[k].price, .int .i64 l[k].redox, .int .i64 l[k].least, .int .i64 l[k].most, .int .i64 l[k].step, c]) _ (List.getElem_mem hlt) (⟨c, rfl, h7, h8⟩) hb
      obtain ⟨hc, hz⟩ := bcell hb
      simp only at h0 h1 h2 h3 h4 h5 h6 hbl
      have hst := Lib.hid (any_take l p k hlt hx.out)
      have hfi := any_of l p k hlt
      clear hf hl hc1 h7 h8
      generalize l[k] = s at *
      have HFI := Lib.hid hfi
      clear hfi
      unfold IsFn at hF
      go_wp2_with fail
      refine hf'.mono ?_
      rintro e w1 ⟨rfl, hb1⟩
      have hB := hb.trans (hb1.mono hb.size)
      cases hp : p s with
      | false =>
        go_wp2
        go_roundw
        case rel => exact ⟨k + 1, by omega, by go_num, hst.out.trans hp, hB⟩
        case measure => simp [intOf]; omega
      | true =>
        go_wp2
        go_ret
        exact ⟨_, rfl, by rw [HFI.out hp]; simp, hB⟩
    · go_wp2
      go_ret
      refine ⟨_, rfl, ?_, hb⟩
      have := hx.out
      rw [List.take_of_length_le (by omega)] at this
      rw [this]; rfl

theorem containsFunc_mat (f : Nat) (hF : IsFn f) (cap : Array Value) (p : Mat → Bool) (v : Value) (l : List Mat) (w : World) (h : RMats w v l) (hf : Tells f cap VMat w l p) :
    Calls Try.prog 103 #[v, .func (.func f) #[] cap] w fun e w' => e = .returned (.bool (l.any p)) ∧ Below w.heap.size w w' := by
  go_enter Try.func103, Try.ntmps103
  go_wp2_with fail
  refine (indexFunc_mat f hF cap p v l _ h hf).mono ?_
  rintro e w1 ⟨n, rfl, hn, hb1⟩
  have HN := Lib.hid hn
  clear hn
  go_wp2
  go_ret
  exact ⟨ret_bool HN.out, hb1⟩

set_option maxRecDepth 100000 in
theorem indexFunc_prp (f : Nat) (hF : IsFn f) (cap : Array Value) (p : Prp → Bool) (v : Value) (l : List Prp) (w : World) (h : RPrps w v l) (hf : Tells f cap VPrp w l p) :
    Calls Try.prog 132 #[v, .func (.func f) #[] cap] w fun e w' => ∃ n : Int, e = .returned (.int .i64 n) ∧ decide (0 ≤ n) = l.any p ∧ Below w.heap.size w w' := by
  obtain ⟨a, kap, rfl, hc1, ⟨hc2, hm⟩, hl⟩ := h
  go_enter Try.func132, Try.ntmps132
  go_wp2
  go_loopw [8] (fun i wr => ∃ (k : Nat), k ≤ l.length ∧ i = .int .i64 k ∧ Hid ((l.take k).any p = false) ∧ Below w.heap.size w wr) (fun i _ => l.length - (intOf i).toNat)
  case atStart => exact ⟨0, Nat.zero_le _, rfl, by simp [Hid], Below.refl _ _⟩
  case round =>
    obtain ⟨k, hk, rfl, hx, hb⟩ := hrel
    by_cases hlt : k < l.length
    · obtain ⟨b, off, rfl, c, ⟨h0, h1, h2, h3⟩, h7, h8⟩ := hl k hlt
      have hbl := cell_lt h0
      have hf' := hf l[k] (.agg #[.string l[k].name, c, .int .i64 l[k].target.lo, .int .i64 l[k].target.hi]) _ (List.getElem_mem hlt) (⟨c, rfl, h7, h8⟩) hb
      obtain ⟨hc, hz⟩ := bcell hb
      simp only at h0 h1 h2 h3 hbl
      have hst := Lib.hid (any_take l p k hlt hx.out)
      have hfi := any_of l p k hlt
      clear hf hl hc1 h7 h8
      generalize l[k] = s at *
      have HFI := Lib.hid hfi
      clear hfi
      unfold IsFn at hF
      go_wp2_with fail
      refine hf'.mono ?_
      rintro e w1 ⟨rfl, hb1⟩
      have hB := hb.trans (hb1.mono hb.size)
      cases hp : p s with
      | false =>
        go_wp2
        go_roundw
        case rel => exact ⟨k + 1, by omega, by go_num, hst.out.trans hp, hB⟩
        case measure => simp [intOf]; omega
      | true =>
        go_wp2
        go_ret
        exact ⟨_, rfl, by rw [HFI.out hp]; simp, hB⟩
    · go_wp2
      go_ret
      refine ⟨_, rfl, ?_, hb⟩
      have := hx.out
      rw [List.take_of_length_le (by omega)] at this
      rw [this]; rfl

theorem containsFunc_prp (f : Nat) (hF : IsFn f) (cap : Array Value) (p : Prp → Bool) (v : Value) (l : List Prp) (w : World) (h : RPrps w v l) (hf : Tells f cap VPrp w l p) :
    Calls Try.prog 108 #[v, .func (.func f) #[] cap] w fun e w' => e = .returned (.bool (l.any p)) ∧ Below w.heap.size w w' := by
  go_enter Try.func108, Try.ntmps108
  go_wp2_with fail
  refine (indexFunc_prp f hF cap p v l _ h hf).mono ?_
  rintro e w1 ⟨n, rfl, hn, hb1⟩
  have HN := Lib.hid hn
  clear hn
  go_wp2
  go_ret
  exact ⟨ret_bool HN.out, hb1⟩

end Go.Proofs.Ytpkggjfaefkiiaa
