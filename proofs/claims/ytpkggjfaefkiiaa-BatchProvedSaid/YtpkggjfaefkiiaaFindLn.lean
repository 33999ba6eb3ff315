/- slices.IndexFunc and ContainsFunc over lines; no statement is proved here. -/
import Derived.Test.YtpkggjfaefkiiaaOk
namespace Go.Proofs.Ytpkggjfaefkiiaa
open Go.RowKit
set_option linter.unusedVariables false

def VLn (w : World) (v : Value) (l : Ln) : Prop := ∃ c, v = .agg #[c, .int .i64 l.bound] ∧ RInts w c l.fs ∧ I64 l.bound
theorem VLn.mono {w w' : World} (e : Ext w w') {v : Value} {x : Ln} (h : VLn w v x) : VLn w' v x := by
  obtain ⟨c, h0, h1, h2⟩ := h
  exact ⟨c, h0, h1.mono e, h2⟩

set_option maxRecDepth 100000 in
theorem indexFunc_ln (f : Nat) (hF : IsFn f) (cap : Array Value) (p : Ln → Bool) (v : Value) (l : List Ln) (w : World) (h : RLns w v l) (hf : Tells f cap VLn w l p) :
    Calls Try.prog 116 #[v, .func (.func f) #[] cap] w fun e w' => ∃ n : Int, e = .returned (.int .i64 n) ∧ decide (0 ≤ n) = l.any p ∧ Below w.heap.size w w' := by
  obtain ⟨a, kap, rfl, hc1, ⟨hc2, hm⟩, hl⟩ := h
  go_enter Try.func116, Try.ntmps116
  go_wp2
  go_loopw [8] (fun i wr => ∃ (k : Nat), k ≤ l.length ∧ i = .int .i64 k ∧ Hid ((l.take k).any p = false) ∧ Below w.heap.size w wr) (fun i _ => l.length - (intOf i).toNat)
  case atStart => exact ⟨0, Nat.zero_le _, rfl, by simp [Hid], Below.refl _ _⟩
  case round =>
    obtain ⟨k, hk, rfl, hx, hb⟩ := hrel
    by_cases hlt : k < l.length
    · obtain ⟨b, off, rfl, c, u, h0, h1, ⟨h7, rfl, h8⟩⟩ := hl k hlt
      have hbl := cell_lt h0
      have hf' := hf l[k] (.agg #[c, .int .i64 l[k].bound]) _ (List.getElem_mem hlt) (⟨c, rfl, h7, h8⟩) hb
      obtain ⟨hc, hz⟩ := bcell hb
      simp only at h0 h1 hbl
      have hst := Lib.hid (any_take l p k hlt hx.out)
      have hfi := any_of l p k hlt
      clear hf hl hc1 h7 h8
      generalize l[k] = s at *
      have HFI := Lib.hid hfi
      clear hfi
      unfold IsFn at hF
      go_wp2_with fail
      refine hf'.mono ?_
      rintro e w1 ⟨rfl, hb1⟩
      have hB := hb.trans (hb1.mono hb.size)
      cases hp : p s with
      | false =>
        go_wp2
        go_roundw
        case rel => exact ⟨k + 1, by omega, by go_num, hst.out.trans hp, hB⟩
        case measure => simp [intOf]; omega
      | true =>
        go_wp2
        go_ret
        exact ⟨_, rfl, by rw [HFI.out hp]; simp, hB⟩
    · go_wp2
      go_ret
      refine ⟨_, rfl, ?_, hb⟩
      have := hx.out
      rw [List.take_of_length_le (by omega)] at this
      rw [this]; rfl

theorem containsFunc_ln (f : Nat) (hF : IsFn f) (cap : Array Value) (p : Ln → Bool) (v : Value) (l : List Ln) (w : World) (h : RLns w v l) (hf : Tells f cap VLn w l p) :
    Calls Try.prog 77 #[v, .func (.func f) #[] cap] w fun e w' => e = .returned (.bool (l.any p)) ∧ Below w.heap.size w w' := by
  go_enter Try.func77, Try.ntmps77
  go_wp2_with fail
  refine (indexFunc_ln f hF cap p v l _ h hf).mono ?_
  rintro e w1 ⟨n, rfl, hn, hb1⟩
  have HN := Lib.hid hn
  clear hn
  go_wp2
  go_ret
  exact ⟨ret_bool HN.out, hb1⟩

end Go.Proofs.Ytpkggjfaefkiiaa
