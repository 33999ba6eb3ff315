/- The iterator over a lehr's pieces: its contract; no statement is proved here. -/
import Derived.Test.YtmmlocjiegkjeaaGreatDoorRingIt
import Derived.Test.YtmmlocjiegkjeaaGreatDoorLeM
namespace Go.Proofs.YtmmlocjiegkjeaaGreatDoor
open Go.RowKit Go.PlainAid
set_option linter.unusedVariables false
set_option linter.unusedSimpArgs false
attribute [local go_sem] Oper.semAt_some fp_round fp_depth
theorem fp_pieces : Fp.fn 53 := ⟨_, Tryz.func53⟩
theorem fp_pieces1 : Fp.fn 74 := ⟨_, Tryz.func74⟩

set_option maxRecDepth 100000 in
theorem pieces_in (v0 : Value) (l : Lr) (w : World) (k : Nat) : CallsIn Fp k Tryz.prog 53 #[.agg #[v0, .int .i64 l.factor]] w fun e w' =>
    e = .returned (.func (.func 74) #[] #[.pointer (some ⟨w.heap.size, 0, none⟩)]) ∧ w' = w.alloc (.cells #[v0, .int .i64 l.factor] 24) := by
  have hmf : ∀ (fn : Fn) (first cap : Array Value) (w : World), (Instr.makeFunc fn first cap).run Tryz.prog w = .ok (.func fn first cap) w := fun _ _ _ _ => rfl
  refine callsIn_of_wp Tryz.func53 rfl fp_pieces ?_ rfl
  simp only [Tryz.ntmps53, List.size_toArray, List.length_cons, List.length_nil, Nat.reduceAdd, Nat.reduceSub, Array.replicate_succ, Array.replicate_zero, List.push_toArray, List.append_toArray, List.nil_append, List.cons_append]
  gi_wp2
  go_ret
  exact ⟨rfl, rfl⟩

def pcV (x y : Sp) : Value := .agg #[.int .i64 x.lo, .int .i64 x.hi, .int .i64 y.lo, .int .i64 y.hi]
def encP (ks : List Sp) : List (Array Value) := (List.range (ks.length - 1)).map fun i => #[pcV (kn ks i) (kn ks (i + 1))]
theorem encP_len (ks : List Sp) : (encP ks).length = ks.length - 1 := by simp [encP]
theorem encP_at {ks : List Sp} {k : Nat} (h : k + 1 < ks.length) : (encP ks)[k]? = some #[pcV (kn ks k) (kn ks (k + 1))] := by
  simp [encP, List.getElem?_map, List.getElem?_range (show k < ks.length - 1 by omega)]
theorem encP_ix {ks : List Sp} {k : Nat} {x : Array Value} (h : (encP ks)[k]? = some x) : k + 1 < ks.length ∧ x = #[pcV (kn ks k) (kn ks (k + 1))] := by
  have hk : k < ks.length - 1 := by
    have := (List.getElem?_eq_some_iff.1 h).1
    rw [encP_len] at this; exact this
  have hk' : k + 1 < ks.length := by omega
  exact ⟨hk', by rw [encP_at hk'] at h; exact (Option.some.inj h).symm⟩

end Go.Proofs.YtmmlocjiegkjeaaGreatDoor
