/- Loads and stores of a whole row or struct that a walk does not open; no statement is proved here. -/
import Derived.Test.YtdffhkbncencgaaPlParts
import Derived.Deep.MidRow
namespace Go.Proofs.Ytdffhkbncencgaa
open Go.RowKit Go.PlainAid
set_option linter.unusedVariables false
set_option linter.unusedSimpArgs false

def ldAt (t : TypeId) (v : Value) : Sem Value := Instr.loadAt t v
def stAt (t : TypeId) (p v : Value) : Sem Unit := Instr.storeAt t p v
/-- a block's cells, all stored anew. -/
def putC (w : World) (k : Nat) (cs : Array Value) : World := w.setCells k 0 cs.toList
def wf : Array Value → Nat → List Value → Array Value
  | cs, _, [] => cs
  | cs, o, v :: r => wf (cs.setIfInBounds o v) (o + 1) r
theorem wf_get : ∀ (vs : List Value) (cs : Array Value) (o j : Nat), j < cs.size → (wf cs o vs)[j]? = if o ≤ j ∧ j < o + vs.length then vs[j - o]? else cs[j]?
  | [], cs, o, j, h => by rw [if_neg (by simp only [List.length_nil]; omega)]; rfl
  | v :: r, cs, o, j, h => by
    rw [wf, wf_get r _ _ _ (by simpa using h)]
    by_cases h1 : o + 1 ≤ j ∧ j < o + 1 + r.length
    · rw [if_pos h1, if_pos (by simp; omega), show j - o = (j - (o + 1)) + 1 by omega]; rfl
    · rw [if_neg h1]
      by_cases h2 : j = o
      · subst h2; rw [if_pos (by simp)]; simp [h]
      · rw [if_neg (by simp; omega), Array.getElem?_setIfInBounds]; simp [Ne.symm h2]
theorem wf_size : ∀ (vs : List Value) (cs : Array Value) (o : Nat), (wf cs o vs).size = cs.size
  | [], cs, o => rfl
  | v :: r, cs, o => by rw [wf, wf_size r]; simp
theorem wf_all {cs cs' : Array Value} (h : cs.size = cs'.size) : wf cs 0 cs'.toList = cs' := by
  refine Array.ext_getElem? fun j => ?_
  by_cases hj : j < cs.size
  · rw [wf_get _ _ _ _ hj, if_pos (by simp; omega)]; simp
  · rw [Array.getElem?_eq_none (by rw [wf_size]; omega), Array.getElem?_eq_none (by omega)]
theorem Blk.setCells {k : Nat} {t : TypeId} : ∀ (vs : List Value) (w : World) (cs : Array Value) (o : Nat), Blk w k cs t → Blk (w.setCells k o vs) k (wf cs o vs) t
  | [], w, cs, o, h => h
  | v :: r, w, cs, o, h => Blk.setCells r _ _ _ (h.set o v)
theorem blk_sto {w : World} {k : Nat} {cs cs' : Array Value} {t : TypeId} (h : Blk w k cs t) (hz : cs.size = cs'.size) : Blk (putC w k cs') k cs' t := by
  have := h.setCells cs'.toList w cs 0
  rwa [wf_all hz] at this
theorem putC_below {B : Nat} {a w : World} (h : Below B a w) {k : Nat} (hk : B ≤ k) (cs : Array Value) : Below B a (putC w k cs) := by
  unfold putC
  generalize cs.toList = vs
  generalize 0 = o
  induction vs generalizing w o with
  | nil => exact h
  | cons v r ih => exact ih (h.setCell (p := ⟨k, o, none⟩) hk v) _
theorem Blk.setCells_other {w : World} {k j : Nat} {cs : Array Value} {t : TypeId} (h : Blk w k cs t) (hj : j ≠ k) : ∀ (vs : List Value) (o : Nat), Blk (w.setCells j o vs) k cs t := by
  intro vs
  induction vs generalizing w with
  | nil => intro o; exact h
  | cons v r ih => intro o; exact ih (h.other ⟨j, o, none⟩ v hj) (o + 1)
theorem blk_sto_other {w : World} {k j : Nat} {cs : Array Value} {t : TypeId} (h : Blk w k cs t) (hj : j ≠ k) (cs' : Array Value) : Blk (putC w j cs') k cs t := h.setCells_other hj _ _
theorem putC_size (w : World) (k : Nat) (cs : Array Value) : (putC w k cs).heap.size = w.heap.size := by
  unfold putC
  generalize cs.toList = vs
  generalize 0 = o
  induction vs generalizing w o with
  | nil => rfl
  | cons v r ih => rw [World.setCells, ih]; simp
theorem putC_belS {S : Nat → Prop} {n : Nat} {a w : World} (h : BelS S n a w) {k : Nat} (hk : n ≤ k ∨ S k) (cs : Array Value) : BelS S n a (putC w k cs) := by
  unfold putC
  generalize cs.toList = vs
  generalize 0 = o
  induction vs generalizing w o with
  | nil => exact h
  | cons v r ih => exact ih (h.set ⟨k, o, none⟩ v hk) _

theorem ld_of {P : Program} {W : World} {b o : Nat} {cs : Array Value} {ty : TypeId} {d : TypeDesc} (h : ∀ j v, cs[j]? = some v → W.cell? ⟨b, o + j, none⟩ = some v) (hu : P.underlying ty = some d) (hd : d.isRow = true) (hi : (P.info? ty).map (·.size) = some cs.size) :
    Sem.run P (ldAt ty (.pointer (some ⟨b, o, none⟩))) W = .ok (.agg cs) W := by
  have h1 := run_loadAt_mid (P := P) W b o ty cs.toList d (fun j v hv => h j v (by simpa using hv)) hu hd (by simpa using hi)
  rw [Array.toArray_toList] at h1
  exact h1
theorem ld_blk {P : Program} {W : World} {k : Nat} {cs : Array Value} {t ty : TypeId} {d : TypeDesc} (h : Blk W k cs t) (hu : P.underlying ty = some d) (hd : d.isRow = true) (hi : (P.info? ty).map (·.size) = some cs.size) :
    Sem.run P (ldAt ty (.pointer (some ⟨k, 0, none⟩))) W = .ok (.agg cs) W := ld_of (fun j v hv => by rw [Nat.zero_add]; exact h.cell j v hv) hu hd hi
theorem st_blk {P : Program} {W : World} {k : Nat} {cs cs' : Array Value} {t ty : TypeId} (h : Blk W k cs t) (hz : cs.size = cs'.size) (hi : (P.info? ty).map (·.size) = some cs'.size) (h1 : cs'.all (·.oneCell') = true) :
    Sem.run P (stAt ty (.pointer (some ⟨k, 0, none⟩)) (.agg cs')) W = .ok () (putC W k cs') :=
  run_storeAt_mid W k 0 ty cs' (fun j hj => ⟨by
    rw [Nat.zero_add, h.cell j (cs[j]'(by omega)) (by rw [Array.getElem?_eq_getElem (by omega)])]; rfl, by rw [Nat.zero_add]; exact h.frozen j⟩) hi h1

theorem lv_blk {P : Program} {W : World} {k : Nat} {cs : Array Value} {t ty : TypeId} {d : TypeDesc} (h : Blk W k cs t) (hu : P.underlying ty = some d) (hd : d.isRow = true) (hi : (P.info? ty).map (·.size) = some cs.size) :
    (loadVar ty ⟨k, 0, none⟩).run P W = .ok (.agg cs) W := by
  have h1 := run_loadVar_mid (P := P) W k 0 ty cs.toList d (fun j v hv => by rw [Nat.zero_add]; exact h.cell j v (by simpa using hv)) hu hd (by simpa using hi)
  rw [Array.toArray_toList] at h1
  exact h1
theorem there_blk {w : World} {k : Nat} {cs : Array Value} {t : TypeId} (h : Blk w k cs t) {n : Nat} (hn : cs.size = n) : w.there k 0 n := fun j hj => ⟨by
  rw [Nat.zero_add, h.cell j (cs[j]'(by omega)) (by rw [Array.getElem?_eq_getElem (by omega)])]; rfl, by rw [Nat.zero_add]; exact h.frozen j⟩
theorem sto_cell (w : World) (k : Nat) (cs : Array Value) {p : Addr} (hp : k ≠ p.block) : (putC w k cs).cell? p = w.cell? p := by
  unfold putC
  rw [World.cell?_setCells_out]
  intro h
  exact absurd h.symm hp
theorem Blk.range {W : World} {k : Nat} {cs : Array Value} {t : TypeId} (h : Blk W k cs t) : W.rangeAt k 0 cs.toList := fun j v hv => by rw [Nat.zero_add]; exact h.cell j v (by simpa using hv)
/-- what a function hands back whose one result is a variable in memory. -/
theorem res_one {P : Program} {fn : Func} {a : Array Value} {W : World} {t : Tmp} {ty : TypeId} {p : Addr} {v : Value} (hr : fn.results = #[.cell t ty]) (ht : a[t]?.getD undef = .pointer (some p)) (hl : (loadVar ty p).run P W = .ok v W) :
    (results fn a).run P W = .ok v W := by
  simp [results, hr, ht, asAddr, Sem.run_bind, Sem.run_pure, hl]
/-- two results, of which the first one is a variable in memory. -/
theorem res_two {P : Program} {fn : Func} {a : Array Value} {W : World} {t u : Tmp} {ty : TypeId} {p : Addr} {v : Value} (hr : fn.results = #[.cell t ty, .tmp u]) (ht : a[t]?.getD undef = .pointer (some p)) (hl : (loadVar ty p).run P W = .ok v W) :
    (results fn a).run P W = .ok (.tuple #[v, a[u]?.getD undef]) W := by
  simp [results, hr, ht, asAddr, Sem.run_bind, Sem.run_pure, hl]
theorem res_cc {P : Program} {fn : Func} {a : Array Value} {W : World} {t u : Tmp} {ty tz : TypeId} {p q : Addr} {v z : Value} (hr : fn.results = #[.cell t ty, .cell u tz]) (ht : a[t]?.getD undef = .pointer (some p)) (hl : (loadVar ty p).run P W = .ok v W) (hu : a[u]?.getD undef = .pointer (some q)) (hm : (loadVar tz q).run P W = .ok z W) :
    (results fn a).run P W = .ok (.tuple #[v, z]) W := by
  simp [results, hr, ht, hu, asAddr, Sem.run_bind, Sem.run_pure, hl, hm]

section
variable (ρ : Operand → Value) (dst : Option Tmp) (x y : Operand) (ty : TypeId) (pos : String) (after : Array Edge) (guard : Option (Nat × Bool))
theorem ex_ldc : execOp ρ { dst, op := .load 71 x, type := ty, pos, after, guard } = (do pure (.value (← ldAt 71 (ρ x)))) := rfl
theorem ex_stc : execOp ρ { dst, op := .store 71 x y, type := ty, pos, after, guard } = (do stAt 71 (ρ x) (ρ y); pure .skip) := rfl
theorem ex_ldo : execOp ρ { dst, op := .load 82 x, type := ty, pos, after, guard } = (do pure (.value (← ldAt 82 (ρ x)))) := rfl
theorem ex_sto : execOp ρ { dst, op := .store 82 x y, type := ty, pos, after, guard } = (do stAt 82 (ρ x) (ρ y); pure .skip) := rfl
theorem ex_lds : execOp ρ { dst, op := .load 84 x, type := ty, pos, after, guard } = (do pure (.value (← ldAt 84 (ρ x)))) := rfl
theorem ex_sts : execOp ρ { dst, op := .store 84 x y, type := ty, pos, after, guard } = (do stAt 84 (ρ x) (ρ y); pure .skip) := rfl
theorem ex_ldn : execOp ρ { dst, op := .load 92 x, type := ty, pos, after, guard } = (do pure (.value (← ldAt 92 (ρ x)))) := rfl
theorem ex_stn : execOp ρ { dst, op := .store 92 x y, type := ty, pos, after, guard } = (do stAt 92 (ρ x) (ρ y); pure .skip) := rfl
theorem ex_ldw : execOp ρ { dst, op := .load 63 x, type := ty, pos, after, guard } = (do pure (.value (← ldAt 63 (ρ x)))) := rfl
theorem ex_stw : execOp ρ { dst, op := .store 63 x y, type := ty, pos, after, guard } = (do stAt 63 (ρ x) (ρ y); pure .skip) := rfl
end
theorem sz_crew : (Try.prog.info? 71).map (·.size) = some 6 := by kernel_rfl
theorem sz_out : (Try.prog.info? 82).map (·.size) = some 13 := by kernel_rfl
theorem sz_stint : (Try.prog.info? 84).map (·.size) = some 15 := by kernel_rfl
theorem sz_counts : (Try.prog.info? 92).map (·.size) = some 8 := by kernel_rfl
theorem sz_works : (Try.prog.info? 63).map (·.size) = some 8 := by kernel_rfl
end Go.Proofs.Ytdffhkbncencgaa
