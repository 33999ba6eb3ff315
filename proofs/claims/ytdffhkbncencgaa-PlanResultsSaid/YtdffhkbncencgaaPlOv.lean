/- Furnaces with their machines and shifts; no statement is proved here. -/
import Derived.Test.YtdffhkbncencgaaPlTold
namespace Go.Proofs.Ytdffhkbncencgaa
open Go.RowKit Go.PlainAid
set_option linter.unusedVariables false
set_option linter.unusedSimpArgs false

structure Ovn where
  x : Sp
  ms : List Int
  sh : List (List Int)
def RCr (w : World) (p : Addr) (c : List Int) : Prop := c.length = 6 ∧ ∀ j, j < 6 → w.cell? ⟨p.block, p.off + j, none⟩ = some (.int .i64 (g c j))
def RCrs := RSl 6 RCr
def ROvn (w : World) (p : Addr) (o : Ovn) : Prop := ∃ v1 v2, (w.cell? p = some (.int .i64 o.x.lo) ∧ w.cell? ⟨p.block, p.off + 1, none⟩ = some (.int .i64 o.x.hi) ∧ w.cell? ⟨p.block, p.off + 2, none⟩ = some v1 ∧ w.cell? ⟨p.block, p.off + 3, none⟩ = some v2) ∧ RInts w v1 o.ms ∧ RCrs w v2 o.sh
def ROvns := RSl 4 ROvn
theorem RCr.mono {w w' : World} (e : Ext w w') {p : Addr} {x : List Int} (h : RCr w p x) : RCr w' p x := ⟨h.1, fun j hj => e _ _ (h.2 j hj)⟩
theorem RCrs.mono {w w' : World} (e : Ext w w') {v : Value} {x : List (List Int)} (h : RCrs w v x) : RCrs w' v x := RSl.mono h fun _ _ _ => RCr.mono e
theorem ROvn.mono {w w' : World} (e : Ext w w') {p : Addr} {x : Ovn} (h : ROvn w p x) : ROvn w' p x := by
  obtain ⟨v1, v2, ⟨h0, h1, h2, h3⟩, h4, h5⟩ := h
  exact ⟨v1, v2, ⟨e _ _ h0, e _ _ h1, e _ _ h2, e _ _ h3⟩, h4.mono e, h5.mono e⟩
theorem ROvns.mono {w w' : World} (e : Ext w w') {v : Value} {x : List Ovn} (h : ROvns w v x) : ROvns w' v x := RSl.mono h fun _ _ _ => ROvn.mono e
/-- a crew's cells as a list. -/
def crL (c : List Int) : List Value := (crC c).toList
theorem crL_len (c : List Int) : (crL c).length = 6 := rfl
theorem crL_at (c : List Int) {j : Nat} (hj : j < 6) : (crL c)[j]? = some (.int .i64 (g c j)) := by
  have := crC_at c hj
  unfold crL
  simpa using this
theorem own_RCrs {w : World} {base : Nat} {e : TypeId} {v : Value} {l : List (List Int)} (h : w.ownsRow base e 6 v l.length (l.flatMap crL)) (hm : l.length ≤ 140737488351232) (hi : ∀ c ∈ l, c.length = 6) : RCrs w v l :=
  own_RSl h hm fun q cap _ hc i hil => ⟨hi _ (List.getElem_mem hil), fun j hj => by
    have h1 := flat_at crL 6 crL_len l i j hil hj
    obtain ⟨h2, h3⟩ := List.getElem?_eq_some_iff.1 (h1.trans (crL_at _ hj))
    have := hc (i * 6 + j) h2
    rw [h3] at this
    exact this⟩

/-- a furnace as it comes to be built: its cells. -/
structure OvV where
  x : Sp
  v1 : Value
  v2 : Value
def ovC (o : OvV) : List Value := [.int .i64 o.x.lo, .int .i64 o.x.hi, o.v1, o.v2]
theorem ovC_len (o : OvV) : (ovC o).length = 4 := rfl

theorem tellL_ok {s : Sn} {lo hi : Int} {ms : List Int} : ∀ (rest : List Int) (c : List Int), (∀ m ∈ rest, 0 ≤ m ∧ m < 6) → CrOk s c → ∀ c' ∈ tellL s lo hi ms rest c, CrOk s c'
  | [], c, _, hc, c', h => by
    unfold tellL at h
    split at h
    · cases h
    · split at h
      · cases h
      · rw [List.mem_singleton] at h; rw [h]; exact hc
  | m :: rest, c, hm, hc, c', h => by
    unfold tellL at h
    split at h
    · cases h
    · rw [List.mem_flatMap] at h
      obtain ⟨a, ha, h⟩ := h
      split at h
      · cases h
      · have hm0 := hm m (List.mem_cons_self ..)
        refine tellL_ok rest _ (fun q hq => hm q (List.mem_cons_of_mem _ hq)) (hc.set (by omega) ?_) c' h
        unfold artsI at ha
        simp only [List.mem_map, List.mem_range] at ha
        obtain ⟨i, h1, rfl⟩ := ha
        omega
def ovAt (s : Sn) (k : Nat) : Ovn := ⟨(s.ovens[k]?).getD ⟨0, 0⟩, mksAt s k, tellL s ((s.ovens[k]?).getD ⟨0, 0⟩).lo ((s.ovens[k]?).getD ⟨0, 0⟩).hi (mksAt s k) (mksAt s k) idleC⟩
def ovL (s : Sn) : List Ovn := (List.range s.ovens.length).map (ovAt s)
theorem ovL_len (s : Sn) : (ovL s).length = s.ovens.length := by simp [ovL]
theorem ovL_at {s : Sn} {k : Nat} (h : k < (ovL s).length) : (ovL s)[k] = ovAt s k := by simp [ovL]
theorem mksAt_lt {s : Sn} (hn : s.mks.length ≤ 6) (o : Int) : ∀ m ∈ mksAt s o, 0 ≤ m ∧ m < 6 := fun m hm => by have := mksAt_ok s o m hm; omega
theorem ovAt_ok {s : Sn} (hn : s.mks.length ≤ 6) (k : Nat) : ∀ c ∈ (ovAt s k).sh, CrOk s c := tellL_ok _ _ (mksAt_lt hn _) (CrOk.idle s)
def fewF (s : Sn) (k : Nat) : Int := if 54 < (ovAt s k).sh.length then 9 else 0
/-- the first error of a season. -/
def worksE (s : Sn) : Int := if partsE s = 0 then fe (fewF s) 0 s.ovens.length else partsE s
theorem mksAt_len (s : Sn) (o : Int) : (mksAt s o).length ≤ s.mks.length := atTo_len _ _ _

theorem own_ROvns {T : Nat → Prop} {w : World} {base : Nat} {e : TypeId} {v : Value} {us : List OvV} {l : List Ovn} (h : w.ownsRow base e 4 v us.length (us.flatMap ovC)) (hT : ∀ q, v.ownBlock = some q → T q) (hl : l.length = us.length) (hm : us.length ≤ 140737488351232)
    (hr : ∀ i (h1 : i < us.length) (h2 : i < l.length), us[i].x = l[i].x ∧ RInts (vis T w) us[i].v1 l[i].ms ∧ RCrs (vis T w) us[i].v2 l[i].sh) : ROvns (vis T w) v l := by
  have h' := own_vis h hT
  rw [← hl] at h'
  refine own_RSl h' (by omega) fun q cap hv hc i hil => ?_
  have hiu : i < us.length := by omega
  obtain ⟨r1, r2, r3⟩ := hr i hiu hil
  have hcl : ∀ j, j < 4 → (vis T w).cell? ⟨q, i * 4 + j, none⟩ = (ovC us[i])[j]? := fun j hj => by
    have h1 := flat_at ovC 4 ovC_len us i j hiu hj
    have h2 : j < (ovC us[i]).length := by rw [ovC_len]; exact hj
    rw [List.getElem?_eq_getElem h2] at h1 ⊢
    obtain ⟨h3, h4⟩ := List.getElem?_eq_some_iff.1 h1
    have := hc (i * 4 + j) h3
    rw [h4] at this
    exact this
  refine ⟨us[i].v1, us[i].v2, ⟨?_, ?_, ?_, ?_⟩, r2, r3⟩
  · have := hcl 0 (by omega); rw [← r1]; exact this
  · have := hcl 1 (by omega); rw [← r1]; exact this
  · exact hcl 2 (by omega)
  · exact hcl 3 (by omega)
theorem sz_season : (Try.prog.info? 28).map (·.size) = some 7 := by kernel_rfl
theorem sz_oven : (Try.prog.info? 69).map (·.size) = some 4 := by kernel_rfl
theorem info_crew : (Try.prog.info? 71).map (fun i => (i.zero, i.size, i.bytes)) = some (some (.agg #[.int .i64 0, .int .i64 0, .int .i64 0, .int .i64 0, .int .i64 0, .int .i64 0]), 6, 48) := by kernel_rfl
theorem info_oven : (Try.prog.info? 69).map (fun i => (i.zero, i.size, i.bytes)) = some (some (.agg #[.int .i64 0, .int .i64 0, .slice none 0 0, .slice none 0 0]), 4, 64) := by kernel_rfl
end Go.Proofs.Ytdffhkbncencgaa
