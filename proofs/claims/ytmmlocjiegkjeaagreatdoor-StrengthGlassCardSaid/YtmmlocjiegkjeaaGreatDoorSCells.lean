/- What is asked of a bottle, with its set of cells and its places; whether it is wide; no statement is proved here. -/
import Derived.Test.YtmmlocjiegkjeaaGreatDoorSData
import Derived.Test.YtmmlocjiegkjeaaGreatDoorSLives
import Derived.Deep.MidRow
namespace Go.Proofs.YtmmlocjiegkjeaaGreatDoor
open Go.RowKit Go.PlainAid Go.ChangeShapes Go.WideShapes Go.ChangeAt
set_option linter.unusedVariables false
theorem Blk.load {P : Program} {W : World} {k : Nat} {cs : Array Value} {t ty : TypeId} {d : TypeDesc} (h : Blk W k cs t) (hu : P.underlying ty = some d) (hd : d.isRow = true) (hi : (P.info? ty).map (·.size) = some cs.size) :
    Sem.run P (Instr.loadAt ty (.pointer (some ⟨k, 0, none⟩))) W = .ok (.agg cs) W := by
  have := run_loadAt_mid (P := P) W k 0 ty cs.toList d (fun j v hv => by rw [Nat.zero_add]; exact h.cell j v (by simpa using hv)) hu hd (by simpa using hi)
  simpa using this
/-- a load of a great struct that a walk does not open: what it gives is told by a fact of its own. -/
def ldAt (t : TypeId) (v : Value) : Sem Value := Instr.loadAt t v
theorem ldAt_of {P : Program} {W : World} {k : Nat} {cs : Array Value} {t : TypeId} {d : TypeDesc} (h : Blk W k cs t) (hu : P.underlying t = some d) (hd : d.isRow = true) (hi : (P.info? t).map (·.size) = some cs.size) :
    Sem.run P (ldAt t (.pointer (some ⟨k, 0, none⟩))) W = .ok (.agg cs) W := h.load hu hd hi
theorem exec_ask (ρ : Operand → Value) (dst : Option Tmp) (x : Operand) (ty : TypeId) (pos : String) (after : Array Edge) (guard : Option (Nat × Bool)) :
    execOp ρ { dst, op := .load 38 x, type := ty, pos, after, guard } = (do pure (.value (← ldAt 38 (ρ x)))) := rfl
theorem ld_ask {W : World} {k : Nat} {cs : Array Value} (h : Blk W k cs 38) (hn : cs.size = 21) : Sem.run Tryz.prog (ldAt 38 (.pointer (some ⟨k, 0, none⟩))) W = .ok (.agg cs) W :=
  ldAt_of h Tryz.underlying38 rfl (by rw [hn]; kernel_rfl)

/-- a cell of a set, of which only the length of its third part is read. -/
def RCellL (w : World) (p : Addr) (n : Nat) : Prop := (∃ a k, w.cell? ⟨p.block, p.off + 2, none⟩ = some (.slice a n k)) ∧ n ≤ 140737488351232
theorem RCellL.mono {w w' : World} (e : Ext w w') {p : Addr} {x : Nat} (h : RCellL w p x) : RCellL w' p x := ⟨h.1.elim fun a h => h.elim fun k h => ⟨a, k, e _ _ h⟩, h.2⟩
def RCells := RSl 3 RCellL
theorem RCells.mono {w w' : World} (e : Ext w w') {v : Value} {x : List Nat} (h : RCells w v x) : RCells w' v x := RSl.mono h fun _ _ _ => RCellL.mono e
section
variable {H : Type} {enc : TypeId × Value → H} {w : World} {base : Nat} {spare : Nat → Bool} {held : Bool}
def CCell (cs : List Value) (n : Nat) : Prop := (∃ c0 c1 a k, cs = [c0, c1, .slice a n k]) ∧ n ≤ 140737488351232
theorem rd_cellL : Rd enc w base spare held 81 CCell := fun fuel cs x h hl => by
  obtain ⟨hc, hf⟩ := struct_field Tryz.underlying81 h hl
  rw [cells_cell] at hc
  obtain ⟨c0, c1, c2, rfl⟩ := len3 hc
  obtain ⟨n0, y0, h0, l0⟩ := hf 2 27 2 rfl
  simp only [cells_sps, List.drop_zero, List.drop_succ_cons, List.take_succ_cons, List.take_zero] at h0
  obtain ⟨a0, p0, k0, e0, i0⟩ := rd_len Tryz.underlying27 (by rw [show Tryz.prog.bytesOf 30 = 16 from by kernel_rfl]; decide) _ _ _ h0 l0
  simp only [List.cons.injEq, and_true] at e0
  subst e0
  exact ⟨a0, ⟨_, _, _, _, rfl⟩, i0⟩
theorem rd_cellsL : Rd enc w base spare held 36 fun cs l => ∃ v, cs = [v] ∧ RCells w v l :=
  rd_slice Tryz.underlying36 cells_cell (by decide) (by rw [show Tryz.prog.bytesOf 81 = 40 from by kernel_rfl]; decide) rd_cellL fun b o cs a ⟨⟨c0, c1, p, k, h1⟩, h2⟩ _ hc => by
    subst h1
    exact ⟨⟨p, k, hc 2 (by simp)⟩, h2⟩
/-- what is asked, with its set. -/
def RAskC (w : World) (v : Value) (x : Ask5) : Prop := ∃ vt vm vr a k cl, v = .agg (askCells x vt vm vr a k) ∧ RAsk5 w v x ∧ RCells w (.slice a x.cells k) cl
theorem RAskC.mono {w w' : World} (e : Ext w w') {v : Value} {x : Ask5} (h : RAskC w v x) : RAskC w' v x := by
  obtain ⟨vt, vm, vr, a, k, cl, h1, h2, h3⟩ := h
  exact ⟨vt, vm, vr, a, k, cl, h1, h2.mono e, h3.mono e⟩
theorem rd_askC : Rd enc w base spare held 38 fun cs x => RAskC w (.agg cs.toArray) x := fun fuel cs x h hl => by
  obtain ⟨y, hy⟩ := rd_ask5 _ _ _ h hl
  obtain ⟨hc, hf⟩ := struct_field Tryz.underlying38 h hl
  have hy0 := hy
  obtain ⟨vt, vm, vr, a, k, he, -⟩ := hy
  obtain ⟨n15, y15, h15, l15⟩ := hf 15 36 20 rfl
  obtain ⟨cl, v, hv, hR⟩ := rd_cellsL _ _ _ h15 l15
  simp only [askCells, Value.agg.injEq] at he
  have he' := congrArg Array.toList he
  simp only at he'
  subst he'
  simp only [cells_cells, List.drop_zero, List.drop_succ_cons, List.take_succ_cons, List.take_zero, List.cons.injEq, and_true] at hv
  subst hv
  exact ⟨y, vt, vm, vr, a, k, cl, by simp [askCells], hy0, hR⟩
end
set_option maxHeartbeats 1000000 in
set_option maxRecDepth 100000 in
theorem great3_any (v : Value) (l : List Nat) (w : World) (h : RCells w v l) :
    Calls Tryz.prog 11 #[v] w fun e w' => ∃ r, e = .returned (.bool r) ∧ Below w.heap.size w w' := by
  obtain ⟨a, k, rfl, -, ⟨-, hm⟩, hl⟩ := h
  go_enter Tryz.func11, Tryz.ntmps11
  by_cases h5 : (500 : Int) < (l.length : Int)
  · go_wp2
    go_ret
    exact ⟨true, rfl, Below.refl _ _⟩
  have h6 : l.length ≤ 500 := by omega
  go_wp2
  go_loopw [3, 4] (fun nv i wr => ∃ (k : Nat) (n : Int), k ≤ l.length ∧ i = .int .i64 k ∧ nv = .int .i64 n ∧ (0 ≤ n ∧ n ≤ 250 * k) ∧ Below w.heap.size w wr) (fun _ i _ => l.length - (intOf i).toNat)
  case atStart => exact ⟨0, 0, Nat.zero_le _, rfl, rfl, by omega, Below.refl _ _⟩
  case round =>
    obtain ⟨k, n, hk, rfl, rfl, hn, hB⟩ := hrel
    have i1 : (0 : Int) ≤ (k : Int) := Int.natCast_nonneg _
    by_cases hlt : k < l.length
    · obtain ⟨b1, o1, rfl, ⟨p, kk, q1⟩, q2⟩ := hl k hlt
      simp only at q1
      generalize l[k]'hlt = x at *
      have i2 : (k : Int) < (l.length : Int) := by omega
      have k1 := ext_of_below hB _ _ q1
      by_cases hx : (250 : Int) < (x : Int)
      · go_wp2
        go_ret
        exact ⟨true, rfl, hB⟩
      · have wn : wrap64 (n + (x : Int)) = n + (x : Int) := wrap_id _ (by unfold I64; omega)
        go_wp2
        go_roundw
        case rel => exact ⟨k + 1, n + x, by omega, by go_num, rfl, by omega, hB⟩
        case measure => simp [intOf]; omega
    · have hkk : k = l.length := by omega
      subst hkk
      go_wp2
      go_ret
      exact ⟨_, rfl, hB⟩

def WideP (w : World) (x : Ask5) (e : Ending) (w' : World) : Prop := ∃ r, e = .returned (.bool r) ∧ (r = false → x.thick.length ≤ 40) ∧ Below w.heap.size w w'

set_option maxHeartbeats 1000000 in
set_option maxRecDepth 100000 in
theorem wide5_any (v : Value) (x : Ask5) (w : World) (h : RAskC w v x) :
    Calls Tryz.prog 5 #[v] w (WideP w x) := by
  obtain ⟨vt, vm, vr, a, k, cl, rfl, hx, hc⟩ := h
  obtain ⟨vt', vm', vr', a', k', he, hx1, hx2, hx3, -, -⟩ := hx
  simp only [askCells, Value.agg.injEq, Array.mk.injEq, List.cons.injEq, and_true, true_and] at he
  obtain ⟨rfl, rfl, rfl, -⟩ := he
  obtain ⟨at', kt, rfl, -, -, -⟩ := hx1
  obtain ⟨am, km, rfl, -, -, -⟩ := hx2
  obtain ⟨ar, kr, rfl, -, -, -⟩ := hx3
  have hg := fun W (e : Ext w W) => great3_any _ cl W (hc.mono e)
  have hA := below_boxS w (.cells (askCells x (.slice at' x.thick.length kt) (.slice am x.measured.length km) (.slice ar x.recipe.length kr) a k) 38)
  have hB := Blk.new w (askCells x (.slice at' x.thick.length kt) (.slice am x.measured.length km) (.slice ar x.recipe.length kr) a k) 38
  simp only [askCells] at hA hB ⊢
  go_enter Tryz.func5, Tryz.ntmps5
  by_cases h1 : (40 : Int) < (x.thick.length : Int)
  · go_wp2
    go_ret
    exact ⟨true, rfl, fun e => (by cases e), hA⟩
  by_cases h2 : (40 : Int) < (x.measured.length : Int)
  · go_wp2
    go_ret
    exact ⟨true, rfl, fun e => (by cases e), hA⟩
  by_cases h3 : (40 : Int) < (x.recipe.length : Int)
  · go_wp2
    go_ret
    exact ⟨true, rfl, fun e => (by cases e), hA⟩
  go_wp2_with fail
  refine (hg _ (ext_of_below hA)).mono ?_
  rintro e w1 ⟨r, rfl, hb⟩
  have hA1 := hA.trans (hb.mono hA.size)
  have hh : x.thick.length ≤ 40 := by omega
  go_wp2
  go_ret
  exact ⟨_, rfl, fun _ => hh, hA1⟩

end Go.Proofs.YtmmlocjiegkjeaaGreatDoor
