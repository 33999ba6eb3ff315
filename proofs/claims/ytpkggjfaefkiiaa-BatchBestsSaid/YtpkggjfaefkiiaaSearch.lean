/- search, the specification's other search, by its contract; no statement is proved here. -/
import Derived.Test.YtpkggjfaefkiiaaFirst
namespace Go.Proofs.Ytpkggjfaefkiiaa
open Go.RowKit Go.PlainAid
set_option linter.unusedVariables false

/-- so many lots of a recipe beside what is there. -/
def addL (there : List Int) (lots : Int) (r : List Int) : List Int := (List.range r.length).map fun k => wrap64 (there.getD k 0 + wrap64 (lots * r.getD k 0))
theorem addL_len (there : List Int) (lots : Int) (r : List Int) : (addL there lots r).length = r.length := by simp [addL]
theorem addL_i64 (there : List Int) (lots : Int) (r : List Int) : ∀ y ∈ addL there lots r, I64 y := fun y hy => by
  obtain ⟨k, -, rfl⟩ := List.mem_map.1 hy
  exact wrap_i64 _
def keepsS (b : Bat) (there : List Int) (lots : Int) (r : List Int) : Bool := keepsB (linesB b) (addL there lots r) (lots + 1)

/-- the row while the first k are reckoned. -/
def addTo (there : List Int) (lots : Int) (r : List Int) (k : Nat) : List Int := (addL there lots r).take k ++ List.replicate (r.length - k) 0
theorem addTo_zero (there : List Int) (lots : Int) (r : List Int) : addTo there lots r 0 = List.replicate r.length 0 := by simp [addTo]
theorem addTo_all (there : List Int) (lots : Int) (r : List Int) (k : Nat) (h : r.length ≤ k) : addTo there lots r k = addL there lots r := by
  unfold addTo
  rw [List.take_of_length_le (by rw [addL_len]; exact h), show r.length - k = 0 by omega]
  simp
theorem addTo_len (there : List Int) (lots : Int) (r : List Int) (k : Nat) (h : k ≤ r.length) : (addTo there lots r k).length = r.length := by
  unfold addTo
  rw [List.length_append, List.length_take, addL_len, List.length_replicate]
  omega
theorem addTo_set (there : List Int) (lots : Int) (r : List Int) (k : Nat) (h : k < r.length) : (addTo there lots r k).set k (wrap64 (there.getD k 0 + wrap64 (lots * r.getD k 0))) = addTo there lots r (k + 1) := by
  unfold addTo
  have hl := addL_len there lots r
  rw [List.set_append_right _ _ (by rw [List.length_take]; omega), List.length_take, show k - min k (addL there lots r).length = 0 by omega, show r.length - k = (r.length - (k + 1)) + 1 by omega, List.replicate_succ, List.set_cons_zero, List.take_succ_eq_append_getElem (by omega), List.append_assoc]
  congr 2
  simp [addL]

/-- a row of numbers, as a block. -/
def cellsI (l : List Int) : Array Value := (l.map (Value.int .i64)).toArray
theorem cells_set (l : List Int) (k : Nat) (x : Int) : (cellsI l).setIfInBounds k (.int .i64 x) = cellsI (l.set k x) := by
  unfold cellsI
  rw [List.setIfInBounds_toArray, List.map_set]
theorem blk_ints {w : World} {g n : Nat} {l : List Int} (h : Blk w g (cellsI l) 3) (hn : l.length = n) (hm : n ≤ 140737488351232) (hi : ∀ y ∈ l, I64 y) : RInts w (.slice (some ⟨g, 0, none⟩) n n) l := by
  subst hn
  refine ⟨some ⟨g, 0, none⟩, _, rfl, Nat.le_refl _, ⟨by omega, hm⟩, fun i hl => ⟨g, 0, rfl, ?_⟩⟩
  rw [Nat.zero_add, Nat.mul_one]
  exact ⟨h.cell i _ (by simp [cellsI, hl]), hi _ (List.getElem_mem hl)⟩

theorem made_cells (n : Nat) : madeCells #[Value.int .i64 0] n = cellsI (List.replicate n 0) := by
  have := toList_madeCells_one (Value.int .i64 0) n
  apply Array.toList_inj.1
  rw [this]
  simp [cellsI]

set_option maxHeartbeats 6000000 in
set_option maxRecDepth 100000 in
theorem search_any (b : Bat) (hk : OkB b) (there : List Int) (lots : Int) (hlo : 1 ≤ lots ∧ lots ≤ 100) (htl : there.length = b.mats.length) : ∀ (j : Nat) (hd : List Int) (o : Option (List Int)) (vb vl vt vh vo : Value) (w : World), RBat w vb b → RLns w vl (linesB b) → RInts w vt there → RInts w vh hd → ROpt b.mats.length w vo o → hd.length + j = b.mats.length → (∀ x ∈ hd, I64 x) →
    Calls Try.prog 86 #[vb, vl, vt, .int .i64 lots, vh, vo] w (RetOpt b.mats.length w (refOver b (keepsS b there lots) hd o)) := by
  obtain ⟨hlo1, hlo2⟩ := hlo
  have HTL := Lib.hid htl
  clear htl
  intro j
  induction j with
  | zero =>
    intro hd o vb vl vt vh vo w h hln ht hh ho hl h64
    obtain ⟨a0, k0, a1, k1, a2, k2, a3, k3, rfl⟩ := h.agg
    obtain ⟨pl, jl, rfl, -⟩ := id hln
    obtain ⟨ph, jh, rfl, -, ⟨-, bh⟩, hhc⟩ := id hh
    obtain ⟨pt, jt, rfl, -, ⟨-, bt⟩, htc⟩ := id ht
    obtain ⟨oa, on, ok, rfl⟩ := ho.slice
    have hmt := hk.mt
    have hleaf := ref_leaf b (keepsS b there lots) hd o (by omega)
    have HL := Lib.hid (show hd.length = b.mats.length by omega)
    have HF := Lib.hid hleaf
    have d1 : ((hd.length : Int) == (b.mats.length : Int)) = true := by rw [HL.out]; simp
    have hA := below_box w (.cells #[.slice a0 b.oxides.length k0, .slice a1 b.mats.length k1, .slice a2 b.shares.length k2, .slice a3 b.props.length k3, .int .i64 b.redox.lo, .int .i64 b.redox.hi, .int .i64 b.wanted] 29)
    have hB := Blk.new w #[.slice a0 b.oxides.length k0, .slice a1 b.mats.length k1, .slice a2 b.shares.length k2, .slice a3 b.props.length k3, .int .i64 b.redox.lo, .int .i64 b.redox.hi, .int .i64 b.wanted] 29
    clear hl hleaf
    have hlh : hd.length ≤ 12 := by rw [HL.out]; exact hmt.2
    have hmk := fun w => run_make_row' (P := Try.prog) 37 3 (.int .i64 0) 8 Try.underlying37 info_int rfl .i64 .i64 hd.length (by omega) (by omega) w
    go_enter Try.func86, Try.ntmps86
    have f0 := hB.cell 0 _ rfl
    have f1 := hB.cell 1 _ rfl
    have f2 := hB.cell 2 _ rfl
    have f3 := hB.cell 3 _ rfl
    have f4 := hB.cell 4 _ rfl
    have f5 := hB.cell 5 _ rfl
    have f6 := hB.cell 6 _ rfl
    go_wp2_with fail
    have hM := below_box (w.alloc (.cells #[.slice a0 b.oxides.length k0, .slice a1 b.mats.length k1, .slice a2 b.shares.length k2, .slice a3 b.props.length k3, .int .i64 b.redox.lo, .int .i64 b.redox.hi, .int .i64 b.wanted] 29)) (.cells (madeCells #[Value.int .i64 0] hd.length) 3)
    have BR : Blk ((w.alloc (.cells #[.slice a0 b.oxides.length k0, .slice a1 b.mats.length k1, .slice a2 b.shares.length k2, .slice a3 b.props.length k3, .int .i64 b.redox.lo, .int .i64 b.redox.hi, .int .i64 b.wanted] 29)).alloc (.cells (madeCells #[Value.int .i64 0] hd.length) 3)) (w.heap.size + 1) (cellsI (addTo there lots hd 0)) 3 := by
      have := Blk.new (w.alloc (.cells #[.slice a0 b.oxides.length k0, .slice a1 b.mats.length k1, .slice a2 b.shares.length k2, .slice a3 b.props.length k3, .int .i64 b.redox.lo, .int .i64 b.redox.hi, .int .i64 b.wanted] 29)) (madeCells #[Value.int .i64 0] hd.length) 3
      rw [World.size_alloc] at this
      rw [addTo_zero, ← made_cells]
      exact this
    have hBr := hB.alloc (.cells (madeCells #[Value.int .i64 0] hd.length) 3)
    have hAr := hA.trans (hM.mono hA.size)
    generalize (w.alloc (.cells #[.slice a0 b.oxides.length k0, .slice a1 b.mats.length k1, .slice a2 b.shares.length k2, .slice a3 b.props.length k3, .int .i64 b.redox.lo, .int .i64 b.redox.hi, .int .i64 b.wanted] 29)).alloc (.cells (madeCells #[Value.int .i64 0] hd.length) 3) = W1 at *
    have hsW : w.heap.size + 1 < W1.heap.size := BR.lt
    clear f0 f1 f2 f3 f4 f5 f6 hM hB hA hmk
    go_loopw [14] (fun iv wr => ∃ k : Nat, k ≤ hd.length ∧ iv = .int .i64 (k : Int) ∧ Blk wr (w.heap.size + 1) (cellsI (addTo there lots hd k)) 3 ∧ Below (w.heap.size + 1) W1 wr) (fun iv _ => hd.length - (intOf iv).toNat)
    case atStart => exact ⟨0, Nat.zero_le _, rfl, BR, Below.refl _ _⟩
    case round =>
      obtain ⟨k, hkk, rfl, BK, hbr⟩ := hrel
      have hAk := hAr.trans (hbr.mono (by omega))
      have hBk := hBr.below hbr (by omega)
      clear BR
      by_cases hlt : k < hd.length
      · have hkt : k < there.length := by rw [HTL.out, ← HL.out]; exact hlt
        have hkti : (k : Int) < (there.length : Int) := by omega
        have hkhi : (k : Int) < (hd.length : Int) := by omega
        have hk0 : (0 : Int) ≤ (k : Int) := Int.natCast_nonneg _
        obtain ⟨b8, o8, rfl, q8, -⟩ := htc k hkt
        obtain ⟨b9, o9, rfl, q9, -⟩ := hhc k hlt
        rw [Nat.mul_one] at q8 q9
        have hb8 : b8 < w.heap.size := cell_lt q8
        have hb9 : b9 < w.heap.size := cell_lt q9
        replace q8 := ext_of_below hAk _ _ q8
        replace q9 := ext_of_below hAk _ _ q9
        have hset := addTo_set there lots hd k hlt
        have hln2 := addTo_len there lots hd k hkk
        obtain ⟨old, hcel⟩ : ∃ old : Int, (cellsI (addTo there lots hd k))[k]? = some (.int .i64 old) := ⟨(addTo there lots hd k)[k]'(by omega), by simp [cellsI, List.getElem?_eq_getElem (show k < (addTo there lots hd k).length by omega)]⟩
        have r0 := BK.cell k _ hcel
        have r1 := BK.frozen k
        have hgt : there.getD k 0 = there[k] := by simp [List.getD, List.getElem?_eq_getElem hkt]
        have hgh : hd.getD k 0 = hd[k] := by simp [List.getD, List.getElem?_eq_getElem hlt]
        rw [hgt, hgh] at hset
        have HSET := Lib.hid hset
        clear hset hln2 hcel hgt hgh htc hhc
        generalize there[k]'hkt = tk at *
        generalize hd[k]'hlt = hk' at *
        obtain ⟨y2, hy2⟩ : ∃ y, y = IntKind.i64.wrap (lots * hk') := ⟨_, rfl⟩
        obtain ⟨z, hz⟩ : ∃ z, z = IntKind.i64.wrap (tk + y2) := ⟨_, rfl⟩
        have HZ : Hid (wrap64 (tk + wrap64 (lots * hk')) = z) := by
          show wrap64 (tk + wrap64 (lots * hk')) = z
          rw [hz, hy2, IntWalk.i64_left, IntWalk.i64_left]
        have e1 := hy2.symm
        have e2 := hz.symm
        clear hy2 hz
        have D0 : Below wr.heap.size wr wr.drew := (Below.refl _ _).drew
        go_wp2
        refine wp_region_till (fun w' => w'.cell? ⟨b8, o8 + k, none⟩ = some (.int .i64 tk) ∧ w'.cell? ⟨b9, o9 + k, none⟩ = some (.int .i64 hk') ∧ w'.cell? ⟨w.heap.size + 1, k, none⟩ = some (.int .i64 old) ∧ w'.frozen? ⟨w.heap.size + 1, k, none⟩ = false) 14 (by kernel_rfl) ⟨q8, q9, r0, r1⟩ (fun hHeld => ?_)
        refine Till.take 0 (some 32) (v := ?_) rfl rfl (by kernel_rfl) (by kernel_rfl) (by kernel_rfl) (by kernel_rfl) (fun _ _ _ h => h) (Or.inl ⟨by rfl, ?_⟩) (by assumption) ?_
        rotate_left
        · (intro w hSw; (try dsimp only at hSw); go_simp; try with_reducible rfl)
        try simp only [Act.put, List.setIfInBounds_toArray, List.set_cons_zero, List.set_cons_succ]
        refine Till.take 1 (some 33) (v := ?_) rfl rfl (by kernel_rfl) (by kernel_rfl) (by kernel_rfl) (by kernel_rfl) (fun _ _ _ h => h) (Or.inl ⟨by rfl, ?_⟩) (by assumption) ?_
        rotate_left
        · (intro w hSw; (try dsimp only at hSw); go_simp; try with_reducible rfl)
        try simp only [Act.put, List.setIfInBounds_toArray, List.set_cons_zero, List.set_cons_succ]
        refine Till.take 2 (some 34) (v := ?_) rfl rfl (by kernel_rfl) (by kernel_rfl) (by kernel_rfl) (by kernel_rfl) (fun _ _ _ h => h) (Or.inl ⟨by rfl, ?_⟩) (by assumption) ?_
        rotate_left
        · (intro w hSw; (try dsimp only at hSw); go_simp; try with_reducible rfl)
        try simp only [Act.put, List.setIfInBounds_toArray, List.set_cons_zero, List.set_cons_succ]
        refine Till.take 3 (some 35) (v := ?_) rfl rfl (by kernel_rfl) (by kernel_rfl) (by kernel_rfl) (by kernel_rfl) (fun _ _ _ h => h) (Or.inl ⟨by rfl, ?_⟩) (by assumption) ?_
        rotate_left
        · (intro w hSw; (try dsimp only at hSw); go_simp; try with_reducible rfl)
        try simp only [Act.put, List.setIfInBounds_toArray, List.set_cons_zero, List.set_cons_succ]
        refine Till.take 4 (some 36) (v := ?_) rfl rfl (by kernel_rfl) (by kernel_rfl) (by kernel_rfl) (by kernel_rfl) (fun _ _ _ h => h) (Or.inl ⟨by rfl, ?_⟩) (by assumption) ?_
        rotate_left
        · (intro w hSw; (try dsimp only at hSw); go_simp; try with_reducible rfl)
        try simp only [Act.put, List.setIfInBounds_toArray, List.set_cons_zero, List.set_cons_succ]
        refine Till.take 5 (some 37) (v := ?_) rfl rfl (by kernel_rfl) (by kernel_rfl) (by kernel_rfl) (by kernel_rfl) (fun _ _ _ h => h) (Or.inl ⟨by rfl, ?_⟩) (by assumption) ?_
        rotate_left
        · (intro w hSw; (try dsimp only at hSw); go_simp; try with_reducible rfl)
        try simp only [Act.put, List.setIfInBounds_toArray, List.set_cons_zero, List.set_cons_succ]
        refine Till.take 6 (some 38) (v := ?_) rfl rfl (by kernel_rfl) (by kernel_rfl) (by kernel_rfl) (by kernel_rfl) (fun _ _ _ h => h) (Or.inl ⟨by rfl, ?_⟩) (by assumption) ?_
        rotate_left
        · (intro w hSw; (try dsimp only at hSw); go_simp; try with_reducible rfl)
        try simp only [Act.put, List.setIfInBounds_toArray, List.set_cons_zero, List.set_cons_succ]
        refine Till.take 7 (some 39) (v := ?_) rfl rfl (by kernel_rfl) (by kernel_rfl) (by kernel_rfl) (by kernel_rfl) (fun _ _ _ h => h) (Or.inl ⟨by rfl, ?_⟩) (by assumption) ?_
        rotate_left
        · (intro w hSw; (try dsimp only at hSw); go_simp; try with_reducible rfl)
        try simp only [Act.put, List.setIfInBounds_toArray, List.set_cons_zero, List.set_cons_succ]
        refine Till.take 8 (some 40) (v := ?_) rfl rfl (by kernel_rfl) (by kernel_rfl) (by kernel_rfl) (by kernel_rfl) (fun _ _ _ h => h) (Or.inl ⟨by rfl, ?_⟩) (by assumption) ?_
        rotate_left
        · (intro w hSw; (try dsimp only at hSw); go_simp; try with_reducible rfl)
        try simp only [Act.put, List.setIfInBounds_toArray, List.set_cons_zero, List.set_cons_succ]
        refine Till.take 9 (some 41) (v := ?_) rfl rfl (by kernel_rfl) (by kernel_rfl) (by kernel_rfl) (by kernel_rfl) (fun _ _ _ h => h) (Or.inl ⟨by rfl, ?_⟩) (by assumption) ?_
        rotate_left
        · (intro w hSw; (try dsimp only at hSw); go_simp; try with_reducible rfl)
        try simp only [Act.put, List.setIfInBounds_toArray, List.set_cons_zero, List.set_cons_succ]
        refine Till.take 10 (some 42) (v := ?_) rfl rfl (by kernel_rfl) (by kernel_rfl) (by kernel_rfl) (by kernel_rfl) (fun _ _ _ h => h) (Or.inl ⟨by rfl, ?_⟩) (by assumption) ?_
        rotate_left
        · (intro w hSw; (try dsimp only at hSw); go_simp; try with_reducible rfl)
        try simp only [Act.put, List.setIfInBounds_toArray, List.set_cons_zero, List.set_cons_succ]
        refine Till.take 11 (some 43) (v := ?_) rfl rfl (by kernel_rfl) (by kernel_rfl) (by kernel_rfl) (by kernel_rfl) (fun _ _ _ h => h) (Or.inl ⟨by rfl, ?_⟩) (by assumption) ?_
        rotate_left
        · (intro w hSw; (try dsimp only at hSw); go_simp; try with_reducible rfl)
        try simp only [Act.put, List.setIfInBounds_toArray, List.set_cons_zero, List.set_cons_succ]
        refine Till.take 12 (some 44) (v := ?_) rfl rfl (by kernel_rfl) (by kernel_rfl) (by kernel_rfl) (by kernel_rfl) (fun _ _ _ h => h) (Or.inl ⟨by rfl, ?_⟩) (by assumption) ?_
        rotate_left
        · (intro w hSw; (try dsimp only at hSw); go_simp; try with_reducible rfl)
        try simp only [Act.put, List.setIfInBounds_toArray, List.set_cons_zero, List.set_cons_succ]
        refine Till.take 13 (some 45) (v := ?_) rfl rfl (by kernel_rfl) (by kernel_rfl) (by kernel_rfl) (by kernel_rfl) (fun _ _ _ h => h) (Or.inl ⟨by rfl, ?_⟩) (by assumption) ?_
        rotate_left
        · (intro w hSw; (try dsimp only at hSw); go_simp; try with_reducible rfl)
        try simp only [Act.put, List.setIfInBounds_toArray, List.set_cons_zero, List.set_cons_succ]
        refine Till.one 14 rfl (by kernel_rfl) (fun K hK => ?_)
        go_simp
        refine hK.out _ _ (fun h => absurd rfl h) (fun _ => ?_)
        clear hK K
        refine Till.done (by kernel_rfl) ?_ _
        have BN : Blk (wr.drew.setCell ⟨w.heap.size + 1, k, none⟩ (.int .i64 z)) (w.heap.size + 1) (cellsI (addTo there lots hd (k + 1))) 3 := by
          have BD : Blk wr.drew (w.heap.size + 1) (cellsI (addTo there lots hd k)) 3 := BK
          have h1 := BD.set k (.int .i64 z)
          rw [cells_set, ← HZ.out, HSET.out] at h1
          rw [← HZ.out]
          exact h1
        have hbN : Below (w.heap.size + 1) W1 (wr.drew.setCell ⟨w.heap.size + 1, k, none⟩ (.int .i64 z)) := (hbr.trans (Below.refl _ _).drew).setCell (p := ⟨_, k, none⟩) (Nat.le_refl _) _
        clear hHeld q8 q9 r0 r1 D0
        go_wp2
        go_roundw
        case rel => exact ⟨k + 1, by omega, by go_num, BN, hbN⟩
        case measure => simp [intOf]; omega
      · have hall : RInts wr (.slice (some ⟨w.heap.size + 1, 0, none⟩) hd.length hd.length) (addL there lots hd) := by
          rw [addTo_all there lots hd k (by omega)] at BK
          exact blk_ints BK (addL_len _ _ _) (by omega) (addL_i64 _ _ _)
        have hA := hAk
        have hB := hBk
        have hkd : decide (k < hd.length) = false := decide_eq_false hlt
        clear hAk hBk hAr hBr hbr BK
        have f0 := hB.cell 0 _ rfl
        have f1 := hB.cell 1 _ rfl
        have f2 := hB.cell 2 _ rfl
        have f3 := hB.cell 3 _ rfl
        have f4 := hB.cell 4 _ rfl
        have f5 := hB.cell 5 _ rfl
        have f6 := hB.cell 6 _ rfl
        generalize wr = W at *
        have e11 : IntKind.i64.wrap (lots + 1) = lots + 1 := IntWalk.i64_in _ (by omega)
        clear hsW
        go_wp2
        have D0 : Below W.heap.size W W.drew := (Below.refl _ _).drew
        have hsv : ∀ V, Below W.heap.size W V → (fun w' : World => w'.cell? ⟨w.heap.size, 0, none⟩ = some (.slice a0 b.oxides.length k0) ∧ w'.cell? ⟨w.heap.size, 1, none⟩ = some (.slice a1 b.mats.length k1) ∧ w'.cell? ⟨w.heap.size, 2, none⟩ = some (.slice a2 b.shares.length k2) ∧ w'.cell? ⟨w.heap.size, 3, none⟩ = some (.slice a3 b.props.length k3) ∧ w'.cell? ⟨w.heap.size, 4, none⟩ = some (.int .i64 b.redox.lo) ∧ w'.cell? ⟨w.heap.size, 5, none⟩ = some (.int .i64 b.redox.hi) ∧ w'.cell? ⟨w.heap.size, 6, none⟩ = some (.int .i64 b.wanted)) V := fun V e => ⟨keepC e f0, keepC e f1, keepC e f2, keepC e f3, keepC e f4, keepC e f5, keepC e f6⟩
        have E0 := (ext_of_below hA).trans (ext_of_below D0)
        have he0 : ∀ V : World, (binOp .eql 37 (.slice none 0 0) (.slice none 0 0)).run Try.prog V = .ok (.bool true) V := fun _ => rfl
        have he1 : ∀ (A : Addr) (n c : Nat) (V : World), (binOp .eql 37 (.slice (some A) n c) (.slice none 0 0)).run Try.prog V = .ok (.bool false) V := fun _ _ _ _ => rfl
        have hke := rkeeps_any _ _ (linesB b) (addL there lots hd) (lots + 1) _ (hln.mono E0) (hall.mono (ext_of_below D0)) (fun x hx => by rw [line_len hx, addL_len, HL.out])
        have hco := fun (r : List Int) (v : Value) (V : World) (e : Below W.heap.size W V) (hr : RInts V v r) (hrl : r.length = b.mats.length) => rcostI_any _ v b r V (h.mono ((ext_of_below hA).trans (ext_of_below e))) hr hrl
        obtain ⟨kp, hkp⟩ : ∃ t, t = keepsB (linesB b) (addL there lots hd) (lots + 1) := ⟨_, rfl⟩
        rw [← hkp] at hke
        have HKP := Lib.hid hkp
        clear hkp
        refine wp_region_till (fun w' => w'.cell? ⟨w.heap.size, 0, none⟩ = some (.slice a0 b.oxides.length k0) ∧ w'.cell? ⟨w.heap.size, 1, none⟩ = some (.slice a1 b.mats.length k1) ∧ w'.cell? ⟨w.heap.size, 2, none⟩ = some (.slice a2 b.shares.length k2) ∧ w'.cell? ⟨w.heap.size, 3, none⟩ = some (.slice a3 b.props.length k3) ∧ w'.cell? ⟨w.heap.size, 4, none⟩ = some (.int .i64 b.redox.lo) ∧ w'.cell? ⟨w.heap.size, 5, none⟩ = some (.int .i64 b.redox.hi) ∧ w'.cell? ⟨w.heap.size, 6, none⟩ = some (.int .i64 b.wanted)) 99 (by kernel_rfl) (hsv _ D0) (fun hHeld => ?_)
        refine Till.take 0 (some 46) (v := ?_) rfl rfl (by kernel_rfl) (by kernel_rfl) (by kernel_rfl) (by kernel_rfl) (fun _ _ _ h => h) (Or.inl ⟨by rfl, ?_⟩) (by assumption) ?_
        rotate_left
        · (intro w hSw; (try dsimp only at hSw); go_simp; try with_reducible rfl)
        try simp only [Act.put, List.setIfInBounds_toArray, List.set_cons_zero, List.set_cons_succ]
        refine Till.take 1 (some 47) (v := ?_) rfl rfl (by kernel_rfl) (by kernel_rfl) (by kernel_rfl) (by kernel_rfl) (fun _ _ _ h => h) (Or.inl ⟨by rfl, ?_⟩) (by assumption) ?_
        rotate_left
        · (intro w hSw; (try dsimp only at hSw); go_simp; try with_reducible rfl)
        try simp only [Act.put, List.setIfInBounds_toArray, List.set_cons_zero, List.set_cons_succ]
        refine Till.take 2 (some 48) (v := ?_) rfl rfl (by kernel_rfl) (by kernel_rfl) (by kernel_rfl) (by kernel_rfl) (fun _ _ _ h => h) (Or.inl ⟨by rfl, ?_⟩) (by assumption) ?_
        rotate_left
        · (intro w hSw; (try dsimp only at hSw); go_simp; try with_reducible rfl)
        try simp only [Act.put, List.setIfInBounds_toArray, List.set_cons_zero, List.set_cons_succ]
        refine Till.take 3 (some 49) (v := ?_) rfl rfl (by kernel_rfl) (by kernel_rfl) (by kernel_rfl) (by kernel_rfl) (fun _ _ _ h => h) (Or.inl ⟨by rfl, ?_⟩) (by assumption) ?_
        rotate_left
        · (intro w hSw; (try dsimp only at hSw); go_simp; try with_reducible rfl)
        try simp only [Act.put, List.setIfInBounds_toArray, List.set_cons_zero, List.set_cons_succ]
        refine Till.one 4 rfl (by kernel_rfl) (fun K hK => ?_)
        go_simp
        go_at_call 78
        refine hke.mono ?_
        rintro e w1 ⟨rfl, hb1⟩
        have D1 := D0.trans (hb1.mono D0.size)
        refine hK.out _ _ (fun _ => hsv _ D1) (fun hHeld => ?_)
        clear hK K
        try simp only [Act.put, List.setIfInBounds_toArray, List.set_cons_zero, List.set_cons_succ]
        cases kp
        · have hw1 := hsv _ D1
          dsimp only at hw1
          have hst : refStep b (keepsS b there lots) o hd = o := by unfold refStep keepsS; rw [← HKP.out]; simp
          have HS := Lib.hid hst
          clear hst
          refine Till.take 5 (some 51) (v := ?_) rfl rfl (by kernel_rfl) (by kernel_rfl) (by kernel_rfl) (by kernel_rfl) (fun _ _ _ h => h) (Or.inl ⟨by rfl, ?_⟩) (by assumption) ?_
          rotate_left
          · (intro w hSw; (try dsimp only at hSw); go_simp; try with_reducible rfl)
          try simp only [Act.put, List.setIfInBounds_toArray, List.set_cons_zero, List.set_cons_succ]
          refine Till.take 6 (some 52) (v := undef) rfl rfl (by kernel_rfl) (by kernel_rfl) (by kernel_rfl) (by kernel_rfl) (fun _ _ _ h => h) (Or.inr ⟨by rfl, rfl⟩) (by assumption) ?_
          try simp only [Act.put, List.setIfInBounds_toArray, List.set_cons_zero, List.set_cons_succ]
          refine Till.take 7 (some 53) (v := undef) rfl rfl (by kernel_rfl) (by kernel_rfl) (by kernel_rfl) (by kernel_rfl) (fun _ _ _ h => h) (Or.inr ⟨by rfl, rfl⟩) (by assumption) ?_
          try simp only [Act.put, List.setIfInBounds_toArray, List.set_cons_zero, List.set_cons_succ]
          refine Till.take 8 (some 54) (v := undef) rfl rfl (by kernel_rfl) (by kernel_rfl) (by kernel_rfl) (by kernel_rfl) (fun _ _ _ h => h) (Or.inr ⟨by rfl, rfl⟩) (by assumption) ?_
          try simp only [Act.put, List.setIfInBounds_toArray, List.set_cons_zero, List.set_cons_succ]
          refine Till.take 9 (some 55) (v := undef) rfl rfl (by kernel_rfl) (by kernel_rfl) (by kernel_rfl) (by kernel_rfl) (fun _ _ _ h => h) (Or.inr ⟨by rfl, rfl⟩) (by assumption) ?_
          try simp only [Act.put, List.setIfInBounds_toArray, List.set_cons_zero, List.set_cons_succ]
          refine Till.take 10 (some 56) (v := undef) rfl rfl (by kernel_rfl) (by kernel_rfl) (by kernel_rfl) (by kernel_rfl) (fun _ _ _ h => h) (Or.inr ⟨by rfl, rfl⟩) (by assumption) ?_
          try simp only [Act.put, List.setIfInBounds_toArray, List.set_cons_zero, List.set_cons_succ]
          refine Till.take 11 (some 57) (v := undef) rfl rfl (by kernel_rfl) (by kernel_rfl) (by kernel_rfl) (by kernel_rfl) (fun _ _ _ h => h) (Or.inr ⟨by rfl, rfl⟩) (by assumption) ?_
          try simp only [Act.put, List.setIfInBounds_toArray, List.set_cons_zero, List.set_cons_succ]
          refine Till.take 12 (some 58) (v := undef) rfl rfl (by kernel_rfl) (by kernel_rfl) (by kernel_rfl) (by kernel_rfl) (fun _ _ _ h => h) (Or.inr ⟨by rfl, rfl⟩) (by assumption) ?_
          try simp only [Act.put, List.setIfInBounds_toArray, List.set_cons_zero, List.set_cons_succ]
          refine Till.take 13 (some 59) (v := undef) rfl rfl (by kernel_rfl) (by kernel_rfl) (by kernel_rfl) (by kernel_rfl) (fun _ _ _ h => h) (Or.inr ⟨by rfl, rfl⟩) (by assumption) ?_
          try simp only [Act.put, List.setIfInBounds_toArray, List.set_cons_zero, List.set_cons_succ]
          refine Till.take 14 (some 60) (v := undef) rfl rfl (by kernel_rfl) (by kernel_rfl) (by kernel_rfl) (by kernel_rfl) (fun _ _ _ h => h) (Or.inr ⟨by rfl, rfl⟩) (by assumption) ?_
          try simp only [Act.put, List.setIfInBounds_toArray, List.set_cons_zero, List.set_cons_succ]
          refine Till.take 15 (some 61) (v := undef) rfl rfl (by kernel_rfl) (by kernel_rfl) (by kernel_rfl) (by kernel_rfl) (fun _ _ _ h => h) (Or.inr ⟨by rfl, rfl⟩) (by assumption) ?_
          try simp only [Act.put, List.setIfInBounds_toArray, List.set_cons_zero, List.set_cons_succ]
          refine Till.take 16 (some 62) (v := undef) rfl rfl (by kernel_rfl) (by kernel_rfl) (by kernel_rfl) (by kernel_rfl) (fun _ _ _ h => h) (Or.inr ⟨by rfl, rfl⟩) (by assumption) ?_
          try simp only [Act.put, List.setIfInBounds_toArray, List.set_cons_zero, List.set_cons_succ]
          refine Till.take 17 (some 63) (v := ?_) rfl rfl (by kernel_rfl) (by kernel_rfl) (by kernel_rfl) (by kernel_rfl) (fun _ _ _ h => h) (Or.inl ⟨by rfl, ?_⟩) (by assumption) ?_
          rotate_left
          · (intro w hSw; (try dsimp only at hSw); go_simp; try with_reducible rfl)
          try simp only [Act.put, List.setIfInBounds_toArray, List.set_cons_zero, List.set_cons_succ]
          refine Till.done (by kernel_rfl) ?_ _
          clear hw1 hHeld hsv f0 f1 f2 f3 f4 f5 f6 hke hco
          go_wp2
          go_ret
          exact ⟨_, rfl, by rw [HF.out, HS.out]; exact ho.mono ((ext_of_below hA).trans (ext_of_below D1)), hA.trans (D1.mono hA.size)⟩
        · have hw1 := hsv _ D1
          dsimp only at hw1
          cases o with
          | none =>
            have hst : refStep b (keepsS b there lots) none hd = some hd := by unfold refStep keepsS; rw [← HKP.out]; simp
            have HS := Lib.hid hst
            have ho2 : Value.slice oa on ok = .slice none 0 0 := ho
            simp only [Value.slice.injEq] at ho2
            obtain ⟨rfl, rfl, rfl⟩ := ho2
            clear hst
            refine Till.take 5 (some 51) (v := ?_) rfl rfl (by kernel_rfl) (by kernel_rfl) (by kernel_rfl) (by kernel_rfl) (fun _ _ _ h => h) (Or.inl ⟨by rfl, ?_⟩) (by assumption) ?_
            rotate_left
            · (intro w hSw; (try dsimp only at hSw); go_simp; try with_reducible rfl)
            try simp only [Act.put, List.setIfInBounds_toArray, List.set_cons_zero, List.set_cons_succ]
            refine Till.take 6 (some 52) (v := ?_) rfl rfl (by kernel_rfl) (by kernel_rfl) (by kernel_rfl) (by kernel_rfl) (fun _ _ _ h => h) (Or.inl ⟨by rfl, ?_⟩) (by assumption) ?_
            rotate_left
            · (intro w hSw; (try dsimp only at hSw); go_simp; try with_reducible rfl)
            try simp only [Act.put, List.setIfInBounds_toArray, List.set_cons_zero, List.set_cons_succ]
            refine Till.take 7 (some 53) (v := ?_) rfl rfl (by kernel_rfl) (by kernel_rfl) (by kernel_rfl) (by kernel_rfl) (fun _ _ _ h => h) (Or.inl ⟨by rfl, ?_⟩) (by assumption) ?_
            rotate_left
            · (intro w hSw; (try dsimp only at hSw); go_simp; try with_reducible rfl)
            try simp only [Act.put, List.setIfInBounds_toArray, List.set_cons_zero, List.set_cons_succ]
            refine Till.take 8 (some 54) (v := ?_) rfl rfl (by kernel_rfl) (by kernel_rfl) (by kernel_rfl) (by kernel_rfl) (fun _ _ _ h => h) (Or.inl ⟨by rfl, ?_⟩) (by assumption) ?_
            rotate_left
            · (intro w hSw; (try dsimp only at hSw); go_simp; try with_reducible rfl)
            try simp only [Act.put, List.setIfInBounds_toArray, List.set_cons_zero, List.set_cons_succ]
            refine Till.take 9 (some 55) (v := undef) rfl rfl (by kernel_rfl) (by kernel_rfl) (by kernel_rfl) (by kernel_rfl) (fun _ _ _ h => h) (Or.inr ⟨by rfl, rfl⟩) (by assumption) ?_
            try simp only [Act.put, List.setIfInBounds_toArray, List.set_cons_zero, List.set_cons_succ]
            refine Till.take 10 (some 56) (v := undef) rfl rfl (by kernel_rfl) (by kernel_rfl) (by kernel_rfl) (by kernel_rfl) (fun _ _ _ h => h) (Or.inr ⟨by rfl, rfl⟩) (by assumption) ?_
            try simp only [Act.put, List.setIfInBounds_toArray, List.set_cons_zero, List.set_cons_succ]
            refine Till.take 11 (some 57) (v := undef) rfl rfl (by kernel_rfl) (by kernel_rfl) (by kernel_rfl) (by kernel_rfl) (fun _ _ _ h => h) (Or.inr ⟨by rfl, rfl⟩) (by assumption) ?_
            try simp only [Act.put, List.setIfInBounds_toArray, List.set_cons_zero, List.set_cons_succ]
            refine Till.take 12 (some 58) (v := undef) rfl rfl (by kernel_rfl) (by kernel_rfl) (by kernel_rfl) (by kernel_rfl) (fun _ _ _ h => h) (Or.inr ⟨by rfl, rfl⟩) (by assumption) ?_
            try simp only [Act.put, List.setIfInBounds_toArray, List.set_cons_zero, List.set_cons_succ]
            refine Till.take 13 (some 59) (v := undef) rfl rfl (by kernel_rfl) (by kernel_rfl) (by kernel_rfl) (by kernel_rfl) (fun _ _ _ h => h) (Or.inr ⟨by rfl, rfl⟩) (by assumption) ?_
            try simp only [Act.put, List.setIfInBounds_toArray, List.set_cons_zero, List.set_cons_succ]
            refine Till.take 14 (some 60) (v := undef) rfl rfl (by kernel_rfl) (by kernel_rfl) (by kernel_rfl) (by kernel_rfl) (fun _ _ _ h => h) (Or.inr ⟨by rfl, rfl⟩) (by assumption) ?_
            try simp only [Act.put, List.setIfInBounds_toArray, List.set_cons_zero, List.set_cons_succ]
            refine Till.take 15 (some 61) (v := undef) rfl rfl (by kernel_rfl) (by kernel_rfl) (by kernel_rfl) (by kernel_rfl) (fun _ _ _ h => h) (Or.inr ⟨by rfl, rfl⟩) (by assumption) ?_
            try simp only [Act.put, List.setIfInBounds_toArray, List.set_cons_zero, List.set_cons_succ]
            refine Till.take 16 (some 62) (v := ?_) rfl rfl (by kernel_rfl) (by kernel_rfl) (by kernel_rfl) (by kernel_rfl) (fun _ _ _ h => h) (Or.inl ⟨by rfl, ?_⟩) (by assumption) ?_
            rotate_left
            · (intro w hSw; (try dsimp only at hSw); go_simp; try with_reducible rfl)
            try simp only [Act.put, List.setIfInBounds_toArray, List.set_cons_zero, List.set_cons_succ]
            refine Till.take 17 (some 63) (v := ?_) rfl rfl (by kernel_rfl) (by kernel_rfl) (by kernel_rfl) (by kernel_rfl) (fun _ _ _ h => h) (Or.inl ⟨by rfl, ?_⟩) (by assumption) ?_
            rotate_left
            · (intro w hSw; (try dsimp only at hSw); go_simp; try with_reducible rfl)
            try simp only [Act.put, List.setIfInBounds_toArray, List.set_cons_zero, List.set_cons_succ]
            refine Till.done (by kernel_rfl) ?_ _
            clear hw1 hHeld hsv f0 f1 f2 f3 f4 f5 f6 hke hco
            go_wp2
            go_ret
            refine ⟨_, rfl, ?_, hA.trans (D1.mono hA.size)⟩
            rw [HF.out, HS.out]
            exact ⟨hh.mono ((ext_of_below hA).trans (ext_of_below D1)), HL.out⟩
          | some q =>
            obtain ⟨hq1, hq2⟩ := ho
            obtain ⟨qa, qk, qq, -, -, hqc⟩ := id hq1
            cases qq
            obtain ⟨b9, o9, rfl, -⟩ := hqc 0 (by omega)
            have HQ := Lib.hid hq2
            clear hqc hq2
            refine Till.take 5 (some 51) (v := ?_) rfl rfl (by kernel_rfl) (by kernel_rfl) (by kernel_rfl) (by kernel_rfl) (fun _ _ _ h => h) (Or.inl ⟨by rfl, ?_⟩) (by assumption) ?_
            rotate_left
            · (intro w hSw; (try dsimp only at hSw); go_simp; try with_reducible rfl)
            try simp only [Act.put, List.setIfInBounds_toArray, List.set_cons_zero, List.set_cons_succ]
            refine Till.take 6 (some 52) (v := ?_) rfl rfl (by kernel_rfl) (by kernel_rfl) (by kernel_rfl) (by kernel_rfl) (fun _ _ _ h => h) (Or.inl ⟨by rfl, ?_⟩) (by assumption) ?_
            rotate_left
            · (intro w hSw; (try dsimp only at hSw); go_simp; try with_reducible rfl)
            try simp only [Act.put, List.setIfInBounds_toArray, List.set_cons_zero, List.set_cons_succ]
            refine Till.take 7 (some 53) (v := ?_) rfl rfl (by kernel_rfl) (by kernel_rfl) (by kernel_rfl) (by kernel_rfl) (fun _ _ _ h => h) (Or.inl ⟨by rfl, ?_⟩) (by assumption) ?_
            rotate_left
            · (intro w hSw; (try dsimp only at hSw); go_simp; try with_reducible rfl)
            try simp only [Act.put, List.setIfInBounds_toArray, List.set_cons_zero, List.set_cons_succ]
            refine Till.take 8 (some 54) (v := ?_) rfl rfl (by kernel_rfl) (by kernel_rfl) (by kernel_rfl) (by kernel_rfl) (fun _ _ _ h => h) (Or.inl ⟨by rfl, ?_⟩) (by assumption) ?_
            rotate_left
            · (intro w hSw; (try dsimp only at hSw); go_simp; try with_reducible rfl)
            try simp only [Act.put, List.setIfInBounds_toArray, List.set_cons_zero, List.set_cons_succ]
            refine Till.take 9 (some 55) (v := ?_) rfl rfl (by kernel_rfl) (by kernel_rfl) (by kernel_rfl) (by kernel_rfl) (fun _ _ _ h => h) (Or.inl ⟨by rfl, ?_⟩) (by assumption) ?_
            rotate_left
            · (intro w hSw; (try dsimp only at hSw); go_simp; try with_reducible rfl)
            try simp only [Act.put, List.setIfInBounds_toArray, List.set_cons_zero, List.set_cons_succ]
            refine Till.take 10 (some 56) (v := ?_) rfl rfl (by kernel_rfl) (by kernel_rfl) (by kernel_rfl) (by kernel_rfl) (fun _ _ _ h => h) (Or.inl ⟨by rfl, ?_⟩) (by assumption) ?_
            rotate_left
            · (intro w hSw; (try dsimp only at hSw); go_simp; try with_reducible rfl)
            try simp only [Act.put, List.setIfInBounds_toArray, List.set_cons_zero, List.set_cons_succ]
            refine Till.take 12 (some 58) (v := ?_) rfl rfl (by kernel_rfl) (by kernel_rfl) (by kernel_rfl) (by kernel_rfl) (fun _ _ _ h => h) (Or.inl ⟨by rfl, ?_⟩) (by assumption) ?_
            rotate_left
            · (intro w hSw; (try dsimp only at hSw); go_simp; try with_reducible rfl)
            try simp only [Act.put, List.setIfInBounds_toArray, List.set_cons_zero, List.set_cons_succ]
            refine Till.take 13 (some 59) (v := ?_) rfl rfl (by kernel_rfl) (by kernel_rfl) (by kernel_rfl) (by kernel_rfl) (fun _ _ _ h => h) (Or.inl ⟨by rfl, ?_⟩) (by assumption) ?_
            rotate_left
            · (intro w hSw; (try dsimp only at hSw); go_simp; try with_reducible rfl)
            try simp only [Act.put, List.setIfInBounds_toArray, List.set_cons_zero, List.set_cons_succ]
            refine Till.one 11 rfl (by kernel_rfl) (fun K hK => ?_)
            go_simp
            go_at_call 81
            refine (hco hd _ _ D1 (hh.mono ((ext_of_below hA).trans (ext_of_below D1))) HL.out).mono ?_
            rintro e w2 ⟨rfl, hb2⟩
            have D2 := D1.trans (hb2.mono D1.size)
            refine hK.out _ _ (fun _ => hsv _ D2) (fun hHeld => ?_)
            clear hK K
            try simp only [Act.put, List.setIfInBounds_toArray, List.set_cons_zero, List.set_cons_succ]
            refine Till.one 14 rfl (by kernel_rfl) (fun K hK => ?_)
            go_simp
            go_at_call 81
            refine (hco q _ _ D2 (hq1.mono ((ext_of_below hA).trans (ext_of_below D2))) HQ.out).mono ?_
            rintro e w3 ⟨rfl, hb3⟩
            have D3 := D2.trans (hb3.mono D2.size)
            refine hK.out _ _ (fun _ => hsv _ D3) (fun hHeld => ?_)
            clear hK K
            try simp only [Act.put, List.setIfInBounds_toArray, List.set_cons_zero, List.set_cons_succ]
            have hw3 := hsv _ D3
            dsimp only at hw3
            have hst : refStep b (keepsS b there lots) (some q) hd = if dotB (b.mats.map Mat.price) hd < dotB (b.mats.map Mat.price) q then some hd else some q := by
              unfold refStep keepsS; rw [← HKP.out]; simp
            have HS := Lib.hid hst
            clear hst
            refine Till.take 15 (some 61) (v := ?_) rfl rfl (by kernel_rfl) (by kernel_rfl) (by kernel_rfl) (by kernel_rfl) (fun _ _ _ h => h) (Or.inl ⟨by rfl, ?_⟩) (by assumption) ?_
            rotate_left
            · (intro w hSw; (try dsimp only at hSw); go_simp; try with_reducible rfl)
            try simp only [Act.put, List.setIfInBounds_toArray, List.set_cons_zero, List.set_cons_succ]
            refine Till.take 16 (some 62) (v := ?_) rfl rfl (by kernel_rfl) (by kernel_rfl) (by kernel_rfl) (by kernel_rfl) (fun _ _ _ h => h) (Or.inl ⟨by rfl, ?_⟩) (by assumption) ?_
            rotate_left
            · (intro w hSw; (try dsimp only at hSw); go_simp; try with_reducible rfl)
            try simp only [Act.put, List.setIfInBounds_toArray, List.set_cons_zero, List.set_cons_succ]
            refine Till.take 17 (some 63) (v := ?_) rfl rfl (by kernel_rfl) (by kernel_rfl) (by kernel_rfl) (by kernel_rfl) (fun _ _ _ h => h) (Or.inl ⟨by rfl, ?_⟩) (by assumption) ?_
            rotate_left
            · (intro w hSw; (try dsimp only at hSw); go_simp; try with_reducible rfl)
            try simp only [Act.put, List.setIfInBounds_toArray, List.set_cons_zero, List.set_cons_succ]
            refine Till.done (by kernel_rfl) ?_ _
            clear hw1 hw3 hHeld hsv f0 f1 f2 f3 f4 f5 f6 hke hco
            by_cases hlt : dotB (b.mats.map Mat.price) hd < dotB (b.mats.map Mat.price) q
            · have dd : decide (dotB (b.mats.map Mat.price) hd < dotB (b.mats.map Mat.price) q) = true := decide_eq_true hlt
              go_wp2
              go_ret
              refine ⟨_, rfl, ?_, hA.trans (D3.mono hA.size)⟩
              rw [HF.out, HS.out, if_pos hlt]
              exact ⟨hh.mono ((ext_of_below hA).trans (ext_of_below D3)), HL.out⟩
            · have dd : decide (dotB (b.mats.map Mat.price) hd < dotB (b.mats.map Mat.price) q) = false := decide_eq_false hlt
              go_wp2
              go_ret
              refine ⟨_, rfl, ?_, hA.trans (D3.mono hA.size)⟩
              rw [HF.out, HS.out, if_neg (by omega)]
              exact ⟨hq1.mono ((ext_of_below hA).trans (ext_of_below D3)), HQ.out⟩
  | succ j ih =>
    intro hd o vb vl vt vh vo w h hln ht hh ho hl h64
    obtain ⟨v0, v1, v2, v3, rfl, h0, h1, h2, h3, i1, i2, i3⟩ := id h
    obtain ⟨a0, k0, rfl, -, ⟨-, l0⟩, -⟩ := h0
    obtain ⟨a1, k1, rfl, -, ⟨-, l1⟩, hml⟩ := id h1
    obtain ⟨a2, k2, rfl, -, ⟨-, l2⟩, -⟩ := h2
    obtain ⟨a3, k3, rfl, -, ⟨-, l3⟩, -⟩ := h3
    clear h1
    obtain ⟨pl, jl, rfl, -⟩ := id hln
    obtain ⟨ph, jh, rfl, -⟩ := id hh
    obtain ⟨pt, jt, rfl, -⟩ := id ht
    obtain ⟨oa, on, ok, rfl⟩ := ho.slice
    have hmt := hk.mt
    have hlt : hd.length < b.mats.length := by omega
    have hnode := ref_node b (keepsS b there lots) hd o hlt
    have hmo := hk.mats _ (List.getElem_mem hlt)
    have hvm := fun q => vals_more (stOk_of hk _ (List.getElem_mem hlt)) q
    have hva := fun (q : Nat) (hq : q < (valsM (b.mats[hd.length])).length) => vals_at (b.mats[hd.length]) q hq
    obtain ⟨b7, o7, rfl, c, ⟨g0, g1, g2, g3, g4, g5, g6⟩, hcs, hrs⟩ := hml hd.length hlt
    obtain ⟨ac, kc, rfl, -, -, -⟩ := id hcs
    have HF := Lib.hid hnode
    have d1 : ((hd.length : Int) == (b.mats.length : Int)) = false := by simp; omega
    have d2 : (hd.length : Int) < (b.mats.length : Int) := by omega
    have HL := Lib.hid hl
    simp only at g0 g1 g2 g3 g4 g5 g6
    clear hml hnode hl hrs
    generalize b.mats[hd.length]'hlt = m at *
    have hA := below_box w (.cells #[.slice a0 b.oxides.length k0, .slice (some ⟨b7, o7, none⟩) b.mats.length k1, .slice a2 b.shares.length k2, .slice a3 b.props.length k3, .int .i64 b.redox.lo, .int .i64 b.redox.hi, .int .i64 b.wanted] 29)
    have hB := Blk.new w #[.slice a0 b.oxides.length k0, .slice (some ⟨b7, o7, none⟩) b.mats.length k1, .slice a2 b.shares.length k2, .slice a3 b.props.length k3, .int .i64 b.redox.lo, .int .i64 b.redox.hi, .int .i64 b.wanted] 29
    have eA := ext_of_below hA
    replace g0 := eA _ _ g0
    replace g1 := eA _ _ g1
    replace g2 := eA _ _ g2
    replace g3 := eA _ _ g3
    replace g4 := eA _ _ g4
    replace g5 := eA _ _ g5
    replace g6 := eA _ _ g6
    have hle := hmo.least
    have hmx := hmo.most
    have hsp := hmo.step
    clear eA
    go_enter Try.func86, Try.ntmps86
    have f0 := hB.cell 0 _ rfl
    have f1 := hB.cell 1 _ rfl
    have f2 := hB.cell 2 _ rfl
    have f3 := hB.cell 3 _ rfl
    have f4 := hB.cell 4 _ rfl
    have f5 := hB.cell 5 _ rfl
    have f6 := hB.cell 6 _ rfl
    go_wp2_with fail
    have hzW := World.size_alloc w (.cells #[.slice a0 b.oxides.length k0, .slice (some ⟨b7, o7, none⟩) b.mats.length k1, .slice a2 b.shares.length k2, .slice a3 b.props.length k3, .int .i64 b.redox.lo, .int .i64 b.redox.hi, .int .i64 b.wanted] 29)
    generalize w.alloc (.cells #[.slice a0 b.oxides.length k0, .slice (some ⟨b7, o7, none⟩) b.mats.length k1, .slice a2 b.shares.length k2, .slice a3 b.props.length k3, .int .i64 b.redox.lo, .int .i64 b.redox.hi, .int .i64 b.wanted] 29) = W at *
    have hM := below_box W (.cells #[.string m.name, .int .i64 m.price, .int .i64 m.redox, .int .i64 m.least, .int .i64 m.most, .int .i64 m.step, .slice ac m.content.length kc] 68)
    have BM := Blk.new W #[.string m.name, .int .i64 m.price, .int .i64 m.redox, .int .i64 m.least, .int .i64 m.most, .int .i64 m.step, .slice ac m.content.length kc] 68
    rw [hzW] at BM
    clear hzW
    have hBW := hB.alloc (.cells #[.string m.name, .int .i64 m.price, .int .i64 m.redox, .int .i64 m.least, .int .i64 m.most, .int .i64 m.step, .slice ac m.content.length kc] 68)
    have hAM := hA.trans (hM.mono hA.size)
    generalize W.alloc (.cells #[.string m.name, .int .i64 m.price, .int .i64 m.redox, .int .i64 m.least, .int .i64 m.most, .int .i64 m.step, .slice ac m.content.length kc] 68) = W1 at *
    clear f0 f1 f2 f3 f4 f5 f6 g0 g1 g2 g3 g4 g5 g6
    have x3 := BM.cell 3 _ rfl
    have x4 := BM.cell 4 _ rfl
    have x5 := BM.cell 5 _ rfl
    obtain ⟨i0, gi, gz0, gz1, gz2⟩ := info_parts info_int
    obtain ⟨i0, gi, gz0, gz1, gz2⟩ := info_parts info_int
    obtain ⟨i0, gi, gz0, gz1, gz2⟩ := info_parts info_int
    have HVM := Lib.hid hvm
    have HVA := Lib.hid hva
    clear hvm hva x3 x4 x5
    go_loopw [5, 16] (fun bv kv wr => ∃ i : Nat, i ≤ (valsM m).length ∧ kv = .int .i64 (m.least + (i : Int) * m.step) ∧ (∃ a l k, bv = .slice a l k) ∧ ROpt b.mats.length wr bv (((valsM m).take i).foldl (fun o x => refOver b (keepsS b there lots) (hd ++ [x]) o) o) ∧ Below W1.heap.size W1 wr) (fun _ kv _ => (m.most + 1 - intOf kv).toNat)
    case atStart => exact ⟨0, Nat.zero_le _, by simp, ⟨_, _, _, rfl⟩, ho.mono (ext_of_below hAM), Below.refl _ _⟩
    case round =>
      obtain ⟨i, hi, rfl, ⟨ca, cl, ck, rfl⟩, hor, hbr⟩ := hrel
      have hAr := hAM.trans (hbr.mono hAM.size)
      have BMr := BM.below hbr BM.lt
      have BBr := hBW.below hbr hBW.lt
      have x4 := BMr.cell 4 _ rfl
      have x5 := BMr.cell 5 _ rfl
      by_cases hiv : i < (valsM m).length
      · have hle2 := (HVM.out i).2 hiv
        have hnn : 0 ≤ (i : Int) * m.step := Int.mul_nonneg (by omega) (by omega)
        have hnx : m.least + ((i + 1 : Nat) : Int) * m.step = m.least + (i : Int) * m.step + m.step := by rw [Int.natCast_succ, Int.add_mul]; omega
        have htk : ((valsM m).take (i + 1)).foldl (fun o x => refOver b (keepsS b there lots) (hd ++ [x]) o) o = refOver b (keepsS b there lots) (hd ++ [m.least + (i : Int) * m.step]) (((valsM m).take i).foldl (fun o x => refOver b (keepsS b there lots) (hd ++ [x]) o) o) := by
          rw [List.take_succ_eq_append_getElem hiv, List.foldl_append, HVA.out i hiv]
          rfl
        have HNX := Lib.hid hnx
        have HTK := Lib.hid htk
        clear hnx htk
        generalize hkq : m.least + (i : Int) * m.step = kq at *
        have HKQ := Lib.hid hkq
        have hk0 : 0 ≤ kq := by omega
        have hk1 : kq ≤ 10000 := by omega
        clear hkq
        generalize hoq : ((valsM m).take i).foldl (fun o x => refOver b (keepsS b there lots) (hd ++ [x]) o) o = oq at *
        have HOQ := Lib.hid hoq
        clear hoq
        go_wp2
        have f0 := BBr.cell 0 _ rfl
        have f1 := BBr.cell 1 _ rfl
        have f2 := BBr.cell 2 _ rfl
        have f3 := BBr.cell 3 _ rfl
        have f4 := BBr.cell 4 _ rfl
        have f5 := BBr.cell 5 _ rfl
        have f6 := BBr.cell 6 _ rfl
        have D0 : Below wr.heap.size wr wr.drew := (Below.refl _ _).drew
        have hsv : ∀ V, Below wr.heap.size wr V → (fun w' : World => w'.cell? ⟨w.heap.size, 0, none⟩ = some (.slice a0 b.oxides.length k0) ∧ w'.cell? ⟨w.heap.size, 1, none⟩ = some (.slice (some ⟨b7, o7, none⟩) b.mats.length k1) ∧ w'.cell? ⟨w.heap.size, 2, none⟩ = some (.slice a2 b.shares.length k2) ∧ w'.cell? ⟨w.heap.size, 3, none⟩ = some (.slice a3 b.props.length k3) ∧ w'.cell? ⟨w.heap.size, 4, none⟩ = some (.int .i64 b.redox.lo) ∧ w'.cell? ⟨w.heap.size, 5, none⟩ = some (.int .i64 b.redox.hi) ∧ w'.cell? ⟨w.heap.size, 6, none⟩ = some (.int .i64 b.wanted)) V := fun V e => ⟨keepC e f0, keepC e f1, keepC e f2, keepC e f3, keepC e f4, keepC e f5, keepC e f6⟩
        have eAr := ext_of_below hAr
        have hlh : hd.length ≤ 12 := by omega
        refine wp_region_till (fun w' => w'.cell? ⟨w.heap.size, 0, none⟩ = some (.slice a0 b.oxides.length k0) ∧ w'.cell? ⟨w.heap.size, 1, none⟩ = some (.slice (some ⟨b7, o7, none⟩) b.mats.length k1) ∧ w'.cell? ⟨w.heap.size, 2, none⟩ = some (.slice a2 b.shares.length k2) ∧ w'.cell? ⟨w.heap.size, 3, none⟩ = some (.slice a3 b.props.length k3) ∧ w'.cell? ⟨w.heap.size, 4, none⟩ = some (.int .i64 b.redox.lo) ∧ w'.cell? ⟨w.heap.size, 5, none⟩ = some (.int .i64 b.redox.hi) ∧ w'.cell? ⟨w.heap.size, 6, none⟩ = some (.int .i64 b.wanted)) 99 (by kernel_rfl) (hsv _ D0) (fun hHeld => ?_)
        refine Till.take 0 (some 82) (v := ?_) rfl rfl (by kernel_rfl) (by kernel_rfl) (by kernel_rfl) (by kernel_rfl) (fun _ _ _ h => h) (Or.inl ⟨by rfl, ?_⟩) (by assumption) ?_
        rotate_left
        · (intro w hSw; (try dsimp only at hSw); go_simp; try with_reducible rfl)
        try simp only [Act.put, List.setIfInBounds_toArray, List.set_cons_zero, List.set_cons_succ]
        refine Till.take 1 (some 83) (v := ?_) rfl rfl (by kernel_rfl) (by kernel_rfl) (by kernel_rfl) (by kernel_rfl) (fun _ _ _ h => h) (Or.inl ⟨by rfl, ?_⟩) (by assumption) ?_
        rotate_left
        · (intro w hSw; (try dsimp only at hSw); go_simp; try with_reducible rfl)
        try simp only [Act.put, List.setIfInBounds_toArray, List.set_cons_zero, List.set_cons_succ]
        refine Till.take 2 (some 84) (v := ?_) rfl rfl (by kernel_rfl) (by kernel_rfl) (by kernel_rfl) (by kernel_rfl) (fun _ _ _ h => h) (Or.inl ⟨by rfl, ?_⟩) (by assumption) ?_
        rotate_left
        · (intro w hSw; (try dsimp only at hSw); go_simp; try with_reducible rfl)
        try simp only [Act.put, List.setIfInBounds_toArray, List.set_cons_zero, List.set_cons_succ]
        refine Till.take 3 (some 85) (v := ?_) rfl rfl (by kernel_rfl) (by kernel_rfl) (by kernel_rfl) (by kernel_rfl) (fun _ _ _ h => h) (Or.inl ⟨by rfl, ?_⟩) (by assumption) ?_
        rotate_left
        · (intro w hSw; (try dsimp only at hSw); go_simp; try with_reducible rfl)
        try simp only [Act.put, List.setIfInBounds_toArray, List.set_cons_zero, List.set_cons_succ]
        refine Till.take 4 (some 86) (v := ?_) rfl rfl (by kernel_rfl) (by kernel_rfl) (by kernel_rfl) (by kernel_rfl) (fun _ _ _ h => h) (Or.inl ⟨by rfl, ?_⟩) (by assumption) ?_
        rotate_left
        · (intro w hSw; (try dsimp only at hSw); go_simp; try with_reducible rfl)
        try simp only [Act.put, List.setIfInBounds_toArray, List.set_cons_zero, List.set_cons_succ]
        refine Till.take 6 (some 88) (v := ?_) rfl rfl (by kernel_rfl) (by kernel_rfl) (by kernel_rfl) (by kernel_rfl) (fun _ _ _ h => h) (Or.inl ⟨by rfl, ?_⟩) (by assumption) ?_
        rotate_left
        · (intro w hSw; (try dsimp only at hSw); go_simp; try with_reducible rfl)
        try simp only [Act.put, List.setIfInBounds_toArray, List.set_cons_zero, List.set_cons_succ]
        refine Till.take 9 (some 91) (v := ?_) rfl rfl (by kernel_rfl) (by kernel_rfl) (by kernel_rfl) (by kernel_rfl) (fun _ _ _ h => h) (Or.inl ⟨by rfl, ?_⟩) (by assumption) ?_
        rotate_left
        · (intro w hSw; (try dsimp only at hSw); go_simp; try with_reducible rfl)
        try simp only [Act.put, List.setIfInBounds_toArray, List.set_cons_zero, List.set_cons_succ]
        have h64b : ∀ y ∈ hd ++ [kq], I64 y := fun y hy => by
          rcases List.mem_append.1 hy with hy | hy
          · exact h64 y hy
          · obtain rfl : y = kq := by simpa using hy
            unfold I64; omega
        refine Till.two 5 7 rfl rfl (by kernel_rfl) (fun K hK => ?_) (fun K hK => ?_)
        · refine step_nil_ints rfl _ _ rfl rfl _ hd rfl (hh.mono (eAr.trans (ext_of_below D0))) (by omega) (fun va wa hoa hba => ?_)
          have D1 := D0.trans (hba.mono D0.size)
          obtain ⟨pa, qa, rfl⟩ := own_slice hoa
          refine hK.out _ _ (fun _ => hsv _ D1) (fun hHeld => ?_)
          clear hK K
          try simp only [Act.put, List.setIfInBounds_toArray]
          refine Till.one 7 rfl (by kernel_rfl) (fun K hK => ?_)
          go_simp
          have BK := Blk.new wa #[.int .i64 kq] 3
          have D2 := D1.alloc D1.size (.cells #[.int .i64 kq] 3)
          have hoa2 : (wa.alloc (.cells #[.int .i64 kq] 3)).ownsRow wr.heap.size 3 1 (.slice pa hd.length qa) hd.length (hd.map (Value.int .i64)) := hoa.alloc (.cells #[.int .i64 kq] 3)
          refine hK.out _ _ (fun _ => hsv _ D2) (fun hHeld => ?_)
          clear hK K
          try simp only [Act.put, List.setIfInBounds_toArray]
          refine Till.one 8 rfl (by kernel_rfl) (fun K hK => ?_)
          refine step_append_lies _ rfl _ _ 37 rfl wr.heap.size 3 i0 (.int .i64 0) 1 8 Try.underlying37 gi gz0 gz1 gz2 rfl (by decide) _ hd.length (hd.map (Value.int .i64)) rfl hoa2 ⟨wa.heap.size, 0, none⟩ 1 1 [.int .i64 kq] rfl rfl (World.news_of_block BK) (by simp [Value.oneCell']) (by decide) (by unfold maxLen; omega) (by omega) D2.size _ rfl (fun g cap wb hob hgb hgg hgl => ?_)
          have D3 : Below wr.heap.size wr wb := D2.grown hgb D2.size (fun k e => (hoa2.lt k e).1)
          have hrb : RInts wb (.slice (some ⟨g, 0, none⟩) (hd.length + 1) cap) (hd ++ [kq]) := by
            have := own_RInts (l := hd ++ [kq]) (base := wr.heap.size) (e := 3) (v := .slice (some ⟨g, 0, none⟩) (hd.length + 1) cap) (w := wb) (by rw [List.length_append, List.length_singleton, List.map_append]; exact hob) (by rw [List.length_append, List.length_singleton]; omega) h64b
            exact this
          refine hK.out _ _ (fun _ => hsv _ D3) (fun hHeld => ?_)
          clear hK K
          try simp only [Act.put, List.setIfInBounds_toArray]
          refine Till.one 10 rfl (by kernel_rfl) (fun K hK => ?_)
          go_simp
          go_at_call 86
          have E3 := eAr.trans (ext_of_below D3)
          refine (ih (hd ++ [kq]) oq _ _ _ _ _ wb (h.mono E3) (hln.mono E3) (ht.mono E3) hrb (hor.mono (ext_of_below D3)) (by have := HL.out; rw [List.length_append, List.length_singleton]; omega) h64b).mono ?_
          rintro e wf ⟨vf, rfl, hrf, hbf⟩
          obtain ⟨fa, fl, fk, rfl⟩ := hrf.slice
          have D4 := D3.trans (hbf.mono D3.size)
          refine hK.out _ _ (fun _ => hsv _ D4) (fun hHeld => ?_)
          clear hK K
          try simp only [Act.put, List.setIfInBounds_toArray, List.set_cons_zero, List.set_cons_succ]
          have hw4 := hsv _ D4
          dsimp only at hw4
          refine Till.take 11 (some 5) (v := ?_) rfl rfl (by kernel_rfl) (by kernel_rfl) (by kernel_rfl) (by kernel_rfl) (fun _ _ _ h => h) (Or.inl ⟨by rfl, ?_⟩) (by assumption) ?_
          rotate_left
          · (intro w hSw; (try dsimp only at hSw); go_simp; try with_reducible rfl)
          try simp only [Act.put, List.setIfInBounds_toArray, List.set_cons_zero, List.set_cons_succ]
          refine Till.done (by kernel_rfl) ?_ _
          clear hw4 hHeld hsv f0 f1 f2 f3 f4 f5 f6 x4 x5
          have x5 := (BMr.below D4 BMr.lt).cell 5 _ rfl
          have hbN := hbr.trans (D4.mono hbr.size)
          have hrN : ROpt b.mats.length wf (.slice fa fl fk) (((valsM m).take (i + 1)).foldl (fun o x => refOver b (keepsS b there lots) (hd ++ [x]) o) o) := by rw [HTK.out]; exact hrf
          clear hrf D4 hoa hba hor BMr BBr hAr
          go_wp2
          go_roundw
          case rel => exact ⟨i + 1, by omega, by rw [HNX.out], ⟨_, _, _, rfl⟩, hrN, hbN⟩
          case measure => simp [intOf]; omega
        · go_simp
          have BK0 := Blk.new wr.drew #[.int .i64 kq] 3
          have D1 := D0.alloc D0.size (.cells #[.int .i64 kq] 3)
          refine hK.out _ _ (fun _ => hsv _ D1) (fun hHeld => ?_)
          clear hK K
          try simp only [Act.put, List.setIfInBounds_toArray]
          refine Till.one 5 rfl (by kernel_rfl) (fun K hK => ?_)
          refine step_nil_ints rfl _ _ rfl rfl _ hd rfl (hh.mono (eAr.trans (ext_of_below D1))) (by omega) (fun va wa hoa hba => ?_)
          have D2 := D1.trans (hba.mono D1.size)
          have hoa2 := own_base hoa D1.size
          have BK := BK0.below hba BK0.lt
          obtain ⟨pa, qa, rfl⟩ := own_slice hoa2
          refine hK.out _ _ (fun _ => hsv _ D2) (fun hHeld => ?_)
          clear hK K
          try simp only [Act.put, List.setIfInBounds_toArray]
          refine Till.one 8 rfl (by kernel_rfl) (fun K hK => ?_)
          refine step_append_lies _ rfl _ _ 37 rfl wr.heap.size 3 i0 (.int .i64 0) 1 8 Try.underlying37 gi gz0 gz1 gz2 rfl (by decide) _ hd.length (hd.map (Value.int .i64)) rfl hoa2 ⟨wr.drew.heap.size, 0, none⟩ 1 1 [.int .i64 kq] rfl rfl (World.news_of_block BK) (by simp [Value.oneCell']) (by decide) (by unfold maxLen; omega) (by omega) D2.size _ rfl (fun g cap wb hob hgb hgg hgl => ?_)
          have D3 : Below wr.heap.size wr wb := D2.grown hgb D2.size (fun k e => (hoa2.lt k e).1)
          have hrb : RInts wb (.slice (some ⟨g, 0, none⟩) (hd.length + 1) cap) (hd ++ [kq]) := by
            have := own_RInts (l := hd ++ [kq]) (base := wr.heap.size) (e := 3) (v := .slice (some ⟨g, 0, none⟩) (hd.length + 1) cap) (w := wb) (by rw [List.length_append, List.length_singleton, List.map_append]; exact hob) (by rw [List.length_append, List.length_singleton]; omega) h64b
            exact this
          refine hK.out _ _ (fun _ => hsv _ D3) (fun hHeld => ?_)
          clear hK K
          try simp only [Act.put]
          refine Till.one 10 rfl (by kernel_rfl) (fun K hK => ?_)
          go_simp
          go_at_call 86
          have E3 := eAr.trans (ext_of_below D3)
          refine (ih (hd ++ [kq]) oq _ _ _ _ _ wb (h.mono E3) (hln.mono E3) (ht.mono E3) hrb (hor.mono (ext_of_below D3)) (by have := HL.out; rw [List.length_append, List.length_singleton]; omega) h64b).mono ?_
          rintro e wf ⟨vf, rfl, hrf, hbf⟩
          obtain ⟨fa, fl, fk, rfl⟩ := hrf.slice
          have D4 := D3.trans (hbf.mono D3.size)
          refine hK.out _ _ (fun _ => hsv _ D4) (fun hHeld => ?_)
          clear hK K
          try simp only [Act.put, List.setIfInBounds_toArray, List.set_cons_zero, List.set_cons_succ]
          have hw4 := hsv _ D4
          dsimp only at hw4
          refine Till.take 11 (some 5) (v := ?_) rfl rfl (by kernel_rfl) (by kernel_rfl) (by kernel_rfl) (by kernel_rfl) (fun _ _ _ h => h) (Or.inl ⟨by rfl, ?_⟩) (by assumption) ?_
          rotate_left
          · (intro w hSw; (try dsimp only at hSw); go_simp; try with_reducible rfl)
          try simp only [Act.put, List.setIfInBounds_toArray, List.set_cons_zero, List.set_cons_succ]
          refine Till.done (by kernel_rfl) ?_ _
          clear hw4 hHeld hsv f0 f1 f2 f3 f4 f5 f6 x4 x5
          have x5 := (BMr.below D4 BMr.lt).cell 5 _ rfl
          have hbN := hbr.trans (D4.mono hbr.size)
          have hrN : ROpt b.mats.length wf (.slice fa fl fk) (((valsM m).take (i + 1)).foldl (fun o x => refOver b (keepsS b there lots) (hd ++ [x]) o) o) := by rw [HTK.out]; exact hrf
          clear hrf D4 hoa hba hor BMr BBr hAr
          go_wp2
          go_roundw
          case rel => exact ⟨i + 1, by omega, by rw [HNX.out], ⟨_, _, _, rfl⟩, hrN, hbN⟩
          case measure => simp [intOf]; omega
      · have hd3 : decide (m.least + (i : Int) * m.step ≤ m.most) = false := decide_eq_false (fun h => hiv ((HVM.out i).1 h))
        have hfin : (((valsM m).take i).foldl (fun o x => refOver b (keepsS b there lots) (hd ++ [x]) o) o) = refOver b (keepsS b there lots) hd o := by rw [HF.out, List.take_of_length_le (by omega)]
        have HFN := Lib.hid hfin
        clear hfin
        generalize m.least + (i : Int) * m.step = kq at *
        go_wp2
        go_ret
        exact ⟨_, rfl, by rw [← HFN.out]; exact hor, hAr⟩

end Go.Proofs.Ytpkggjfaefkiiaa
