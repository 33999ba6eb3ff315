/- the line that a proof makes, by its contract; no statement is proved here. -/
import Derived.Test.YtpkggjfaefkiiaaProv1
import Derived.Deep.OwnRows
namespace Go.Proofs.Ytpkggjfaefkiiaa
open Go.RowKit Go.PlainAid
set_option linter.unusedVariables false

theorem ext_vis_set {S T : Nat → Prop} {w : World} {a : Addr} {v : Value} (hT : ∀ b, S b → T b) (ha : ¬ S a.block) : Ext (vis S w) (vis T (w.setCell a v)) := ext_vis fun p x h1 h2 => by
  refine ⟨hT _ h1, ?_⟩
  have hne : p.block ≠ a.block := fun e => ha (e ▸ h1)
  unfold World.cell? at h2 ⊢
  rw [Below.heap_setCell _ _ _ _ hne]
  exact h2

/-- the parts of a prover, as a value. -/
structure VPr (w : World) (v : Value) (L : List Ln) (P ls ms : List Int) : Prop where
  ex : ∃ pl jl pp jp pa ja pm jm, v = .agg #[.slice pl L.length jl, .slice pp P.length jp, .slice pa ls.length ja, .slice pm ms.length jm] ∧ RLns w (.slice pl L.length jl) L ∧ RInts w (.slice pp P.length jp) P ∧ RInts w (.slice pa ls.length ja) ls ∧ RInts w (.slice pm ms.length jm) ms
theorem VPr.mono {w w' : World} (e : Ext w w') {v : Value} {L : List Ln} {P ls ms : List Int} (h : VPr w v L P ls ms) : VPr w' v L P ls ms := by
  obtain ⟨pl, jl, pp, jp, pa, ja, pm, jm, h0, h1, h2, h3, h4⟩ := h.ex
  exact ⟨⟨pl, jl, pp, jp, pa, ja, pm, jm, h0, h1.mono e, h2.mono e, h3.mono e, h4.mono e⟩⟩
theorem VLn.mono2 {w w' : World} (e : Ext w w') {v : Value} {l : Ln} (h : VLn w v l) : VLn w' v l := by
  obtain ⟨c, h1, h2, h3⟩ := h
  exact ⟨c, h1, h2.mono e, h3⟩
theorem fs_I64 (P : List Int) (L : List Ln) (s : Int) (ws : List Int) (k : Nat) : (∀ x ∈ (sumT P L s ws k).fs, I64 x) ∧ I64 (sumT P L s ws k).bound := by
  cases k with
  | zero => exact ⟨fun x hx => by simp only [sumT, plusE, zipE] at hx; obtain ⟨q, hq, rfl⟩ := List.mem_map.1 hx; exact wrap_I64 _, wrap_I64 _⟩
  | succ k => exact ⟨fun x hx => by simp only [sumT, plusE, zipE] at hx; obtain ⟨q, hq, rfl⟩ := List.mem_map.1 hx; exact wrap_I64 _, wrap_I64 _⟩
theorem fs_len (P : List Int) (L : List Ln) (s : Int) (ws : List Int) : ∀ k, (sumT P L s ws k).fs.length = P.length := by
  intro k
  induction k with
  | zero => simp [sumT, plusE, zip_len]
  | succ k ih => simp only [sumT, plusE, zip_len]; exact ih


/-- what is held: two cells, and that nothing older has changed. -/
def Two (W : World) (a1 : Addr) (x1 : Value) (a2 : Addr) (x2 : Value) (w' : World) : Prop := w'.cell? a1 = some x1 ∧ w'.cell? a2 = some x2 ∧ Below W.heap.size W w'
theorem two_call {w1 w2 W : World} {a1 a2 : Addr} {x1 x2 : Value} (hb : Below w1.heap.size w1 w2) (h : w1.cell? a1 = some x1 ∧ w1.cell? a2 = some x2 ∧ Below W.heap.size W w1) : w2.cell? a1 = some x1 ∧ w2.cell? a2 = some x2 ∧ Below W.heap.size W w2 :=
  ⟨ext_of_below hb _ _ h.1, ext_of_below hb _ _ h.2.1, h.2.2.trans (hb.mono h.2.2.size)⟩
theorem two_alloc {w1 W : World} {a1 a2 : Addr} {x1 x2 : Value} {o : Obj} (h : w1.cell? a1 = some x1 ∧ w1.cell? a2 = some x2 ∧ Below W.heap.size W w1) : (w1.alloc o).cell? a1 = some x1 ∧ (w1.alloc o).cell? a2 = some x2 ∧ Below W.heap.size W (w1.alloc o) := two_call (below_box w1 o) h
theorem two_allocd {w1 W : World} {a1 a2 : Addr} {x1 x2 : Value} {o : Obj} (h : w1.drew.cell? a1 = some x1 ∧ w1.drew.cell? a2 = some x2 ∧ Below W.heap.size W w1.drew) : (w1.alloc o).drew.cell? a1 = some x1 ∧ (w1.alloc o).drew.cell? a2 = some x2 ∧ Below W.heap.size W (w1.alloc o).drew := two_call (w2 := (w1.alloc o).drew) (below_box w1.drew o) h
theorem two_set {w1 W : World} {a1 a2 a : Addr} {x1 x2 y : Value} (ha : W.heap.size ≤ a.block) (hl1 : a1.block < W.heap.size) (hl2 : a2.block < W.heap.size) (h : w1.cell? a1 = some x1 ∧ w1.cell? a2 = some x2 ∧ Below W.heap.size W w1) : (w1.setCell a y).cell? a1 = some x1 ∧ (w1.setCell a y).cell? a2 = some x2 ∧ Below W.heap.size W (w1.setCell a y) := by
  have hb : Below W.heap.size w1 (w1.setCell a y) := (Below.refl _ _).setCell ha y
  exact ⟨by rw [hb.cell hl1]; exact h.1, by rw [hb.cell hl2]; exact h.2.1, h.2.2.setCell ha y⟩

theorem two_swap {w1 W : World} {a1 a2 : Addr} {x1 x2 : Value} {o o' : Obj} (hs : W.heap.size ≤ w1.heap.size) (hl1 : a1.block < W.heap.size) (hl2 : a2.block < W.heap.size) (h : (w1.alloc o).cell? a1 = some x1 ∧ (w1.alloc o).cell? a2 = some x2 ∧ Below W.heap.size W (w1.alloc o)) : (w1.alloc o').cell? a1 = some x1 ∧ (w1.alloc o').cell? a2 = some x2 ∧ Below W.heap.size W (w1.alloc o') := by
  have h1 := below_box w1 o
  have hw : Below W.heap.size W w1 := ⟨h.2.2.os, h.2.2.tape, h.2.2.output, hs, fun k hk => by rw [← h1.block k (by omega)]; exact h.2.2.block k hk⟩
  exact two_alloc ⟨by rw [← h1.cell (p := a1) (by omega)]; exact h.1, by rw [← h1.cell (p := a2) (by omega)]; exact h.2.1, hw⟩

/-- a line in a block of the call's own. -/
def AllAt (W : World) (nb : Nat) (l : Ln) (wr : World) : Prop := ∃ pc jc, Blk wr nb #[.slice pc l.fs.length jc, .int .i64 l.bound] 39 ∧ RInts (vis (W.heap.size ≤ ·) wr) (.slice pc l.fs.length jc) l.fs

set_option maxHeartbeats 4000000 in
set_option maxRecDepth 100000 in
theorem psum_any (vp : Value) (L : List Ln) (P ls ms : List Int) (s : Int) (vw : Value) (ws : List Int) (w : World) (h : VPr w vp L P ls ms) (hw : RInts w vw ws) (hk : PfOk P L s ws) (hn : P.length ≤ 1000) (h1 : 1 ≤ P.length) :
    Calls Try.prog 124 #[vp, .agg #[.int .i64 s, vw]] w (RetLine w (sumT P L s ws L.length).fs (sumT P L s ws L.length).bound) := by
  obtain ⟨pl, jl, pp, jp, pa, ja, pm, jm, rfl, hL, hP, hls, hms⟩ := h.ex
  obtain ⟨pw, jw, rfl, -, ⟨-, lw⟩, hwl⟩ := id hw
  obtain ⟨pl', jl', el, -, ⟨-, lL⟩, hLl⟩ := id hL
  simp only [Value.slice.injEq, true_and] at el
  obtain ⟨rfl, rfl⟩ := el
  clear hls hms h
  have hwn1 : ws.length ≤ L.length := by rw [hk.len]; exact Nat.le_refl _
  have hwn2 : L.length ≤ ws.length := by rw [hk.len]; exact Nat.le_refl _
  obtain ⟨W, hW⟩ : ∃ W : World, W = ((w.alloc (.cells #[.slice pl L.length jl, .slice pp P.length jp, .slice pa ls.length ja, .slice pm ms.length jm] 107)).alloc (.cells #[.int .i64 s, .slice pw ws.length jw] 42)).alloc (.cells #[.slice none 0 0, .int .i64 0] 39) := ⟨_, rfl⟩
  have hA : Below w.heap.size w W := by subst hW; go_grown
  have hB : Blk W w.heap.size #[.slice pl L.length jl, .slice pp P.length jp, .slice pa ls.length ja, .slice pm ms.length jm] 107 := by subst hW; exact ((Blk.new _ _ _).alloc _).alloc _
  have hC : Blk W (w.heap.size + 1) #[.int .i64 s, .slice pw ws.length jw] 42 := by
    subst hW
    have := (Blk.new (w.alloc (.cells #[.slice pl L.length jl, .slice pp P.length jp, .slice pa ls.length ja, .slice pm ms.length jm] 107)) #[.int .i64 s, .slice pw ws.length jw] 42).alloc (.cells #[.slice none 0 0, .int .i64 0] 39)
    simpa using this
  have hD : Blk W (w.heap.size + 1 + 1) #[.slice none 0 0, .int .i64 0] 39 := by
    subst hW
    have := Blk.new ((w.alloc (.cells #[.slice pl L.length jl, .slice pp P.length jp, .slice pa ls.length ja, .slice pm ms.length jm] 107)).alloc (.cells #[.int .i64 s, .slice pw ws.length jw] 42)) #[.slice none 0 0, .int .i64 0] 39
    simpa using this
  have hsz : w.heap.size + 1 + 1 < W.heap.size := hD.lt
  have hmk := fun w => run_make_row' (P := Try.prog) 37 3 (.int .i64 0) 8 Try.underlying37 info_int rfl .i64 .i64 P.length (by omega) (by omega) w
  go_enter Try.func124, Try.ntmps124
  go_wp2_with fail
  rw [← hW]
  clear hW
  have hBW : Below W.heap.size W W.drew := (Below.refl _ _).drew
  have zlA : VLn (W.alloc (.cells (madeCells #[Value.int .i64 0] P.length) 3)).drew (.agg #[.slice (some ⟨W.heap.size, 0, none⟩) P.length P.length, .int .i64 0]) ⟨List.replicate P.length 0, 0⟩ := ⟨_, rfl, (made_ints W P.length (by omega)).mono (ext_drew _), by simp [I64]⟩
  have zlB : VLn ((W.alloc (.cells #[.slice none 0 0, .int .i64 0] 39)).alloc (.cells (madeCells #[Value.int .i64 0] P.length) 3)).drew (.agg #[.slice (some ⟨(W.heap.size + 1), 0, none⟩) P.length P.length, .int .i64 0]) ⟨List.replicate P.length 0, 0⟩ := ⟨_, rfl, by have := (made_ints (W.alloc (.cells #[.slice none 0 0, .int .i64 0] 39)) P.length (by omega)).mono (ext_drew _); simpa using this, by simp [I64]⟩
  have zlC : VLn ((W.alloc (.cells (madeCells #[Value.int .i64 0] P.length) 3)).alloc (.cells #[.slice none 0 0, .int .i64 0] 39)).drew (.agg #[.slice (some ⟨W.heap.size, 0, none⟩) P.length P.length, .int .i64 0]) ⟨List.replicate P.length 0, 0⟩ := ⟨_, rfl, ((made_ints W P.length (by omega)).mono (ext_of_below (below_box _ _))).mono (ext_drew _), by simp [I64]⟩
  have hPW := fun (V : World) (e : Below W.heap.size W V) => (show VLn V (.agg #[.slice pp P.length jp, .int .i64 0]) ⟨P, 0⟩ from ⟨_, rfl, hP.mono ((ext_of_below hA).trans (ext_of_below e)), by simp [I64]⟩)
  have hpl := fun (v1 : Value) (V : World) (g1 : VLn V v1 ⟨List.replicate P.length 0, 0⟩) (g2 : VLn V (.agg #[.slice pp P.length jp, .int .i64 0]) ⟨P, 0⟩) => plus_any v1 _ ⟨List.replicate P.length 0, 0⟩ ⟨P, 0⟩ s V g1 g2 (by simp) (by simp; omega) (by simp [I64])
  obtain ⟨l0, hl0⟩ : ∃ l0, l0 = sumT P L s ws 0 := ⟨_, rfl⟩
  have hl0' : plusE ⟨List.replicate P.length 0, 0⟩ s ⟨P, 0⟩ = l0 := hl0.symm
  simp only [hl0'] at hpl
  have HL0 := Lib.hid hl0
  clear hl0 hl0'
  have b1 := hB.cell 1 _ rfl
  have c0 := hC.cell 0 _ rfl
  go_region_held3 (fun w' => w'.cell? ⟨w.heap.size, 1, none⟩ = some (.slice pp P.length jp) ∧ w'.cell? ⟨w.heap.size + 1, 0, none⟩ = some (.int .i64 s) ∧ Below W.heap.size W w')
    (first | (exact two_call (by assumption) (by assumption)) | (exact two_allocd (by assumption)) | (exact two_alloc (by assumption)) | (exact two_set (by first | exact Nat.le_refl _ | (simp; done) | (simp; omega)) (by simp; omega) (by simp; omega) (two_set (by first | exact Nat.le_refl _ | (simp; done) | (simp; omega)) (by simp; omega) (by simp; omega) (by assumption))) | (exact two_swap (by have := hbB.size; simp at this; omega) (by simp; omega) (by simp; omega) (by assumption)) | go_keep)
    (first
      | (go_at_call 137; refine (hpl _ _ ?_ (hPW _ (by first | exact (by assumption : _ ∧ _ ∧ Below W.heap.size W _).2.2))).mono ?_; (first | exact zlA | exact zlB | exact zlC); rintro e wB ⟨c, rfl, hc, hbB⟩; obtain ⟨pc, jc, rfl, -⟩ := id hc; obtain ⟨hcc, hzz⟩ := bcell hbB))
  · have F1 := Blk.new wB #[.slice pc l0.fs.length jc, .int .i64 l0.bound] 39
    have F2 : RInts (vis (W.heap.size ≤ ·) (wB.alloc (.cells #[.slice pc l0.fs.length jc, .int .i64 l0.bound] 39))) (.slice pc l0.fs.length jc) l0.fs := hc.mono (ext_vis_of (ext_of_below (below_box wB _)) (fun b _ hS => Nat.le_trans (by simp) hS))
    have F3 : Below W.heap.size W (wB.alloc (.cells #[.slice pc l0.fs.length jc, .int .i64 l0.bound] 39)) := (by assumption : _ ∧ _ ∧ Below W.heap.size W _).2.2
    have F4 : W.heap.size ≤ wB.heap.size := by have := hbB.size; simp at this; omega
    clear hcc hzz hbB hc
    generalize wB.alloc (.cells #[.slice pc l0.fs.length jc, .int .i64 l0.bound] 39) = W5 at *
    generalize wB.heap.size = nb at *
    have r0 : W5.cell? ⟨w.heap.size, 0, none⟩ = some (.slice pl L.length jl) := (hB.below F3 hB.lt).cell 0 _ rfl
    clear hpl hPW zlA zlB zlC b1 c0 hmk hBW
    go_wp2
    clear r0
    go_loopw [22] (fun i wr => ∃ (k : Nat), k ≤ L.length ∧ i = .int .i64 k ∧ AllAt W nb (sumT P L s ws k) wr ∧ Below W.heap.size W wr) (fun i _ => L.length - (intOf i).toNat)
    case atStart => exact ⟨0, Nat.zero_le _, rfl, by rw [← HL0.out]; exact ⟨_, _, F1, F2⟩, F3⟩
    case round =>
      clear F1 F2 F3
      obtain ⟨k, hk2, rfl, ⟨pq, jq, HB1, HR1⟩, hb⟩ := hrel
      have hAw := hA.trans (hb.mono hA.size)
      by_cases hlt : k < L.length
      · obtain ⟨b6, o6, rfl, ck, uk, g0, g1, hcr, rfl, hbd⟩ := hLl k hlt
        obtain ⟨pk, jk, rfl, -, -, -⟩ := id hcr
        obtain ⟨b7, o7, rfl, q1, -⟩ := hwl k (by omega)
        have hkw : k < ws.length := by omega
        have hxl : (L[k]).fs.length = (sumT P L s ws k).fs.length := by rw [fs_len, (hk.fs _ (List.getElem_mem hlt)).1]
        have hst : sumT P L s ws (k + 1) = plusE (sumT P L s ws k) (ws[k]) (L[k]) := by
          show plusE _ (ws.getD k 0) (lnAt L k) = _
          rw [ln_at hlt]
          simp [List.getD, List.getElem?_eq_getElem hkw]
        have hiq := fs_I64 P L s ws k
        have hlen := fs_len P L s ws k
        have hln : (sumT P L s ws k).fs.length ≤ 1000000 := by omega
        have HST := Lib.hid hst
        have HXL := Lib.hid hxl
        simp only at g0 g1
        simp only [Nat.mul_one] at q1
        replace g0 := ext_of_below hAw _ _ g0
        replace g1 := ext_of_below hAw _ _ g1
        replace q1 := ext_of_below hAw _ _ q1
        replace hcr := hcr.mono (ext_of_below hAw)
        have c1 : wr.cell? ⟨w.heap.size + 1, 1, none⟩ = some (.slice (some ⟨b7, o7, none⟩) ws.length jw) := (hC.below hb hC.lt).cell 1 _ rfl
        have n1 : (0 : Int) ≤ (k : Int) := Int.natCast_nonneg _
        have n2 : (k : Int) < (L.length : Int) := by omega
        have n3 : (k : Int) < (ws.length : Int) := by omega
        clear hst hxl hLl hwl hlen HL0
        generalize L[k]'hlt = x at *
        generalize ws[k]'hkw = y at *
        generalize sumT P L s ws k = lk at *
        go_wp2_with fail
        have hX := below_box wr (.cells #[.slice pk x.fs.length jk, .int .i64 x.bound] 39)
        have BX := Blk.new wr #[.slice pk x.fs.length jk, .int .i64 x.bound] 39
        have HB2 := HB1.alloc (.cells #[.slice pk x.fs.length jk, .int .i64 x.bound] 39)
        have hbX := hb.trans (hX.mono hb.size)
        have HRX := HR1.mono (ext_vis_of (T := (W.heap.size ≤ ·)) (ext_of_below hX) (fun _ _ h => h))
        have c1X := ext_of_below hX _ _ c1
        have q1X := ext_of_below hX _ _ q1
        have hcrX := hcr.mono (ext_of_below hX)
        have hnbl : nb < wr.heap.size := HB1.lt
        clear hX g0 g1 c1 q1 hcr HB1 HR1 hb hAw
        generalize wr.alloc (.cells #[.slice pk x.fs.length jk, .int .i64 x.bound] 39) = WX at *
        generalize wr.heap.size = nx at *
        have hpk := plus_any (.agg #[.slice pq lk.fs.length jq, .int .i64 lk.bound]) (.agg #[.slice pk x.fs.length jk, .int .i64 x.bound]) lk x y WX.drew ⟨_, rfl, (HRX.mono (vis_ext _ _)).mono (ext_drew _), hiq.2⟩ ⟨_, rfl, hcrX.mono (ext_drew _), hbd⟩ HXL.out hln hiq.1
        refine wp_region_till (fun w' => w'.cell? ⟨nb, 0, none⟩ = some (.slice pq lk.fs.length jq) ∧ w'.cell? ⟨nb, 1, none⟩ = some (.int .i64 lk.bound) ∧ w'.cell? ⟨w.heap.size + 1, 1, none⟩ = some (.slice (some ⟨b7, o7, none⟩) ws.length jw) ∧ w'.cell? ⟨b7, o7 + k, none⟩ = some (.int .i64 y) ∧ w'.cell? ⟨nx, 0, none⟩ = some (.slice pk x.fs.length jk) ∧ w'.cell? ⟨nx, 1, none⟩ = some (.int .i64 x.bound)) 8 (by kernel_rfl) ⟨HB2.cell 0 _ rfl, HB2.cell 1 _ rfl, c1X, q1X, BX.cell 0 _ rfl, BX.cell 1 _ rfl⟩ (fun hHeld => ?_)
        refine Till.take 0 (some 27) (v := ?_) rfl rfl (by kernel_rfl) (by kernel_rfl) (by kernel_rfl) (by kernel_rfl) (fun _ _ _ h => h) (Or.inl ⟨by rfl, ?_⟩) (by assumption) ?_
        rotate_left
        · (intro w hSw; (try dsimp only at hSw); go_simp; try with_reducible rfl)
        try simp only [Act.put, List.setIfInBounds_toArray, List.set_cons_zero, List.set_cons_succ]
        refine Till.take 1 (some 28) (v := ?_) rfl rfl (by kernel_rfl) (by kernel_rfl) (by kernel_rfl) (by kernel_rfl) (fun _ _ _ h => h) (Or.inl ⟨by rfl, ?_⟩) (by assumption) ?_
        rotate_left
        · (intro w hSw; (try dsimp only at hSw); go_simp; try with_reducible rfl)
        try simp only [Act.put, List.setIfInBounds_toArray, List.set_cons_zero, List.set_cons_succ]
        refine Till.take 2 (some 29) (v := ?_) rfl rfl (by kernel_rfl) (by kernel_rfl) (by kernel_rfl) (by kernel_rfl) (fun _ _ _ h => h) (Or.inl ⟨by rfl, ?_⟩) (by assumption) ?_
        rotate_left
        · (intro w hSw; (try dsimp only at hSw); go_simp; try with_reducible rfl)
        try simp only [Act.put, List.setIfInBounds_toArray, List.set_cons_zero, List.set_cons_succ]
        refine Till.take 3 (some 30) (v := ?_) rfl rfl (by kernel_rfl) (by kernel_rfl) (by kernel_rfl) (by kernel_rfl) (fun _ _ _ h => h) (Or.inl ⟨by rfl, ?_⟩) (by assumption) ?_
        rotate_left
        · (intro w hSw; (try dsimp only at hSw); go_simp; try with_reducible rfl)
        try simp only [Act.put, List.setIfInBounds_toArray, List.set_cons_zero, List.set_cons_succ]
        refine Till.take 4 (some 31) (v := ?_) rfl rfl (by kernel_rfl) (by kernel_rfl) (by kernel_rfl) (by kernel_rfl) (fun _ _ _ h => h) (Or.inl ⟨by rfl, ?_⟩) (by assumption) ?_
        rotate_left
        · (intro w hSw; (try dsimp only at hSw); go_simp; try with_reducible rfl)
        try simp only [Act.put, List.setIfInBounds_toArray, List.set_cons_zero, List.set_cons_succ]
        refine Till.take 5 (some 32) (v := ?_) rfl rfl (by kernel_rfl) (by kernel_rfl) (by kernel_rfl) (by kernel_rfl) (fun _ _ _ h => h) (Or.inl ⟨by rfl, ?_⟩) (by assumption) ?_
        rotate_left
        · (intro w hSw; (try dsimp only at hSw); go_simp; try with_reducible rfl)
        try simp only [Act.put, List.setIfInBounds_toArray, List.set_cons_zero, List.set_cons_succ]
        refine Till.take 6 (some 33) (v := ?_) rfl rfl (by kernel_rfl) (by kernel_rfl) (by kernel_rfl) (by kernel_rfl) (fun _ _ _ h => h) (Or.inl ⟨by rfl, ?_⟩) (by assumption) ?_
        rotate_left
        · (intro w hSw; (try dsimp only at hSw); go_simp; try with_reducible rfl)
        try simp only [Act.put, List.setIfInBounds_toArray, List.set_cons_zero, List.set_cons_succ]
        refine Till.one 7 rfl (by kernel_rfl) (fun K hK => ?_)
        go_simp
        go_at_call 137
        refine hpk.mono ?_
        rintro e wC ⟨cd, rfl, hcd, hbC⟩
        obtain ⟨pd, jd, rfl, -⟩ := id hcd
        refine hK.out _ _ (fun _ => ⟨keepC hbC hHeld.1, keepC hbC hHeld.2.1, keepC hbC hHeld.2.2.1, keepC hbC hHeld.2.2.2.1, keepC hbC hHeld.2.2.2.2.1, keepC hbC hHeld.2.2.2.2.2⟩) (fun hHeld2 => ?_)
        clear hK K
        try simp only [Act.put, List.setIfInBounds_toArray, List.set_cons_zero, List.set_cons_succ]
        have hbC2 : Below WX.heap.size WX wC := ((Below.refl _ _).drew).trans (hbC.mono (Nat.le_refl _))
        have HB3 := HB2.below hbC2 HB2.lt
        have hlX : nb < WX.heap.size := HB2.lt
        have hbF := hbX.trans (hbC2.mono hbX.size)
        have hsW := hbX.size
        refine Till.one 8 rfl (by kernel_rfl) (fun K hK => ?_)
        have e0 := HB3.cell 0 _ rfl
        have e1 := HB3.cell 1 _ rfl
        have z0 := HB3.frozen 0
        have z1 := HB3.frozen 1
        go_simp
        refine hK.out _ _ (fun h => absurd rfl h) (fun _ => ?_)
        clear hK K
        refine Till.done (by kernel_rfl) ?_ _
        try simp only [Act.put]
        have HB5 := (HB3.set 0 (.slice pd (plusE lk y x).fs.length jd)).set 1 (.int .i64 (plusE lk y x).bound)
        simp only [List.setIfInBounds_toArray, List.set_cons_zero, List.set_cons_succ] at HB5
        have HR5 : RInts (vis (W.heap.size ≤ ·) ((wC.setCell ⟨nb, 0, none⟩ (.slice pd (plusE lk y x).fs.length jd)).setCell ⟨nb, 1, none⟩ (.int .i64 (plusE lk y x).bound))) (.slice pd (plusE lk y x).fs.length jd) (plusE lk y x).fs := (hcd.mono (ext_vis_set (T := fun b => WX.heap.size ≤ b) (a := ⟨nb, 0, none⟩) (fun _ h => h) (by show ¬ WX.heap.size ≤ nb; omega))).mono (ext_vis_set (a := ⟨nb, 1, none⟩) (fun b hS => Nat.le_trans hsW hS) (by simp only; omega))
        have hbZ := (hbF.setCell (p := ⟨nb, 0, none⟩) F4 (.slice pd (plusE lk y x).fs.length jd)).setCell (p := ⟨nb, 1, none⟩) F4 (.int .i64 (plusE lk y x).bound)
        clear HB2 HB3 HRX hcd hbC hbC2 hbF hHeld hHeld2 e0 e1 z0 z1 hpk BX c1X q1X hcrX hbX hiq
        generalize (wC.setCell ⟨nb, 0, none⟩ (.slice pd (plusE lk y x).fs.length jd)).setCell ⟨nb, 1, none⟩ (.int .i64 (plusE lk y x).bound) = WZ at *
        go_wp2
        go_roundw
        case rel => exact ⟨k + 1, by omega, by go_num, by rw [HST.out]; exact ⟨_, _, HB5, HR5⟩, hbZ⟩
        case measure => simp [intOf]; omega
      · have hkk : k = L.length := by omega
        subst hkk
        generalize sumT P L s ws L.length = lk at *
        have HD := hD.below hb hD.lt
        have HDF := (HD.set 0 (.slice pq lk.fs.length jq)).set 1 (.int .i64 lk.bound)
        simp only [List.setIfInBounds_toArray, List.set_cons_zero, List.set_cons_succ] at HDF
        have hAF := (hAw.setCell (p := ⟨w.heap.size + 1 + 1, 0, none⟩) (by simp; omega) (.slice pq lk.fs.length jq)).setCell (p := ⟨w.heap.size + 1 + 1, 1, none⟩) (by simp; omega) (.int .i64 lk.bound)
        have hRF : RInts (vis (w.heap.size ≤ ·) ((wr.setCell ⟨w.heap.size + 1 + 1, 0, none⟩ (.slice pq lk.fs.length jq)).setCell ⟨w.heap.size + 1 + 1, 1, none⟩ (.int .i64 lk.bound))) (.slice pq lk.fs.length jq) lk.fs := (HR1.mono (ext_vis_set (T := fun b => W.heap.size ≤ b) (a := ⟨w.heap.size + 1 + 1, 0, none⟩) (fun _ h => h) (by simp only; omega))).mono (ext_vis_set (a := ⟨w.heap.size + 1 + 1, 1, none⟩) (fun b hS => Nat.le_trans (by omega) hS) (by simp only; omega))
        have r0 := HB1.cell 0 _ rfl
        have r1 := HB1.cell 1 _ rfl
        have s0 := HD.cell 0 _ rfl
        have s1 := HD.cell 1 _ rfl
        have y0 := HD.frozen 0
        have y1 := HD.frozen 1
        have t0 := HDF.cell 0 _ rfl
        have t1 := HDF.cell 1 _ rfl
        have HR := Lib.hid hRF
        clear hRF HB1 HR1 hb HD HDF hAw hLl hwl
        go_wp2
        exact bodyPost_ret (v := .agg #[.slice pq lk.fs.length jq, .int .i64 lk.bound]) (by simp only [results, Try.results124]; simp [go_sem, t0, t1]) rfl ⟨_, rfl, HR.out, hAF⟩
  · have F0 : Blk ((W.alloc (.cells (madeCells #[Value.int .i64 0] P.length) 3)).alloc (.cells #[.slice none 0 0, .int .i64 0] 39)) (W.heap.size + 1) #[.slice none 0 0, .int .i64 0] 39 := by
      have := Blk.new (W.alloc (.cells (madeCells #[Value.int .i64 0] P.length) 3)) #[.slice none 0 0, .int .i64 0] 39
      simpa using this
    have F00 : Blk ((W.alloc (.cells (madeCells #[Value.int .i64 0] P.length) 3)).alloc (.cells #[.slice none 0 0, .int .i64 0] 39)).drew (W.heap.size + 1) #[.slice none 0 0, .int .i64 0] 39 := F0
    have F1 := ((F00.below hbB (by simp <;> omega)).set 0 (.slice pc l0.fs.length jc)).set 1 (.int .i64 l0.bound)
    simp only [List.setIfInBounds_toArray, List.set_cons_zero, List.set_cons_succ] at F1
    have hcx : RInts (vis (W.heap.size + 1 + 1 ≤ ·) wB) (.slice pc l0.fs.length jc) l0.fs := hc.mono (ext_vis_of (Ext.refl _) (fun b _ hS => by simpa using hS))
    have F2 : RInts (vis (W.heap.size ≤ ·) ((wB.setCell ⟨(W.heap.size + 1), 0, none⟩ (.slice pc l0.fs.length jc)).setCell ⟨(W.heap.size + 1), 1, none⟩ (.int .i64 l0.bound))) (.slice pc l0.fs.length jc) l0.fs := (hcx.mono (ext_vis_set (T := fun b => W.heap.size + 1 + 1 ≤ b) (a := ⟨(W.heap.size + 1), 0, none⟩) (fun _ h => h) (by simp only; omega))).mono (ext_vis_set (a := ⟨(W.heap.size + 1), 1, none⟩) (fun b hS => Nat.le_trans (by omega) hS) (by simp only; omega))
    have F3 : Below W.heap.size W ((wB.setCell ⟨(W.heap.size + 1), 0, none⟩ (.slice pc l0.fs.length jc)).setCell ⟨(W.heap.size + 1), 1, none⟩ (.int .i64 l0.bound)) := (by assumption : _ ∧ _ ∧ Below W.heap.size W _).2.2
    have F4 : W.heap.size ≤ (W.heap.size + 1) := by omega
    clear hcc hzz hbB hc F0 F00 hcx
    generalize (wB.setCell ⟨(W.heap.size + 1), 0, none⟩ (.slice pc l0.fs.length jc)).setCell ⟨(W.heap.size + 1), 1, none⟩ (.int .i64 l0.bound) = W5 at *
    have r0 : W5.cell? ⟨w.heap.size, 0, none⟩ = some (.slice pl L.length jl) := (hB.below F3 hB.lt).cell 0 _ rfl
    clear hpl hPW zlA zlB zlC b1 c0 hmk hBW
    go_wp2
    clear r0
    go_loopw [22] (fun i wr => ∃ (k : Nat), k ≤ L.length ∧ i = .int .i64 k ∧ AllAt W (W.heap.size + 1) (sumT P L s ws k) wr ∧ Below W.heap.size W wr) (fun i _ => L.length - (intOf i).toNat)
    case atStart => exact ⟨0, Nat.zero_le _, rfl, by rw [← HL0.out]; exact ⟨_, _, F1, F2⟩, F3⟩
    case round =>
      clear F1 F2 F3
      obtain ⟨k, hk2, rfl, ⟨pq, jq, HB1, HR1⟩, hb⟩ := hrel
      have hAw := hA.trans (hb.mono hA.size)
      by_cases hlt : k < L.length
      · obtain ⟨b6, o6, rfl, ck, uk, g0, g1, hcr, rfl, hbd⟩ := hLl k hlt
        obtain ⟨pk, jk, rfl, -, -, -⟩ := id hcr
        obtain ⟨b7, o7, rfl, q1, -⟩ := hwl k (by omega)
        have hkw : k < ws.length := by omega
        have hxl : (L[k]).fs.length = (sumT P L s ws k).fs.length := by rw [fs_len, (hk.fs _ (List.getElem_mem hlt)).1]
        have hst : sumT P L s ws (k + 1) = plusE (sumT P L s ws k) (ws[k]) (L[k]) := by
          show plusE _ (ws.getD k 0) (lnAt L k) = _
          rw [ln_at hlt]
          simp [List.getD, List.getElem?_eq_getElem hkw]
        have hiq := fs_I64 P L s ws k
        have hlen := fs_len P L s ws k
        have hln : (sumT P L s ws k).fs.length ≤ 1000000 := by omega
        have HST := Lib.hid hst
        have HXL := Lib.hid hxl
        simp only at g0 g1
        simp only [Nat.mul_one] at q1
        replace g0 := ext_of_below hAw _ _ g0
        replace g1 := ext_of_below hAw _ _ g1
        replace q1 := ext_of_below hAw _ _ q1
        replace hcr := hcr.mono (ext_of_below hAw)
        have c1 : wr.cell? ⟨w.heap.size + 1, 1, none⟩ = some (.slice (some ⟨b7, o7, none⟩) ws.length jw) := (hC.below hb hC.lt).cell 1 _ rfl
        have n1 : (0 : Int) ≤ (k : Int) := Int.natCast_nonneg _
        have n2 : (k : Int) < (L.length : Int) := by omega
        have n3 : (k : Int) < (ws.length : Int) := by omega
        clear hst hxl hLl hwl hlen HL0
        generalize L[k]'hlt = x at *
        generalize ws[k]'hkw = y at *
        generalize sumT P L s ws k = lk at *
        go_wp2_with fail
        have hX := below_box wr (.cells #[.slice pk x.fs.length jk, .int .i64 x.bound] 39)
        have BX := Blk.new wr #[.slice pk x.fs.length jk, .int .i64 x.bound] 39
        have HB2 := HB1.alloc (.cells #[.slice pk x.fs.length jk, .int .i64 x.bound] 39)
        have hbX := hb.trans (hX.mono hb.size)
        have HRX := HR1.mono (ext_vis_of (T := (W.heap.size ≤ ·)) (ext_of_below hX) (fun _ _ h => h))
        have c1X := ext_of_below hX _ _ c1
        have q1X := ext_of_below hX _ _ q1
        have hcrX := hcr.mono (ext_of_below hX)
        have hnbl : (W.heap.size + 1) < wr.heap.size := HB1.lt
        clear hX g0 g1 c1 q1 hcr HB1 HR1 hb hAw
        generalize wr.alloc (.cells #[.slice pk x.fs.length jk, .int .i64 x.bound] 39) = WX at *
        generalize wr.heap.size = nx at *
        have hpk := plus_any (.agg #[.slice pq lk.fs.length jq, .int .i64 lk.bound]) (.agg #[.slice pk x.fs.length jk, .int .i64 x.bound]) lk x y WX.drew ⟨_, rfl, (HRX.mono (vis_ext _ _)).mono (ext_drew _), hiq.2⟩ ⟨_, rfl, hcrX.mono (ext_drew _), hbd⟩ HXL.out hln hiq.1
        refine wp_region_till (fun w' => w'.cell? ⟨(W.heap.size + 1), 0, none⟩ = some (.slice pq lk.fs.length jq) ∧ w'.cell? ⟨(W.heap.size + 1), 1, none⟩ = some (.int .i64 lk.bound) ∧ w'.cell? ⟨w.heap.size + 1, 1, none⟩ = some (.slice (some ⟨b7, o7, none⟩) ws.length jw) ∧ w'.cell? ⟨b7, o7 + k, none⟩ = some (.int .i64 y) ∧ w'.cell? ⟨nx, 0, none⟩ = some (.slice pk x.fs.length jk) ∧ w'.cell? ⟨nx, 1, none⟩ = some (.int .i64 x.bound)) 8 (by kernel_rfl) ⟨HB2.cell 0 _ rfl, HB2.cell 1 _ rfl, c1X, q1X, BX.cell 0 _ rfl, BX.cell 1 _ rfl⟩ (fun hHeld => ?_)
        refine Till.take 0 (some 27) (v := ?_) rfl rfl (by kernel_rfl) (by kernel_rfl) (by kernel_rfl) (by kernel_rfl) (fun _ _ _ h => h) (Or.inl ⟨by rfl, ?_⟩) (by assumption) ?_
        rotate_left
        · (intro w hSw; (try dsimp only at hSw); go_simp; try with_reducible rfl)
        try simp only [Act.put, List.setIfInBounds_toArray, List.set_cons_zero, List.set_cons_succ]
        refine Till.take 1 (some 28) (v := ?_) rfl rfl (by kernel_rfl) (by kernel_rfl) (by kernel_rfl) (by kernel_rfl) (fun _ _ _ h => h) (Or.inl ⟨by rfl, ?_⟩) (by assumption) ?_
        rotate_left
        · (intro w hSw; (try dsimp only at hSw); go_simp; try with_reducible rfl)
        try simp only [Act.put, List.setIfInBounds_toArray, List.set_cons_zero, List.set_cons_succ]
        refine Till.take 2 (some 29) (v := ?_) rfl rfl (by kernel_rfl) (by kernel_rfl) (by kernel_rfl) (by kernel_rfl) (fun _ _ _ h => h) (Or.inl ⟨by rfl, ?_⟩) (by assumption) ?_
        rotate_left
        · (intro w hSw; (try dsimp only at hSw); go_simp; try with_reducible rfl)
        try simp only [Act.put, List.setIfInBounds_toArray, List.set_cons_zero, List.set_cons_succ]
        refine Till.take 3 (some 30) (v := ?_) rfl rfl (by kernel_rfl) (by kernel_rfl) (by kernel_rfl) (by kernel_rfl) (fun _ _ _ h => h) (Or.inl ⟨by rfl, ?_⟩) (by assumption) ?_
        rotate_left
        · (intro w hSw; (try dsimp only at hSw); go_simp; try with_reducible rfl)
        try simp only [Act.put, List.setIfInBounds_toArray, List.set_cons_zero, List.set_cons_succ]
        refine Till.take 4 (some 31) (v := ?_) rfl rfl (by kernel_rfl) (by kernel_rfl) (by kernel_rfl) (by kernel_rfl) (fun _ _ _ h => h) (Or.inl ⟨by rfl, ?_⟩) (by assumption) ?_
        rotate_left
        · (intro w hSw; (try dsimp only at hSw); go_simp; try with_reducible rfl)
        try simp only [Act.put, List.setIfInBounds_toArray, List.set_cons_zero, List.set_cons_succ]
        refine Till.take 5 (some 32) (v := ?_) rfl rfl (by kernel_rfl) (by kernel_rfl) (by kernel_rfl) (by kernel_rfl) (fun _ _ _ h => h) (Or.inl ⟨by rfl, ?_⟩) (by assumption) ?_
        rotate_left
        · (intro w hSw; (try dsimp only at hSw); go_simp; try with_reducible rfl)
        try simp only [Act.put, List.setIfInBounds_toArray, List.set_cons_zero, List.set_cons_succ]
        refine Till.take 6 (some 33) (v := ?_) rfl rfl (by kernel_rfl) (by kernel_rfl) (by kernel_rfl) (by kernel_rfl) (fun _ _ _ h => h) (Or.inl ⟨by rfl, ?_⟩) (by assumption) ?_
        rotate_left
        · (intro w hSw; (try dsimp only at hSw); go_simp; try with_reducible rfl)
        try simp only [Act.put, List.setIfInBounds_toArray, List.set_cons_zero, List.set_cons_succ]
        refine Till.one 7 rfl (by kernel_rfl) (fun K hK => ?_)
        go_simp
        go_at_call 137
        refine hpk.mono ?_
        rintro e wC ⟨cd, rfl, hcd, hbC⟩
        obtain ⟨pd, jd, rfl, -⟩ := id hcd
        refine hK.out _ _ (fun _ => ⟨keepC hbC hHeld.1, keepC hbC hHeld.2.1, keepC hbC hHeld.2.2.1, keepC hbC hHeld.2.2.2.1, keepC hbC hHeld.2.2.2.2.1, keepC hbC hHeld.2.2.2.2.2⟩) (fun hHeld2 => ?_)
        clear hK K
        try simp only [Act.put, List.setIfInBounds_toArray, List.set_cons_zero, List.set_cons_succ]
        have hbC2 : Below WX.heap.size WX wC := ((Below.refl _ _).drew).trans (hbC.mono (Nat.le_refl _))
        have HB3 := HB2.below hbC2 HB2.lt
        have hlX : (W.heap.size + 1) < WX.heap.size := HB2.lt
        have hbF := hbX.trans (hbC2.mono hbX.size)
        have hsW := hbX.size
        refine Till.one 8 rfl (by kernel_rfl) (fun K hK => ?_)
        have e0 := HB3.cell 0 _ rfl
        have e1 := HB3.cell 1 _ rfl
        have z0 := HB3.frozen 0
        have z1 := HB3.frozen 1
        go_simp
        refine hK.out _ _ (fun h => absurd rfl h) (fun _ => ?_)
        clear hK K
        refine Till.done (by kernel_rfl) ?_ _
        try simp only [Act.put]
        have HB5 := (HB3.set 0 (.slice pd (plusE lk y x).fs.length jd)).set 1 (.int .i64 (plusE lk y x).bound)
        simp only [List.setIfInBounds_toArray, List.set_cons_zero, List.set_cons_succ] at HB5
        have HR5 : RInts (vis (W.heap.size ≤ ·) ((wC.setCell ⟨(W.heap.size + 1), 0, none⟩ (.slice pd (plusE lk y x).fs.length jd)).setCell ⟨(W.heap.size + 1), 1, none⟩ (.int .i64 (plusE lk y x).bound))) (.slice pd (plusE lk y x).fs.length jd) (plusE lk y x).fs := (hcd.mono (ext_vis_set (T := fun b => WX.heap.size ≤ b) (a := ⟨(W.heap.size + 1), 0, none⟩) (fun _ h => h) (by show ¬ WX.heap.size ≤ (W.heap.size + 1); omega))).mono (ext_vis_set (a := ⟨(W.heap.size + 1), 1, none⟩) (fun b hS => Nat.le_trans hsW hS) (by simp only; omega))
        have hbZ := (hbF.setCell (p := ⟨(W.heap.size + 1), 0, none⟩) F4 (.slice pd (plusE lk y x).fs.length jd)).setCell (p := ⟨(W.heap.size + 1), 1, none⟩) F4 (.int .i64 (plusE lk y x).bound)
        clear HB2 HB3 HRX hcd hbC hbC2 hbF hHeld hHeld2 e0 e1 z0 z1 hpk BX c1X q1X hcrX hbX hiq
        generalize (wC.setCell ⟨(W.heap.size + 1), 0, none⟩ (.slice pd (plusE lk y x).fs.length jd)).setCell ⟨(W.heap.size + 1), 1, none⟩ (.int .i64 (plusE lk y x).bound) = WZ at *
        go_wp2
        go_roundw
        case rel => exact ⟨k + 1, by omega, by go_num, by rw [HST.out]; exact ⟨_, _, HB5, HR5⟩, hbZ⟩
        case measure => simp [intOf]; omega
      · have hkk : k = L.length := by omega
        subst hkk
        generalize sumT P L s ws L.length = lk at *
        have HD := hD.below hb hD.lt
        have HDF := (HD.set 0 (.slice pq lk.fs.length jq)).set 1 (.int .i64 lk.bound)
        simp only [List.setIfInBounds_toArray, List.set_cons_zero, List.set_cons_succ] at HDF
        have hAF := (hAw.setCell (p := ⟨w.heap.size + 1 + 1, 0, none⟩) (by simp; omega) (.slice pq lk.fs.length jq)).setCell (p := ⟨w.heap.size + 1 + 1, 1, none⟩) (by simp; omega) (.int .i64 lk.bound)
        have hRF : RInts (vis (w.heap.size ≤ ·) ((wr.setCell ⟨w.heap.size + 1 + 1, 0, none⟩ (.slice pq lk.fs.length jq)).setCell ⟨w.heap.size + 1 + 1, 1, none⟩ (.int .i64 lk.bound))) (.slice pq lk.fs.length jq) lk.fs := (HR1.mono (ext_vis_set (T := fun b => W.heap.size ≤ b) (a := ⟨w.heap.size + 1 + 1, 0, none⟩) (fun _ h => h) (by simp only; omega))).mono (ext_vis_set (a := ⟨w.heap.size + 1 + 1, 1, none⟩) (fun b hS => Nat.le_trans (by omega) hS) (by simp only; omega))
        have r0 := HB1.cell 0 _ rfl
        have r1 := HB1.cell 1 _ rfl
        have s0 := HD.cell 0 _ rfl
        have s1 := HD.cell 1 _ rfl
        have y0 := HD.frozen 0
        have y1 := HD.frozen 1
        have t0 := HDF.cell 0 _ rfl
        have t1 := HDF.cell 1 _ rfl
        have HR := Lib.hid hRF
        clear hRF HB1 HR1 hb HD HDF hAw hLl hwl
        go_wp2
        exact bodyPost_ret (v := .agg #[.slice pq lk.fs.length jq, .int .i64 lk.bound]) (by simp only [results, Try.results124]; simp [go_sem, t0, t1]) rfl ⟨_, rfl, HR.out, hAF⟩
  · have F0 : Blk ((W.alloc (.cells #[.slice none 0 0, .int .i64 0] 39)).alloc (.cells (madeCells #[Value.int .i64 0] P.length) 3)) W.heap.size #[.slice none 0 0, .int .i64 0] 39 := by
      have := (Blk.new W #[.slice none 0 0, .int .i64 0] 39).alloc (.cells (madeCells #[Value.int .i64 0] P.length) 3)
      simpa using this
    have F00 : Blk ((W.alloc (.cells #[.slice none 0 0, .int .i64 0] 39)).alloc (.cells (madeCells #[Value.int .i64 0] P.length) 3)).drew W.heap.size #[.slice none 0 0, .int .i64 0] 39 := F0
    have F1 := ((F00.below hbB (by simp <;> omega)).set 0 (.slice pc l0.fs.length jc)).set 1 (.int .i64 l0.bound)
    simp only [List.setIfInBounds_toArray, List.set_cons_zero, List.set_cons_succ] at F1
    have hcx : RInts (vis (W.heap.size + 1 + 1 ≤ ·) wB) (.slice pc l0.fs.length jc) l0.fs := hc.mono (ext_vis_of (Ext.refl _) (fun b _ hS => by simpa using hS))
    have F2 : RInts (vis (W.heap.size ≤ ·) ((wB.setCell ⟨W.heap.size, 0, none⟩ (.slice pc l0.fs.length jc)).setCell ⟨W.heap.size, 1, none⟩ (.int .i64 l0.bound))) (.slice pc l0.fs.length jc) l0.fs := (hcx.mono (ext_vis_set (T := fun b => W.heap.size + 1 + 1 ≤ b) (a := ⟨W.heap.size, 0, none⟩) (fun _ h => h) (by simp only; omega))).mono (ext_vis_set (a := ⟨W.heap.size, 1, none⟩) (fun b hS => Nat.le_trans (by omega) hS) (by simp only; omega))
    have F3 : Below W.heap.size W ((wB.setCell ⟨W.heap.size, 0, none⟩ (.slice pc l0.fs.length jc)).setCell ⟨W.heap.size, 1, none⟩ (.int .i64 l0.bound)) := (by assumption : _ ∧ _ ∧ Below W.heap.size W _).2.2
    have F4 : W.heap.size ≤ W.heap.size := by omega
    clear hcc hzz hbB hc F0 F00 hcx
    generalize (wB.setCell ⟨W.heap.size, 0, none⟩ (.slice pc l0.fs.length jc)).setCell ⟨W.heap.size, 1, none⟩ (.int .i64 l0.bound) = W5 at *
    have r0 : W5.cell? ⟨w.heap.size, 0, none⟩ = some (.slice pl L.length jl) := (hB.below F3 hB.lt).cell 0 _ rfl
    clear hpl hPW zlA zlB zlC b1 c0 hmk hBW
    go_wp2
    clear r0
    go_loopw [22] (fun i wr => ∃ (k : Nat), k ≤ L.length ∧ i = .int .i64 k ∧ AllAt W W.heap.size (sumT P L s ws k) wr ∧ Below W.heap.size W wr) (fun i _ => L.length - (intOf i).toNat)
    case atStart => exact ⟨0, Nat.zero_le _, rfl, by rw [← HL0.out]; exact ⟨_, _, F1, F2⟩, F3⟩
    case round =>
      clear F1 F2 F3
      obtain ⟨k, hk2, rfl, ⟨pq, jq, HB1, HR1⟩, hb⟩ := hrel
      have hAw := hA.trans (hb.mono hA.size)
      by_cases hlt : k < L.length
      · obtain ⟨b6, o6, rfl, ck, uk, g0, g1, hcr, rfl, hbd⟩ := hLl k hlt
        obtain ⟨pk, jk, rfl, -, -, -⟩ := id hcr
        obtain ⟨b7, o7, rfl, q1, -⟩ := hwl k (by omega)
        have hkw : k < ws.length := by omega
        have hxl : (L[k]).fs.length = (sumT P L s ws k).fs.length := by rw [fs_len, (hk.fs _ (List.getElem_mem hlt)).1]
        have hst : sumT P L s ws (k + 1) = plusE (sumT P L s ws k) (ws[k]) (L[k]) := by
          show plusE _ (ws.getD k 0) (lnAt L k) = _
          rw [ln_at hlt]
          simp [List.getD, List.getElem?_eq_getElem hkw]
        have hiq := fs_I64 P L s ws k
        have hlen := fs_len P L s ws k
        have hln : (sumT P L s ws k).fs.length ≤ 1000000 := by omega
        have HST := Lib.hid hst
        have HXL := Lib.hid hxl
        simp only at g0 g1
        simp only [Nat.mul_one] at q1
        replace g0 := ext_of_below hAw _ _ g0
        replace g1 := ext_of_below hAw _ _ g1
        replace q1 := ext_of_below hAw _ _ q1
        replace hcr := hcr.mono (ext_of_below hAw)
        have c1 : wr.cell? ⟨w.heap.size + 1, 1, none⟩ = some (.slice (some ⟨b7, o7, none⟩) ws.length jw) := (hC.below hb hC.lt).cell 1 _ rfl
        have n1 : (0 : Int) ≤ (k : Int) := Int.natCast_nonneg _
        have n2 : (k : Int) < (L.length : Int) := by omega
        have n3 : (k : Int) < (ws.length : Int) := by omega
        clear hst hxl hLl hwl hlen HL0
        generalize L[k]'hlt = x at *
        generalize ws[k]'hkw = y at *
        generalize sumT P L s ws k = lk at *
        go_wp2_with fail
        have hX := below_box wr (.cells #[.slice pk x.fs.length jk, .int .i64 x.bound] 39)
        have BX := Blk.new wr #[.slice pk x.fs.length jk, .int .i64 x.bound] 39
        have HB2 := HB1.alloc (.cells #[.slice pk x.fs.length jk, .int .i64 x.bound] 39)
        have hbX := hb.trans (hX.mono hb.size)
        have HRX := HR1.mono (ext_vis_of (T := (W.heap.size ≤ ·)) (ext_of_below hX) (fun _ _ h => h))
        have c1X := ext_of_below hX _ _ c1
        have q1X := ext_of_below hX _ _ q1
        have hcrX := hcr.mono (ext_of_below hX)
        have hnbl : W.heap.size < wr.heap.size := HB1.lt
        clear hX g0 g1 c1 q1 hcr HB1 HR1 hb hAw
        generalize wr.alloc (.cells #[.slice pk x.fs.length jk, .int .i64 x.bound] 39) = WX at *
        generalize wr.heap.size = nx at *
        have hpk := plus_any (.agg #[.slice pq lk.fs.length jq, .int .i64 lk.bound]) (.agg #[.slice pk x.fs.length jk, .int .i64 x.bound]) lk x y WX.drew ⟨_, rfl, (HRX.mono (vis_ext _ _)).mono (ext_drew _), hiq.2⟩ ⟨_, rfl, hcrX.mono (ext_drew _), hbd⟩ HXL.out hln hiq.1
        refine wp_region_till (fun w' => w'.cell? ⟨W.heap.size, 0, none⟩ = some (.slice pq lk.fs.length jq) ∧ w'.cell? ⟨W.heap.size, 1, none⟩ = some (.int .i64 lk.bound) ∧ w'.cell? ⟨w.heap.size + 1, 1, none⟩ = some (.slice (some ⟨b7, o7, none⟩) ws.length jw) ∧ w'.cell? ⟨b7, o7 + k, none⟩ = some (.int .i64 y) ∧ w'.cell? ⟨nx, 0, none⟩ = some (.slice pk x.fs.length jk) ∧ w'.cell? ⟨nx, 1, none⟩ = some (.int .i64 x.bound)) 8 (by kernel_rfl) ⟨HB2.cell 0 _ rfl, HB2.cell 1 _ rfl, c1X, q1X, BX.cell 0 _ rfl, BX.cell 1 _ rfl⟩ (fun hHeld => ?_)
        refine Till.take 0 (some 27) (v := ?_) rfl rfl (by kernel_rfl) (by kernel_rfl) (by kernel_rfl) (by kernel_rfl) (fun _ _ _ h => h) (Or.inl ⟨by rfl, ?_⟩) (by assumption) ?_
        rotate_left
        · (intro w hSw; (try dsimp only at hSw); go_simp; try with_reducible rfl)
        try simp only [Act.put, List.setIfInBounds_toArray, List.set_cons_zero, List.set_cons_succ]
        refine Till.take 1 (some 28) (v := ?_) rfl rfl (by kernel_rfl) (by kernel_rfl) (by kernel_rfl) (by kernel_rfl) (fun _ _ _ h => h) (Or.inl ⟨by rfl, ?_⟩) (by assumption) ?_
        rotate_left
        · (intro w hSw; (try dsimp only at hSw); go_simp; try with_reducible rfl)
        try simp only [Act.put, List.setIfInBounds_toArray, List.set_cons_zero, List.set_cons_succ]
        refine Till.take 2 (some 29) (v := ?_) rfl rfl (by kernel_rfl) (by kernel_rfl) (by kernel_rfl) (by kernel_rfl) (fun _ _ _ h => h) (Or.inl ⟨by rfl, ?_⟩) (by assumption) ?_
        rotate_left
        · (intro w hSw; (try dsimp only at hSw); go_simp; try with_reducible rfl)
        try simp only [Act.put, List.setIfInBounds_toArray, List.set_cons_zero, List.set_cons_succ]
        refine Till.take 3 (some 30) (v := ?_) rfl rfl (by kernel_rfl) (by kernel_rfl) (by kernel_rfl) (by kernel_rfl) (fun _ _ _ h => h) (Or.inl ⟨by rfl, ?_⟩) (by assumption) ?_
        rotate_left
        · (intro w hSw; (try dsimp only at hSw); go_simp; try with_reducible rfl)
        try simp only [Act.put, List.setIfInBounds_toArray, List.set_cons_zero, List.set_cons_succ]
        refine Till.take 4 (some 31) (v := ?_) rfl rfl (by kernel_rfl) (by kernel_rfl) (by kernel_rfl) (by kernel_rfl) (fun _ _ _ h => h) (Or.inl ⟨by rfl, ?_⟩) (by assumption) ?_
        rotate_left
        · (intro w hSw; (try dsimp only at hSw); go_simp; try with_reducible rfl)
        try simp only [Act.put, List.setIfInBounds_toArray, List.set_cons_zero, List.set_cons_succ]
        refine Till.take 5 (some 32) (v := ?_) rfl rfl (by kernel_rfl) (by kernel_rfl) (by kernel_rfl) (by kernel_rfl) (fun _ _ _ h => h) (Or.inl ⟨by rfl, ?_⟩) (by assumption) ?_
        rotate_left
        · (intro w hSw; (try dsimp only at hSw); go_simp; try with_reducible rfl)
        try simp only [Act.put, List.setIfInBounds_toArray, List.set_cons_zero, List.set_cons_succ]
        refine Till.take 6 (some 33) (v := ?_) rfl rfl (by kernel_rfl) (by kernel_rfl) (by kernel_rfl) (by kernel_rfl) (fun _ _ _ h => h) (Or.inl ⟨by rfl, ?_⟩) (by assumption) ?_
        rotate_left
        · (intro w hSw; (try dsimp only at hSw); go_simp; try with_reducible rfl)
        try simp only [Act.put, List.setIfInBounds_toArray, List.set_cons_zero, List.set_cons_succ]
        refine Till.one 7 rfl (by kernel_rfl) (fun K hK => ?_)
        go_simp
        go_at_call 137
        refine hpk.mono ?_
        rintro e wC ⟨cd, rfl, hcd, hbC⟩
        obtain ⟨pd, jd, rfl, -⟩ := id hcd
        refine hK.out _ _ (fun _ => ⟨keepC hbC hHeld.1, keepC hbC hHeld.2.1, keepC hbC hHeld.2.2.1, keepC hbC hHeld.2.2.2.1, keepC hbC hHeld.2.2.2.2.1, keepC hbC hHeld.2.2.2.2.2⟩) (fun hHeld2 => ?_)
        clear hK K
        try simp only [Act.put, List.setIfInBounds_toArray, List.set_cons_zero, List.set_cons_succ]
        have hbC2 : Below WX.heap.size WX wC := ((Below.refl _ _).drew).trans (hbC.mono (Nat.le_refl _))
        have HB3 := HB2.below hbC2 HB2.lt
        have hlX : W.heap.size < WX.heap.size := HB2.lt
        have hbF := hbX.trans (hbC2.mono hbX.size)
        have hsW := hbX.size
        refine Till.one 8 rfl (by kernel_rfl) (fun K hK => ?_)
        have e0 := HB3.cell 0 _ rfl
        have e1 := HB3.cell 1 _ rfl
        have z0 := HB3.frozen 0
        have z1 := HB3.frozen 1
        go_simp
        refine hK.out _ _ (fun h => absurd rfl h) (fun _ => ?_)
        clear hK K
        refine Till.done (by kernel_rfl) ?_ _
        try simp only [Act.put]
        have HB5 := (HB3.set 0 (.slice pd (plusE lk y x).fs.length jd)).set 1 (.int .i64 (plusE lk y x).bound)
        simp only [List.setIfInBounds_toArray, List.set_cons_zero, List.set_cons_succ] at HB5
        have HR5 : RInts (vis (W.heap.size ≤ ·) ((wC.setCell ⟨W.heap.size, 0, none⟩ (.slice pd (plusE lk y x).fs.length jd)).setCell ⟨W.heap.size, 1, none⟩ (.int .i64 (plusE lk y x).bound))) (.slice pd (plusE lk y x).fs.length jd) (plusE lk y x).fs := (hcd.mono (ext_vis_set (T := fun b => WX.heap.size ≤ b) (a := ⟨W.heap.size, 0, none⟩) (fun _ h => h) (by show ¬ WX.heap.size ≤ W.heap.size; omega))).mono (ext_vis_set (a := ⟨W.heap.size, 1, none⟩) (fun b hS => Nat.le_trans hsW hS) (by simp only; omega))
        have hbZ := (hbF.setCell (p := ⟨W.heap.size, 0, none⟩) F4 (.slice pd (plusE lk y x).fs.length jd)).setCell (p := ⟨W.heap.size, 1, none⟩) F4 (.int .i64 (plusE lk y x).bound)
        clear HB2 HB3 HRX hcd hbC hbC2 hbF hHeld hHeld2 e0 e1 z0 z1 hpk BX c1X q1X hcrX hbX hiq
        generalize (wC.setCell ⟨W.heap.size, 0, none⟩ (.slice pd (plusE lk y x).fs.length jd)).setCell ⟨W.heap.size, 1, none⟩ (.int .i64 (plusE lk y x).bound) = WZ at *
        go_wp2
        go_roundw
        case rel => exact ⟨k + 1, by omega, by go_num, by rw [HST.out]; exact ⟨_, _, HB5, HR5⟩, hbZ⟩
        case measure => simp [intOf]; omega
      · have hkk : k = L.length := by omega
        subst hkk
        generalize sumT P L s ws L.length = lk at *
        have HD := hD.below hb hD.lt
        have HDF := (HD.set 0 (.slice pq lk.fs.length jq)).set 1 (.int .i64 lk.bound)
        simp only [List.setIfInBounds_toArray, List.set_cons_zero, List.set_cons_succ] at HDF
        have hAF := (hAw.setCell (p := ⟨w.heap.size + 1 + 1, 0, none⟩) (by simp; omega) (.slice pq lk.fs.length jq)).setCell (p := ⟨w.heap.size + 1 + 1, 1, none⟩) (by simp; omega) (.int .i64 lk.bound)
        have hRF : RInts (vis (w.heap.size ≤ ·) ((wr.setCell ⟨w.heap.size + 1 + 1, 0, none⟩ (.slice pq lk.fs.length jq)).setCell ⟨w.heap.size + 1 + 1, 1, none⟩ (.int .i64 lk.bound))) (.slice pq lk.fs.length jq) lk.fs := (HR1.mono (ext_vis_set (T := fun b => W.heap.size ≤ b) (a := ⟨w.heap.size + 1 + 1, 0, none⟩) (fun _ h => h) (by simp only; omega))).mono (ext_vis_set (a := ⟨w.heap.size + 1 + 1, 1, none⟩) (fun b hS => Nat.le_trans (by omega) hS) (by simp only; omega))
        have r0 := HB1.cell 0 _ rfl
        have r1 := HB1.cell 1 _ rfl
        have s0 := HD.cell 0 _ rfl
        have s1 := HD.cell 1 _ rfl
        have y0 := HD.frozen 0
        have y1 := HD.frozen 1
        have t0 := HDF.cell 0 _ rfl
        have t1 := HDF.cell 1 _ rfl
        have HR := Lib.hid hRF
        clear hRF HB1 HR1 hb HD HDF hAw hLl hwl
        go_wp2
        exact bodyPost_ret (v := .agg #[.slice pq lk.fs.length jq, .int .i64 lk.bound]) (by simp only [results, Try.results124]; simp [go_sem, t0, t1]) rfl ⟨_, rfl, HR.out, hAF⟩

end Go.Proofs.Ytpkggjfaefkiiaa
