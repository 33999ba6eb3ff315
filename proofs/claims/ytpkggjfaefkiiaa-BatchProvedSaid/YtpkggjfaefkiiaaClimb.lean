/- climb, by its contract; no statement is proved here. -/
import Derived.Test.YtpkggjfaefkiiaaRaise2
import Derived.Outline
namespace Go.Proofs.Ytpkggjfaefkiiaa
open Go.RowKit Go.PlainAid
set_option linter.unusedVariables false

/-- a row of numbers, as a block. -/
def rowI (l : List Int) : Array Value := (l.map (Value.int .i64)).toArray
theorem rowI_set (l : List Int) (k : Nat) (x : Int) : (rowI l).setIfInBounds k (.int .i64 x) = rowI (l.set k x) := by
  unfold rowI
  rw [List.setIfInBounds_toArray, List.map_set]
theorem rowI_ints {w : World} {g n : Nat} {l : List Int} (h : Blk w g (rowI l) 3) (hn : l.length = n) (hm : n ≤ 140737488351232) (hi : ∀ y ∈ l, I64 y) : RInts w (.slice (some ⟨g, 0, none⟩) n n) l := by
  subst hn
  refine ⟨some ⟨g, 0, none⟩, _, rfl, Nat.le_refl _, ⟨by omega, hm⟩, fun i hl => ⟨g, 0, rfl, ?_⟩⟩
  rw [Nat.zero_add, Nat.mul_one]
  exact ⟨h.cell i _ (by simp [rowI, hl]), hi _ (List.getElem_mem hl)⟩
theorem rowI_vis {S : Nat → Prop} {w : World} {g n : Nat} {l : List Int} (h : Blk w g (rowI l) 3) (hS : S g) (hn : l.length = n) (hm : n ≤ 140737488351232) (hi : ∀ y ∈ l, I64 y) : RInts (vis S w) (.slice (some ⟨g, 0, none⟩) n n) l := by
  subst hn
  refine ⟨some ⟨g, 0, none⟩, _, rfl, Nat.le_refl _, ⟨by omega, hm⟩, fun i hl => ⟨g, 0, rfl, ?_⟩⟩
  rw [Nat.zero_add, Nat.mul_one]
  exact ⟨vis_cell.2 ⟨hS, h.cell i _ (by simp [rowI, hl])⟩, hi _ (List.getElem_mem hl)⟩
theorem made_rowI (n : Nat) : madeCells #[Value.int .i64 0] n = rowI (List.replicate n 0) := by
  have := toList_madeCells_one (Value.int .i64 0) n
  apply Array.toList_inj.1
  rw [this]
  simp [rowI]
theorem rowI_at (l : List Int) (k : Nat) (h : k < l.length) : ∃ o : Int, (rowI l)[k]? = some (.int .i64 o) := ⟨l[k], by simp [rowI, h]⟩
theorem w64 {ws : List Int} (h : ∀ x ∈ ws, 0 ≤ x ∧ x ≤ 1000) : ∀ y ∈ ws, I64 y := fun y hy => by have := h y hy; unfold I64; omega

def zeroW (b : Bat) : List Int := List.replicate (linesB b).length 0
theorem zero_ok {b : Bat} (hb : OkB b) {s : Int} (hs : 0 ≤ s ∧ s ≤ 1000000) : PfOk (psB b) (linesB b) s (zeroW b) :=
  pf_ok hb hs (fun x hx => by rw [List.eq_of_mem_replicate hx]; omega) (by simp [zeroW])

/-- what stands between two changes of weights. -/
def CInv (b : Bat) (s : Int) (w W1 : World) (ws : List Int) (wr : World) : Prop :=
  PfOk (psB b) (linesB b) s ws ∧ worthE b s (zeroW b) ≤ worthE b s ws ∧ Blk wr (w.heap.size + 1 + 1) (rowI ws) 3 ∧ Blk wr (w.heap.size + 1 + 1 + 1) #[.int .i64 s, .slice (some ⟨w.heap.size + 1 + 1, 0, none⟩) (linesB b).length (linesB b).length] 42 ∧ Below (w.heap.size + 1 + 1) W1 wr
def ClimbIs (b : Bat) (s : Int) (w : World) (e : Ending) (w' : World) : Prop :=
  ∃ (p : Option Addr) (k : Nat) (ws : List Int), e = .returned (.tuple #[.agg #[.int .i64 s, .slice p ws.length k], .int .i64 (worthE b s ws)]) ∧ PfOk (psB b) (linesB b) s ws ∧ worthE b s (zeroW b) ≤ worthE b s ws ∧ RInts (vis (w.heap.size ≤ ·) w') (.slice p ws.length k) ws ∧ Below w.heap.size w w'

set_option maxHeartbeats 8000000 in
set_option maxRecDepth 100000 in
theorem climb_any (b : Bat) (hb : OkB b) (s : Int) (hs : 0 ≤ s ∧ s ≤ 1000000) (vp : Value) (w : World) (hvp : VPr w vp (linesB b) (psB b) (lsB b) (msB b)) :
    Calls Try.prog 91 #[vp, .int .i64 s] w (ClimbIs b s w) := by
  have hm := hb.mt
  have hz := zero_ok hb hs
  have hn39 := hz.n
  obtain ⟨hs0, hs1⟩ := hs
  obtain ⟨pl, jl, pp, jp, pa, ja, pm, jm, rfl, hL, -, -, -⟩ := hvp.ex
  have hmk := fun w => run_make_row' (P := Try.prog) 37 3 (.int .i64 0) 8 Try.underlying37 info_int rfl .i64 .i64 (linesB b).length (by omega) (by omega) w
  have hn0 : (0 : Int) ≤ ((linesB b).length : Int) := Int.natCast_nonneg _
  have hn1 : ((linesB b).length : Int) ≤ 39 := by omega
  obtain ⟨W4, hW4⟩ : ∃ W4 : World, W4 = (((w.alloc (.cells #[.slice pl (linesB b).length jl, .slice pp (psB b).length jp, .slice pa (lsB b).length ja, .slice pm (msB b).length jm] 107)).alloc (.cells #[.int .i64 0, .slice none 0 0] 42)).alloc (.cells (madeCells #[Value.int .i64 0] (linesB b).length) 3)).alloc (.cells #[.int .i64 s, .slice (some ⟨w.heap.size + 1 + 1, 0, none⟩) (linesB b).length (linesB b).length] 42) := ⟨_, rfl⟩
  have hA : Below w.heap.size w W4 := by subst hW4; go_grown
  have BV : Blk W4 w.heap.size #[.slice pl (linesB b).length jl, .slice pp (psB b).length jp, .slice pa (lsB b).length ja, .slice pm (msB b).length jm] 107 := by subst hW4; exact (((Blk.new _ _ _).alloc _).alloc _).alloc _
  have BR : Blk W4 (w.heap.size + 1) #[.int .i64 0, .slice none 0 0] 42 := by
    subst hW4
    have := ((Blk.new (w.alloc (.cells #[.slice pl (linesB b).length jl, .slice pp (psB b).length jp, .slice pa (lsB b).length ja, .slice pm (msB b).length jm] 107)) #[.int .i64 0, .slice none 0 0] 42).alloc (.cells (madeCells #[Value.int .i64 0] (linesB b).length) 3)).alloc (.cells #[.int .i64 s, .slice (some ⟨w.heap.size + 1 + 1, 0, none⟩) (linesB b).length (linesB b).length] 42)
    simpa using this
  have BG : Blk W4 (w.heap.size + 1 + 1) (rowI (zeroW b)) 3 := by
    subst hW4
    have := (Blk.new ((w.alloc (.cells #[.slice pl (linesB b).length jl, .slice pp (psB b).length jp, .slice pa (lsB b).length ja, .slice pm (msB b).length jm] 107)).alloc (.cells #[.int .i64 0, .slice none 0 0] 42)) (madeCells #[Value.int .i64 0] (linesB b).length) 3).alloc (.cells #[.int .i64 s, .slice (some ⟨w.heap.size + 1 + 1, 0, none⟩) (linesB b).length (linesB b).length] 42)
    unfold zeroW
    rw [← made_rowI]
    simpa using this
  have BPb : Blk W4 (w.heap.size + 1 + 1 + 1) #[.int .i64 s, .slice (some ⟨w.heap.size + 1 + 1, 0, none⟩) (linesB b).length (linesB b).length] 42 := by
    subst hW4
    have := Blk.new (((w.alloc (.cells #[.slice pl (linesB b).length jl, .slice pp (psB b).length jp, .slice pa (lsB b).length ja, .slice pm (msB b).length jm] 107)).alloc (.cells #[.int .i64 0, .slice none 0 0] 42)).alloc (.cells (madeCells #[Value.int .i64 0] (linesB b).length) 3)) #[.int .i64 s, .slice (some ⟨w.heap.size + 1 + 1, 0, none⟩) (linesB b).length (linesB b).length] 42
    simpa using this
  have hzW : w.heap.size + 1 + 1 + 1 < W4.heap.size := BPb.lt
  go_enter Try.func91, Try.ntmps91
  go_wp2_with fail
  rw [← hW4]
  clear hW4 hmk
  have hwt := worth_any _ b s _ (zeroW b) W4 (hvp.mono (ext_of_below hA)) (rowI_ints (n := (linesB b).length) BG (by simp [zeroW]) (by omega) (w64 hz.hw)) hb hz
  refine hwt.mono ?_
  rintro e W5 ⟨rfl, hb5⟩
  have BV5 := BV.more hb5
  have BR5 := BR.more hb5
  have BG5 := BG.more hb5
  have BP5 := BPb.more hb5
  have hA5 := hA.trans (hb5.mono hA.size)
  have hz5 : w.heap.size + 1 + 1 + 1 < W5.heap.size := BP5.lt
  have hI5 : CInv b s w W5 (zeroW b) W5 := ⟨hz, Int.le_refl _, BG5, BP5, Below.refl _ _⟩
  clear BV BR BG BPb hA hb5 hwt hzW BG5 BP5
  go_wp2
  go_loopw [7, 23] (fun mv rv wr => ∃ (r : Nat) (ws : List Int), r ≤ 4 ∧ rv = .int .i64 (r : Int) ∧ mv = .int .i64 (worthE b s ws) ∧ CInv b s w W5 ws wr) (fun _ rv _ => 4 - (intOf rv).toNat)
  case atStart => exact ⟨0, zeroW b, by omega, rfl, rfl, hI5⟩
  case round =>
    obtain ⟨r, ws, hr, rfl, rfl, hI⟩ := hrel
    clear hI5
    by_cases hr4 : r < 4
    · obtain ⟨hk, hge, BG, BPb, hbr⟩ := id hI
      have BVr := BV5.below hbr (by omega)
      have s0 := BVr.cell 0 _ rfl
      have hr4' : (r : Int) < 4 := by omega
      have hr0 : (0 : Int) ≤ (r : Int) := Int.natCast_nonneg _
      clear BG BPb
      go_wp2
      clear s0
      go_loopw [7, 29] (fun mv iv wr => ∃ (i : Nat) (ws : List Int), i ≤ (linesB b).length ∧ iv = .int .i64 (i : Int) ∧ mv = .int .i64 (worthE b s ws) ∧ CInv b s w W5 ws wr) (fun _ iv _ => (linesB b).length - (intOf iv).toNat)
      case atStart => exact ⟨0, ws, by omega, rfl, rfl, hI⟩
      case round =>
        clear hI hk hge hbr BVr
        obtain ⟨i, ws2, hi, rfl, rfl, hI⟩ := hrel
        by_cases hin : i < (linesB b).length
        · have hin' : (i : Int) < ((linesB b).length : Int) := by omega
          have hi0 : (0 : Int) ≤ (i : Int) := Int.natCast_nonneg _
          go_wp2
          go_loopw [7, 33] (fun mv jv wr => ∃ (j : Nat) (ws : List Int), j ≤ i ∧ jv = .int .i64 (j : Int) ∧ mv = .int .i64 (worthE b s ws) ∧ CInv b s w W5 ws wr) (fun _ jv _ => i - (intOf jv).toNat)
          case atStart => exact ⟨0, ws2, by omega, rfl, rfl, hI⟩
          case round =>
            clear hI
            obtain ⟨j, ws3, hj, rfl, rfl, hI⟩ := hrel
            obtain ⟨hk, hge, BG, BPb, hbr⟩ := hI
            by_cases hjn : j < i
            · have hjn' : (j : Int) < (i : Int) := by omega
              have hj0 : (0 : Int) ≤ (j : Int) := Int.natCast_nonneg _
              have BVr := BV5.below hbr (by omega)
              have s0 := BVr.cell 0 _ rfl
              have s1 := BVr.cell 1 _ rfl
              have s2 := BVr.cell 2 _ rfl
              have s3 := BVr.cell 3 _ rfl
              have p0 := BPb.cell 0 _ rfl
              have p1 := BPb.cell 1 _ rfl
              have hAr := hA5.trans (hbr.mono (by omega))
              have hra := raise_any b hb s ws3 hk i j hin hjn _ _ wr (hvp.mono (ext_of_below hAr)) (rowI_ints (n := (linesB b).length) BG hk.len (by omega) (w64 hk.hw))
              go_wp2_with fail
              refine hra.mono ?_
              rintro e w6 ⟨x, y, rfl, hx, hy, hb6⟩
              have BG6 := BG.more hb6
              have BP6 := BPb.more hb6
              have hb6' := hbr.trans (hb6.mono (by have := hbr.size; omega))
              have hkS : PfOk (psB b) (linesB b) s (set2 ws3 i j x y) := (hk.set i x hx).set j y hy
              clear s0 s1 s2 s3 p0 p1 hra hb6 hbr BG BPb BVr hAr
              have HKS := Lib.hid hkS
              have HK := Lib.hid hk
              have hwl : ws3.length = (linesB b).length := hk.len
              have HWL := Lib.hid hwl
              clear hkS hk hwl
              by_cases hc : worthE b s ws3 ≤ worthE b s (set2 ws3 i j x y)
              · have hge2 : worthE b s (zeroW b) ≤ worthE b s (set2 ws3 i j x y) := by omega
                have HGE := Lib.hid hge2
                clear hge hge2
                obtain ⟨oi, hoi⟩ := rowI_at ws3 i (by rw [HWL.out]; exact hin)
                obtain ⟨oj, hoj⟩ := rowI_at (ws3.set i x) j (by rw [List.length_set, HWL.out]; omega)
                have hset1 := rowI_set ws3 i x
                have hset2 : (rowI (ws3.set i x)).setIfInBounds j (.int .i64 y) = rowI (set2 ws3 i j x y) := rowI_set (ws3.set i x) j y
                have BD : Blk w6 (w.heap.size + 1 + 1) (rowI ws3) 3 := BG6
                have B1 := BD.set i (.int .i64 x)
                rw [hset1] at B1
                have B2 := B1.set j (.int .i64 y)
                rw [hset2] at B2
                have c1 := BD.cell i _ hoi
                have c2 := B1.cell j _ hoj
                have z1 := BD.frozen i
                have z2 := B1.frozen j
                have p0 := BP6.cell 0 _ rfl
                have p1 := BP6.cell 1 _ rfl
                have hn1' : (i : Int) < ((linesB b).length : Int) := by omega
                have hn2' : (j : Int) < ((linesB b).length : Int) := by omega
                have hbF : Below (w.heap.size + 1 + 1) W5 ((w6.setCell ⟨w.heap.size + 1 + 1, i, none⟩ (.int .i64 x)).setCell ⟨w.heap.size + 1 + 1, j, none⟩ (.int .i64 y)) := (hb6'.setCell (p := ⟨_, i, none⟩) (Nat.le_refl _) _).setCell (p := ⟨_, j, none⟩) (Nat.le_refl _) _
                have BPF : Blk ((w6.setCell ⟨w.heap.size + 1 + 1, i, none⟩ (.int .i64 x)).setCell ⟨w.heap.size + 1 + 1, j, none⟩ (.int .i64 y)) (w.heap.size + 1 + 1 + 1) #[.int .i64 s, .slice (some ⟨w.heap.size + 1 + 1, 0, none⟩) (linesB b).length (linesB b).length] 42 := by
                  unfold Blk at *
                  rw [Below.heap_setCell _ _ _ _ (by simp), Below.heap_setCell _ _ _ _ (by simp)]
                  exact BP6
                have q0 := BPF.cell 0 _ rfl
                have q1 := BPF.cell 1 _ rfl
                have hIF : CInv b s w W5 (set2 ws3 i j x y) ((w6.setCell ⟨w.heap.size + 1 + 1, i, none⟩ (.int .i64 x)).setCell ⟨w.heap.size + 1 + 1, j, none⟩ (.int .i64 y)).drew := ⟨HKS.out, HGE.out, B2, BPF, hbF.drew⟩
                clear hset1 hset2 hoi hoj BD B1 B2 hbF BPF hb6' BG6
                generalize worthE b s ws3 = m0 at *
                generalize hm1 : worthE b s (set2 ws3 i j x y) = m1 at *
                have HM1 := Lib.hid hm1
                clear hm1
                go_wp2
                have P1 : Blk (w6.setCell ⟨w.heap.size + 1 + 1, i, none⟩ (.int .i64 x)) (w.heap.size + 1 + 1 + 1) #[.int .i64 s, .slice (some ⟨w.heap.size + 1 + 1, 0, none⟩) (linesB b).length (linesB b).length] 42 := by
                  unfold Blk at *
                  rw [Below.heap_setCell _ _ _ _ (by simp)]
                  exact BP6
                have o0 := P1.cell 0 _ rfl
                have o1 := P1.cell 1 _ rfl
                clear P1 BP6
                refine wp_region_till (fun w' => w'.cell? ⟨w.heap.size + 1 + 1 + 1, 0, none⟩ = some (.int .i64 s) ∧ w'.cell? ⟨w.heap.size + 1 + 1 + 1, 1, none⟩ = some (.slice (some ⟨w.heap.size + 1 + 1, 0, none⟩) (linesB b).length (linesB b).length)) 99 (by kernel_rfl) ⟨p0, p1⟩ (fun hHeld => ?_)
                refine Till.take 0 (some 48) (v := ?_) rfl rfl (by kernel_rfl) (by kernel_rfl) (by kernel_rfl) (by kernel_rfl) (fun _ _ _ h => h) (Or.inl ⟨by rfl, ?_⟩) (by assumption) ?_
                rotate_left
                · (intro w hSw; (try dsimp only at hSw); go_simp; try with_reducible rfl)
                try simp only [Act.put, List.setIfInBounds_toArray, List.set_cons_zero, List.set_cons_succ]
                refine Till.take 1 (some 49) (v := ?_) rfl rfl (by kernel_rfl) (by kernel_rfl) (by kernel_rfl) (by kernel_rfl) (fun _ _ _ h => h) (Or.inl ⟨by rfl, ?_⟩) (by assumption) ?_
                rotate_left
                · (intro w hSw; (try dsimp only at hSw); go_simp; try with_reducible rfl)
                try simp only [Act.put, List.setIfInBounds_toArray, List.set_cons_zero, List.set_cons_succ]
                refine Till.take 2 (some 50) (v := ?_) rfl rfl (by kernel_rfl) (by kernel_rfl) (by kernel_rfl) (by kernel_rfl) (fun _ _ _ h => h) (Or.inl ⟨by rfl, ?_⟩) (by assumption) ?_
                rotate_left
                · (intro w hSw; (try dsimp only at hSw); go_simp; try with_reducible rfl)
                try simp only [Act.put, List.setIfInBounds_toArray, List.set_cons_zero, List.set_cons_succ]
                refine Till.take 3 (some 51) (v := ?_) rfl rfl (by kernel_rfl) (by kernel_rfl) (by kernel_rfl) (by kernel_rfl) (fun _ _ _ h => h) (Or.inl ⟨by rfl, ?_⟩) (by assumption) ?_
                rotate_left
                · (intro w hSw; (try dsimp only at hSw); go_simp; try with_reducible rfl)
                try simp only [Act.put, List.setIfInBounds_toArray, List.set_cons_zero, List.set_cons_succ]
                refine Till.take 4 (some 52) (v := ?_) rfl rfl (by kernel_rfl) (by kernel_rfl) (by kernel_rfl) (by kernel_rfl) (fun _ _ _ h => h) (Or.inl ⟨by rfl, ?_⟩) (by assumption) ?_
                rotate_left
                · (intro w hSw; (try dsimp only at hSw); go_simp; try with_reducible rfl)
                try simp only [Act.put, List.setIfInBounds_toArray, List.set_cons_zero, List.set_cons_succ]
                refine Till.take 5 (some 53) (v := ?_) rfl rfl (by kernel_rfl) (by kernel_rfl) (by kernel_rfl) (by kernel_rfl) (fun _ _ _ h => h) (Or.inl ⟨by rfl, ?_⟩) (by assumption) ?_
                rotate_left
                · (intro w hSw; (try dsimp only at hSw); go_simp; try with_reducible rfl)
                try simp only [Act.put, List.setIfInBounds_toArray, List.set_cons_zero, List.set_cons_succ]
                refine Till.take 6 (some 54) (v := ?_) rfl rfl (by kernel_rfl) (by kernel_rfl) (by kernel_rfl) (by kernel_rfl) (fun _ _ _ h => h) (Or.inl ⟨by rfl, ?_⟩) (by assumption) ?_
                rotate_left
                · (intro w hSw; (try dsimp only at hSw); go_simp; try with_reducible rfl)
                try simp only [Act.put, List.setIfInBounds_toArray, List.set_cons_zero, List.set_cons_succ]
                refine Till.take 7 (some 55) (v := ?_) rfl rfl (by kernel_rfl) (by kernel_rfl) (by kernel_rfl) (by kernel_rfl) (fun _ _ _ h => h) (Or.inl ⟨by rfl, ?_⟩) (by assumption) ?_
                rotate_left
                · (intro w hSw; (try dsimp only at hSw); go_simp; try with_reducible rfl)
                try simp only [Act.put, List.setIfInBounds_toArray, List.set_cons_zero, List.set_cons_succ]
                refine Till.take 8 (some 56) (v := ?_) rfl rfl (by kernel_rfl) (by kernel_rfl) (by kernel_rfl) (by kernel_rfl) (fun _ _ _ h => h) (Or.inl ⟨by rfl, ?_⟩) (by assumption) ?_
                rotate_left
                · (intro w hSw; (try dsimp only at hSw); go_simp; try with_reducible rfl)
                try simp only [Act.put, List.setIfInBounds_toArray, List.set_cons_zero, List.set_cons_succ]
                refine Till.take 9 (some 57) (v := ?_) rfl rfl (by kernel_rfl) (by kernel_rfl) (by kernel_rfl) (by kernel_rfl) (fun _ _ _ h => h) (Or.inl ⟨by rfl, ?_⟩) (by assumption) ?_
                rotate_left
                · (intro w hSw; (try dsimp only at hSw); go_simp; try with_reducible rfl)
                try simp only [Act.put, List.setIfInBounds_toArray, List.set_cons_zero, List.set_cons_succ]
                refine Till.one 10 rfl (by kernel_rfl) (fun K hK => ?_)
                go_simp
                refine hK.out _ _ (fun _ => ⟨o0, o1⟩) (fun hHeld2 => ?_)
                clear hK K
                have hoo := (⟨o0, o1⟩ : _ ∧ _)
                refine Till.take 11 (some 58) (v := ?_) rfl rfl (by kernel_rfl) (by kernel_rfl) (by kernel_rfl) (by kernel_rfl) (fun _ _ _ h => h) (Or.inl ⟨by rfl, ?_⟩) (by assumption) ?_
                rotate_left
                · (intro w hSw; (try dsimp only at hSw); go_simp; try with_reducible rfl)
                try simp only [Act.put, List.setIfInBounds_toArray, List.set_cons_zero, List.set_cons_succ]
                refine Till.one 12 rfl (by kernel_rfl) (fun K hK => ?_)
                go_simp
                refine hK.out _ _ (fun _ => ⟨q0, q1⟩) (fun hHeld3 => ?_)
                clear hK K
                have hqq := (⟨q0, q1⟩ : _ ∧ _)
                refine Till.take 13 (some 7) (v := ?_) rfl rfl (by kernel_rfl) (by kernel_rfl) (by kernel_rfl) (by kernel_rfl) (fun _ _ _ h => h) (Or.inl ⟨by rfl, ?_⟩) (by assumption) ?_
                rotate_left
                · (intro w hSw; (try dsimp only at hSw); go_simp; try with_reducible rfl)
                try simp only [Act.put, List.setIfInBounds_toArray, List.set_cons_zero, List.set_cons_succ]
                refine Till.done (by kernel_rfl) ?_ _
                clear hHeld hHeld2 hHeld3 hqq hoo q0 q1 o0 o1 p0 p1 c1 c2 z1 z2
                go_wp2
                go_roundw
                case rel => exact ⟨j + 1, set2 ws3 i j x y, by omega, by go_num, by rw [HM1.out], hIF⟩
                case measure => simp [intOf]; omega
              · have hc' : worthE b s (set2 ws3 i j x y) < worthE b s ws3 := by omega
                have hIF : CInv b s w W5 ws3 w6 := ⟨HK.out, hge, BG6, BP6, hb6'⟩
                clear hc hge BG6 BP6 hb6'
                generalize hm0 : worthE b s ws3 = m0 at *
                have HM0 := Lib.hid hm0
                clear hm0
                generalize worthE b s (set2 ws3 i j x y) = m1 at *
                go_wp2
                go_roundw
                case rel => exact ⟨j + 1, ws3, by omega, by go_num, by rw [HM0.out], hIF⟩
                case measure => simp [intOf]; omega
            · have dj : decide (j < i) = false := decide_eq_false hjn
              have hIF : CInv b s w W5 ws3 wr := ⟨hk, hge, BG, BPb, hbr⟩
              clear hk hge BG BPb hbr
              generalize hm0 : worthE b s ws3 = m0 at *
              have HM0 := Lib.hid hm0
              clear hm0
              go_wp2
              go_roundw
              case rel => exact ⟨i + 1, ws3, by omega, by go_num, by rw [HM0.out], hIF⟩
              case measure => simp [intOf]; omega
        · have di : decide (i < (linesB b).length) = false := decide_eq_false hin
          generalize hm0 : worthE b s ws = m0 at *
          have HM0 := Lib.hid hm0
          clear hm0
          have HI := Lib.hid hI
          clear hI
          by_cases he : worthE b s ws2 = m0
          · have d1 : (m0 == m0) = true := by simp
            have HE := Lib.hid he
            rw [he]
            clear he
            obtain ⟨hkE, hgeE, BGE, BPE, hbE⟩ := HI.out
            have hwl : ws2.length = (linesB b).length := hkE.len
            have BRr := BR5.below hbE (by omega)
            have hAE := hA5.trans (hbE.mono (by omega))
            have x0 := BRr.cell 0 _ rfl
            have x1 := BRr.cell 1 _ rfl
            have y0 := BRr.frozen 0
            have y1 := BRr.frozen 1
            have p0 := BPE.cell 0 _ rfl
            have p1 := BPE.cell 1 _ rfl
            have HWE := Lib.hid hwl
            clear hwl
            go_wp2
            have BF : Blk ((wr.setCell ⟨w.heap.size + 1, 0, none⟩ (.int .i64 s)).setCell ⟨w.heap.size + 1, 1, none⟩ (.slice (some ⟨w.heap.size + 1 + 1, 0, none⟩) (linesB b).length (linesB b).length)) (w.heap.size + 1) #[.int .i64 s, .slice (some ⟨w.heap.size + 1 + 1, 0, none⟩) (linesB b).length (linesB b).length] 42 := by simpa using (BRr.set 0 (.int .i64 s)).set 1 (.slice (some ⟨w.heap.size + 1 + 1, 0, none⟩) (linesB b).length (linesB b).length)
            have BGF : Blk ((wr.setCell ⟨w.heap.size + 1, 0, none⟩ (.int .i64 s)).setCell ⟨w.heap.size + 1, 1, none⟩ (.slice (some ⟨w.heap.size + 1 + 1, 0, none⟩) (linesB b).length (linesB b).length)) (w.heap.size + 1 + 1) (rowI ws2) 3 := by
              unfold Blk at *
              rw [Below.heap_setCell _ _ _ _ (by simp), Below.heap_setCell _ _ _ _ (by simp)]
              exact BGE
            have hFE : Below w.heap.size w ((wr.setCell ⟨w.heap.size + 1, 0, none⟩ (.int .i64 s)).setCell ⟨w.heap.size + 1, 1, none⟩ (.slice (some ⟨w.heap.size + 1 + 1, 0, none⟩) (linesB b).length (linesB b).length)) := (hAE.setCell (p := ⟨w.heap.size + 1, 0, none⟩) (Nat.le_succ _) _).setCell (p := ⟨w.heap.size + 1, 1, none⟩) (Nat.le_succ _) _
            generalize (wr.setCell ⟨w.heap.size + 1, 0, none⟩ (.int .i64 s)).setCell ⟨w.heap.size + 1, 1, none⟩ (.slice (some ⟨w.heap.size + 1 + 1, 0, none⟩) (linesB b).length (linesB b).length) = WF at *
            have t0 := BF.cell 0 _ rfl
            have t1 := BF.cell 1 _ rfl
            refine bodyPost_ret (v := .tuple #[.agg #[.int .i64 s, .slice (some ⟨w.heap.size + 1 + 1, 0, none⟩) (linesB b).length (linesB b).length], .int .i64 m0]) (by simp only [results, Try.results91]; simp [go_sem, t0, t1]) rfl ?_
            exact ⟨some ⟨w.heap.size + 1 + 1, 0, none⟩, (linesB b).length, ws2, by rw [HWE.out]; rw [HE.out], hkE, hgeE, by rw [HWE.out]; exact rowI_vis (n := (linesB b).length) BGF (by show w.heap.size ≤ w.heap.size + 1 + 1; omega) HWE.out (by omega) (w64 hkE.hw), hFE⟩
          · generalize hm1 : worthE b s ws2 = m1 at *
            have HM1 := Lib.hid hm1
            have d1 : (m1 == m0) = false := by simp [he]
            clear hm1 he
            go_wp2
            go_roundw
            case rel => exact ⟨r + 1, ws2, by omega, by go_num, by rw [HM1.out], HI.out⟩
            case measure => simp [intOf]; omega
    · have dr : ¬ (r : Int) < 4 := by omega
      have HI := Lib.hid hI
      clear hI hr4
      generalize hm0 : worthE b s ws = m0 at *
      have HE := Lib.hid hm0
      clear hm0
      obtain ⟨hkE, hgeE, BGE, BPE, hbE⟩ := HI.out
      have hwl : ws.length = (linesB b).length := hkE.len
      have BRr := BR5.below hbE (by omega)
      have hAE := hA5.trans (hbE.mono (by omega))
      have x0 := BRr.cell 0 _ rfl
      have x1 := BRr.cell 1 _ rfl
      have y0 := BRr.frozen 0
      have y1 := BRr.frozen 1
      have p0 := BPE.cell 0 _ rfl
      have p1 := BPE.cell 1 _ rfl
      have HWE := Lib.hid hwl
      clear hwl
      go_wp2
      have BF : Blk ((wr.setCell ⟨w.heap.size + 1, 0, none⟩ (.int .i64 s)).setCell ⟨w.heap.size + 1, 1, none⟩ (.slice (some ⟨w.heap.size + 1 + 1, 0, none⟩) (linesB b).length (linesB b).length)) (w.heap.size + 1) #[.int .i64 s, .slice (some ⟨w.heap.size + 1 + 1, 0, none⟩) (linesB b).length (linesB b).length] 42 := by simpa using (BRr.set 0 (.int .i64 s)).set 1 (.slice (some ⟨w.heap.size + 1 + 1, 0, none⟩) (linesB b).length (linesB b).length)
      have BGF : Blk ((wr.setCell ⟨w.heap.size + 1, 0, none⟩ (.int .i64 s)).setCell ⟨w.heap.size + 1, 1, none⟩ (.slice (some ⟨w.heap.size + 1 + 1, 0, none⟩) (linesB b).length (linesB b).length)) (w.heap.size + 1 + 1) (rowI ws) 3 := by
        unfold Blk at *
        rw [Below.heap_setCell _ _ _ _ (by simp), Below.heap_setCell _ _ _ _ (by simp)]
        exact BGE
      have hFE : Below w.heap.size w ((wr.setCell ⟨w.heap.size + 1, 0, none⟩ (.int .i64 s)).setCell ⟨w.heap.size + 1, 1, none⟩ (.slice (some ⟨w.heap.size + 1 + 1, 0, none⟩) (linesB b).length (linesB b).length)) := (hAE.setCell (p := ⟨w.heap.size + 1, 0, none⟩) (Nat.le_succ _) _).setCell (p := ⟨w.heap.size + 1, 1, none⟩) (Nat.le_succ _) _
      generalize (wr.setCell ⟨w.heap.size + 1, 0, none⟩ (.int .i64 s)).setCell ⟨w.heap.size + 1, 1, none⟩ (.slice (some ⟨w.heap.size + 1 + 1, 0, none⟩) (linesB b).length (linesB b).length) = WF at *
      have t0 := BF.cell 0 _ rfl
      have t1 := BF.cell 1 _ rfl
      refine bodyPost_ret (v := .tuple #[.agg #[.int .i64 s, .slice (some ⟨w.heap.size + 1 + 1, 0, none⟩) (linesB b).length (linesB b).length], .int .i64 m0]) (by simp only [results, Try.results91]; simp [go_sem, t0, t1]) rfl ?_
      exact ⟨some ⟨w.heap.size + 1 + 1, 0, none⟩, (linesB b).length, ws, by rw [HWE.out]; rw [HE.out], hkE, hgeE, by rw [HWE.out]; exact rowI_vis (n := (linesB b).length) BGF (by show w.heap.size ≤ w.heap.size + 1 + 1; omega) HWE.out (by omega) (w64 hkE.hw), hFE⟩

end Go.Proofs.Ytpkggjfaefkiiaa
