/- newProver, by its contract; no statement is proved here. -/
import Derived.Test.YtpkggjfaefkiiaaProv3
namespace Go.Proofs.Ytpkggjfaefkiiaa
open Go.RowKit Go.PlainAid
set_option linter.unusedVariables false

def mTo (b : Bat) (k : Nat) : List Int := (List.range b.mats.length).map fun i => if i < k then (msB b).getD i 0 else (lsB b).getD i 0
theorem mTo_len (b : Bat) (k : Nat) : (mTo b k).length = b.mats.length := by simp [mTo]
theorem mTo_zero (b : Bat) : mTo b 0 = lsB b := by
  apply List.ext_getElem
  · simp [mTo, lsB]
  intro i h1 h2
  simp [mTo, List.getElem?_eq_getElem h2]
theorem mTo_all (b : Bat) : mTo b b.mats.length = msB b := by
  apply List.ext_getElem
  · simp [mTo, msB]
  intro i h1 h2
  have h3 : i < b.mats.length := by simpa [mTo] using h1
  simp [mTo, h3, List.getElem?_eq_getElem h2]
theorem mTo_at (b : Bat) (k : Nat) (h : k < (mTo b k).length) (hk : k < b.mats.length) : (mTo b k)[k] = (b.mats[k]).least := by
  simp [mTo, lsB, List.getD, List.getElem?_eq_getElem hk]
theorem mTo_set (b : Bat) (k : Nat) (hk : k < b.mats.length) : (mTo b k).set k (mostE b.mats[k]) = mTo b (k + 1) := by
  apply List.ext_getElem
  · simp [mTo]
  intro q h1 h2
  by_cases hq : q = k
  · subst hq
    simp [mTo, msB, List.getD, List.getElem?_eq_getElem hk]
  · rw [List.getElem_set_ne (by omega)]
    simp only [mTo, List.getElem_map, List.getElem_range]
    by_cases hj : q < k
    · rw [if_pos hj, if_pos (by omega)]
    · rw [if_neg hj, if_neg (by omega)]

/-- a block without numbers is not among what is read. -/
theorem not_in {w : World} {k : Nat} {cs : Array Value} {t : TypeId} (hB : Blk w k cs t) (hcs : ∀ (i : Nat) (n : Int), cs[i]? ≠ some (.int .i64 n)) {p : Addr} {n : Int} (h : w.cell? p = some (.int .i64 n)) : p.block ≠ k := by
  obtain ⟨blk, off, spot⟩ := p
  have hs : spot = none := World.cell?_spot h
  subst hs
  intro e
  simp only at e
  subst e
  unfold Blk at hB
  have h2 : w.cell? ⟨blk, off, none⟩ = cs[off]? := by simp [World.cell?, hB]
  rw [h2] at h
  exact hcs _ _ h
theorem ints_hide {w : World} {k : Nat} {cs : Array Value} {t : TypeId} (hB : Blk w k cs t) (hcs : ∀ (i : Nat) (n : Int), cs[i]? ≠ some (.int .i64 n)) {v : Value} {l : List Int} (h : RInts w v l) : RInts (vis (· ≠ k) w) v l :=
  RSl.mono h fun p x _ h1 => ⟨vis_cell.2 ⟨not_in hB hcs h1.1, h1.1⟩, h1.2⟩
theorem lns_hide {w : World} {k : Nat} {cs : Array Value} {t : TypeId} (hB : Blk w k cs t) (hcs : ∀ (i : Nat) (n : Int), cs[i]? ≠ some (.int .i64 n)) {v : Value} {l : List Ln} (h : RLns w v l) : RLns (vis (· ≠ k) w) v l :=
  RSl.mono h fun p x _ ⟨c, u, h1, h2, h3, h4, h5⟩ => by
    subst h4
    have hp : p.block ≠ k := not_in (p := ⟨p.block, p.off + 1, none⟩) hB hcs h2
    exact ⟨c, _, vis_cell.2 ⟨hp, h1⟩, vis_cell.2 ⟨hp, h2⟩, ints_hide hB hcs h3, rfl, h5⟩

def RetPr (w : World) (b : Bat) (e : Ending) (w' : World) : Prop := ∃ v, e = .returned v ∧ VPr w' v (linesB b) (psB b) (lsB b) (msB b) ∧ Below w.heap.size w w'

set_option maxHeartbeats 4000000 in
set_option maxRecDepth 100000 in
theorem newProver_any (vb : Value) (b : Bat) (w : World) (h : RBat w vb b) (hk : OkB b) :
    Calls Try.prog 87 #[vb] w (RetPr w b) := by
  obtain ⟨v0, v1, v2, v3, rfl, h0, h1, h2, h3, i1, i2, i3⟩ := id h
  obtain ⟨a0, k0, rfl, -, ⟨-, l0⟩, -⟩ := h0
  obtain ⟨a1, k1, rfl, -, ⟨-, l1⟩, hl⟩ := id h1
  obtain ⟨a2, k2, rfl, -, ⟨-, l2⟩, -⟩ := h2
  obtain ⟨a3, k3, rfl, -, ⟨-, l3⟩, -⟩ := h3
  clear h1
  have hmt := hk.mt
  obtain ⟨W, hW⟩ : ∃ W : World, W = (w.alloc (.cells #[.slice a0 b.oxides.length k0, .slice a1 b.mats.length k1, .slice a2 b.shares.length k2, .slice a3 b.props.length k3, .int .i64 b.redox.lo, .int .i64 b.redox.hi, .int .i64 b.wanted] 29)).alloc (.cells #[.slice none 0 0, .slice none 0 0, .slice none 0 0, .slice none 0 0] 107) := ⟨_, rfl⟩
  have hA : Below w.heap.size w W := by subst hW; go_grown
  have hB : Blk W w.heap.size #[.slice a0 b.oxides.length k0, .slice a1 b.mats.length k1, .slice a2 b.shares.length k2, .slice a3 b.props.length k3, .int .i64 b.redox.lo, .int .i64 b.redox.hi, .int .i64 b.wanted] 29 := by subst hW; exact (Blk.new _ _ _).alloc _
  have hC : Blk W (w.heap.size + 1) #[.slice none 0 0, .slice none 0 0, .slice none 0 0, .slice none 0 0] 107 := by
    subst hW
    have := Blk.new (w.alloc (.cells #[.slice a0 b.oxides.length k0, .slice a1 b.mats.length k1, .slice a2 b.shares.length k2, .slice a3 b.props.length k3, .int .i64 b.redox.lo, .int .i64 b.redox.hi, .int .i64 b.wanted] 29)) #[.slice none 0 0, .slice none 0 0, .slice none 0 0, .slice none 0 0] 107
    simpa using this
  have hlr := leastsRow_any _ b W (h.mono (ext_of_below hA)) (by omega) (fun m hm => by have := (hk.mats m hm).least; unfold I64; omega)
  have f0 := hB.cell 0 _ rfl
  have f1 := hB.cell 1 _ rfl
  have f2 := hB.cell 2 _ rfl
  have f3 := hB.cell 3 _ rfl
  have f4 := hB.cell 4 _ rfl
  have f5 := hB.cell 5 _ rfl
  have f6 := hB.cell 6 _ rfl
  go_enter Try.func87, Try.ntmps87
  go_wp2_with fail
  rw [← hW]
  clear hW
  go_wp2_with fail
  refine hlr.mono ?_
  rintro e w1 ⟨v', rfl, hown, hb1⟩
  obtain ⟨pv, jv, rfl⟩ := own_slice hown
  have hA1 := hA.trans (hb1.mono hA.size)
  have hB1 := hB.below hb1 hB.lt
  have hC1 := hC.below hb1 hC.lt
  have hsz : w.heap.size + 1 < W.heap.size := hC.lt
  have hs1 : W.heap.size ≤ w1.heap.size := hb1.size
  rw [List.length_map, show b.mats.map Mat.least = mTo b 0 from (mTo_zero b).symm] at hown
  simp only [List.length_map]
  clear hlr hA hB hC hb1 f0 f1 f2 f3 f4 f5 f6
  have r1 := hB1.cell 1 _ rfl
  go_wp2
  clear r1
  go_loopw [11] (fun i wr => ∃ (k : Nat), k ≤ b.mats.length ∧ i = .int .i64 k ∧ wr.ownsRow W.heap.size 3 1 (.slice pv b.mats.length jv) b.mats.length ((mTo b k).map (Value.int .i64)) ∧ Below W.heap.size w1 wr) (fun i _ => b.mats.length - (intOf i).toNat)
  case atStart => exact ⟨0, Nat.zero_le _, rfl, hown, Below.refl _ _⟩
  case round =>
    clear hown
    obtain ⟨k, hk2, rfl, hown, hb⟩ := hrel
    have hAw := hA1.trans (hb.mono (by omega))
    have hsr := hb.size
    by_cases hlt : k < b.mats.length
    · obtain ⟨b1, o1, rfl, c, ⟨g0, g1, g2, g3, g4, g5, g6⟩, hc, hs⟩ := hl k hlt
      obtain ⟨ac, kc, rfl, -, -, -⟩ := id hc
      have hmo := hk.mats _ (List.getElem_mem hlt)
      have hmost := most_ok hmo
      have hset := mTo_set b k hlt
      have hjl : k < (mTo b k).length := by rw [mTo_len]; exact hlt
      have hold := mTo_at b k hjl hlt
      simp only at g0 g1 g2 g3 g4 g5 g6
      have e1 := ext_of_below hAw
      replace g0 := e1 _ _ g0
      replace g1 := e1 _ _ g1
      replace g2 := e1 _ _ g2
      replace g3 := e1 _ _ g3
      replace g4 := e1 _ _ g4
      replace g5 := e1 _ _ g5
      replace g6 := e1 _ _ g6
      replace hc := hc.mono e1
      rcases own_cells hown with ⟨-, hx0⟩ | ⟨g, cap, hv, -⟩
      · omega
      simp only [Value.slice.injEq, true_and] at hv
      obtain ⟨rfl, rfl⟩ := hv
      have hgb : W.heap.size ≤ g ∧ g < wr.heap.size := hown.lt g rfl
      have hle := hmo.least
      have hst := hmo.step
      have hmx := hmo.most
      clear hl e1 h
      generalize b.mats[k]'hlt = m at *
      go_wp2_with fail
      have hX := below_box wr (.cells #[.string m.name, .int .i64 m.price, .int .i64 m.redox, .int .i64 m.least, .int .i64 m.most, .int .i64 m.step, .slice ac m.content.length kc] 68)
      have BX := Blk.new wr #[.string m.name, .int .i64 m.price, .int .i64 m.redox, .int .i64 m.least, .int .i64 m.most, .int .i64 m.step, .slice ac m.content.length kc] 68
      have hown2 := own_below hown hX (own_lt hown)
      have hbX := hb.trans (hX.mono (by omega))
      have hVM : VMat (wr.alloc (.cells #[.string m.name, .int .i64 m.price, .int .i64 m.redox, .int .i64 m.least, .int .i64 m.most, .int .i64 m.step, .slice ac m.content.length kc] 68)) (.agg #[.string m.name, .int .i64 m.price, .int .i64 m.redox, .int .i64 m.least, .int .i64 m.most, .int .i64 m.step, .slice ac m.content.length kc]) m := ⟨_, rfl, hc.mono (ext_of_below hX), hs⟩
      clear hX g0 g1 g2 g3 g4 g5 g6 hown hc hb hAw
      obtain ⟨hgb1, hgb2⟩ := hgb
      have hgx : g < (wr.alloc (.cells #[.string m.name, .int .i64 m.price, .int .i64 m.redox, .int .i64 m.least, .int .i64 m.most, .int .i64 m.step, .slice ac m.content.length kc] 68)).heap.size := by simp; omega
      have hsx : W.heap.size ≤ (wr.alloc (.cells #[.string m.name, .int .i64 m.price, .int .i64 m.redox, .int .i64 m.least, .int .i64 m.most, .int .i64 m.step, .slice ac m.content.length kc] 68)).heap.size := by simp; omega
      generalize wr.alloc (.cells #[.string m.name, .int .i64 m.price, .int .i64 m.redox, .int .i64 m.least, .int .i64 m.most, .int .i64 m.step, .slice ac m.content.length kc] 68) = WX at *
      generalize wr.heap.size = nx at *
      have u0 := hown2.cellAt k (by omega)
      rw [List.getElem?_map, List.getElem?_eq_getElem hjl, hold, Option.map_some] at u0
      have hstp := steps_any (.agg #[.string m.name, .int .i64 m.price, .int .i64 m.redox, .int .i64 m.least, .int .i64 m.most, .int .i64 m.step, .slice ac m.content.length kc]) m WX.drew (hVM.mono (ext_drew _)) _ hmo
      have w1i : IntKind.i64.wrap (stepsE m * m.step) = stepsE m * m.step := IntWalk.i64_in _ (by omega)
      have w2i : IntKind.i64.wrap (m.least + stepsE m * m.step) = mostE m := by rw [IntWalk.i64_in _ (by omega)]; rfl
      refine wp_region_till (fun w' => w'.cell? ⟨g, k, none⟩ = some (.int .i64 m.least) ∧ w'.cell? ⟨nx, 0, none⟩ = some (.string m.name) ∧ w'.cell? ⟨nx, 1, none⟩ = some (.int .i64 m.price) ∧ w'.cell? ⟨nx, 2, none⟩ = some (.int .i64 m.redox) ∧ w'.cell? ⟨nx, 3, none⟩ = some (.int .i64 m.least) ∧ w'.cell? ⟨nx, 4, none⟩ = some (.int .i64 m.most) ∧ w'.cell? ⟨nx, 5, none⟩ = some (.int .i64 m.step) ∧ w'.cell? ⟨nx, 6, none⟩ = some (.slice ac m.content.length kc)) 11 (by kernel_rfl) ⟨u0, BX.cell 0 _ rfl, BX.cell 1 _ rfl, BX.cell 2 _ rfl, BX.cell 3 _ rfl, BX.cell 4 _ rfl, BX.cell 5 _ rfl, BX.cell 6 _ rfl⟩ (fun hHeld => ?_)
      refine Till.take 0 (some 16) (v := ?_) rfl rfl (by kernel_rfl) (by kernel_rfl) (by kernel_rfl) (by kernel_rfl) (fun _ _ _ h => h) (Or.inl ⟨by rfl, ?_⟩) (by assumption) ?_
      rotate_left
      · (intro w hSw; (try dsimp only at hSw); go_simp; try with_reducible rfl)
      try simp only [Act.put, List.setIfInBounds_toArray, List.set_cons_zero, List.set_cons_succ]
      refine Till.take 1 (some 17) (v := ?_) rfl rfl (by kernel_rfl) (by kernel_rfl) (by kernel_rfl) (by kernel_rfl) (fun _ _ _ h => h) (Or.inl ⟨by rfl, ?_⟩) (by assumption) ?_
      rotate_left
      · (intro w hSw; (try dsimp only at hSw); go_simp; try with_reducible rfl)
      try simp only [Act.put, List.setIfInBounds_toArray, List.set_cons_zero, List.set_cons_succ]
      refine Till.take 2 (some 18) (v := ?_) rfl rfl (by kernel_rfl) (by kernel_rfl) (by kernel_rfl) (by kernel_rfl) (fun _ _ _ h => h) (Or.inl ⟨by rfl, ?_⟩) (by assumption) ?_
      rotate_left
      · (intro w hSw; (try dsimp only at hSw); go_simp; try with_reducible rfl)
      try simp only [Act.put, List.setIfInBounds_toArray, List.set_cons_zero, List.set_cons_succ]
      refine Till.take 3 (some 19) (v := ?_) rfl rfl (by kernel_rfl) (by kernel_rfl) (by kernel_rfl) (by kernel_rfl) (fun _ _ _ h => h) (Or.inl ⟨by rfl, ?_⟩) (by assumption) ?_
      rotate_left
      · (intro w hSw; (try dsimp only at hSw); go_simp; try with_reducible rfl)
      try simp only [Act.put, List.setIfInBounds_toArray, List.set_cons_zero, List.set_cons_succ]
      refine Till.take 4 (some 20) (v := ?_) rfl rfl (by kernel_rfl) (by kernel_rfl) (by kernel_rfl) (by kernel_rfl) (fun _ _ _ h => h) (Or.inl ⟨by rfl, ?_⟩) (by assumption) ?_
      rotate_left
      · (intro w hSw; (try dsimp only at hSw); go_simp; try with_reducible rfl)
      try simp only [Act.put, List.setIfInBounds_toArray, List.set_cons_zero, List.set_cons_succ]
      refine Till.take 6 (some 22) (v := ?_) rfl rfl (by kernel_rfl) (by kernel_rfl) (by kernel_rfl) (by kernel_rfl) (fun _ _ _ h => h) (Or.inl ⟨by rfl, ?_⟩) (by assumption) ?_
      rotate_left
      · (intro w hSw; (try dsimp only at hSw); go_simp; try with_reducible rfl)
      try simp only [Act.put, List.setIfInBounds_toArray, List.set_cons_zero, List.set_cons_succ]
      refine Till.take 7 (some 23) (v := ?_) rfl rfl (by kernel_rfl) (by kernel_rfl) (by kernel_rfl) (by kernel_rfl) (fun _ _ _ h => h) (Or.inl ⟨by rfl, ?_⟩) (by assumption) ?_
      rotate_left
      · (intro w hSw; (try dsimp only at hSw); go_simp; try with_reducible rfl)
      try simp only [Act.put, List.setIfInBounds_toArray, List.set_cons_zero, List.set_cons_succ]
      refine Till.one 5 rfl (by kernel_rfl) (fun K hK => ?_)
      go_simp
      go_at_call 118
      refine hstp.mono ?_
      rintro e wC ⟨rfl, hbC⟩
      refine hK.out _ _ (fun _ => ⟨keepC hbC hHeld.1, keepC hbC hHeld.2.1, keepC hbC hHeld.2.2.1, keepC hbC hHeld.2.2.2.1, keepC hbC hHeld.2.2.2.2.1, keepC hbC hHeld.2.2.2.2.2.1, keepC hbC hHeld.2.2.2.2.2.2.1, keepC hbC hHeld.2.2.2.2.2.2.2⟩) (fun hHeld2 => ?_)
      clear hK K
      try simp only [Act.put, List.setIfInBounds_toArray, List.set_cons_zero, List.set_cons_succ]
      have hbC2 : Below WX.heap.size WX wC := ((Below.refl _ _).drew).trans (hbC.mono (Nat.le_refl _))
      have hown3 := own_below hown2 hbC2 (own_lt hown2)
      have hbF := hbX.trans (hbC2.mono (by omega))
      refine Till.one 8 rfl (by kernel_rfl) (fun K hK => ?_)
      go_simp
      refine hK.out _ _ (fun _ => hHeld2 (by decide)) (fun hHeld3 => ?_)
      clear hK K
      try simp only [Act.put, List.setIfInBounds_toArray, List.set_cons_zero, List.set_cons_succ]
      refine Till.one 9 rfl (by kernel_rfl) (fun K hK => ?_)
      go_simp
      refine hK.out _ _ (fun _ => hHeld2 (by decide)) (fun hHeld4 => ?_)
      clear hK K
      try simp only [Act.put, List.setIfInBounds_toArray, List.set_cons_zero, List.set_cons_succ]
      have n1 : (0 : Int) ≤ (k : Int) := Int.natCast_nonneg _
      have n2 : (k : Int) < (b.mats.length : Int) := by omega
      refine Till.one 10 rfl (by kernel_rfl) (fun K hK => ?_)
      go_simp
      refine hK.out _ _ (fun _ => hHeld2 (by decide)) (fun hHeld5 => ?_)
      clear hK K
      try simp only [Act.put, List.setIfInBounds_toArray, List.set_cons_zero, List.set_cons_succ]
      have e0 := hown3.cellAt k (by omega)
      rw [List.getElem?_map, List.getElem?_eq_getElem hjl, hold, Option.map_some] at e0
      have z0 := hown3.frozenAt k
      refine Till.one 11 rfl (by kernel_rfl) (fun K hK => ?_)
      go_simp
      refine hK.out _ _ (fun h => absurd rfl h) (fun _ => ?_)
      clear hK K
      refine Till.done (by kernel_rfl) ?_ _
      try simp only [Act.put]
      have hownS := (hown3.stored k (.int .i64 (mostE m))).1
      rw [← List.map_set, hset] at hownS
      have hbS := hbF.setCell (p := ⟨g, k, none⟩) hgb1 (.int .i64 (mostE m))
      clear hown2 hown3 hbC hbC2 hbF hHeld hHeld2 hHeld3 hHeld4 hHeld5 e0 z0 u0 hset hold BX hVM hstp w1i w2i hbX hmo hmost hs
      generalize wC.setCell ⟨g, k, none⟩ (.int .i64 (mostE m)) = WZ at *
      go_wp2
      go_roundw
      case rel => exact ⟨k + 1, by omega, by go_num, hownS, hbS⟩
      case measure => simp [intOf]; omega
    · rw [show k = b.mats.length by omega, mTo_all] at hown
      have HB := hB1.below hb (by omega)
      have HC := hC1.below hb (by omega)
      have dk : decide (k < b.mats.length) = false := decide_eq_false hlt
      have f0 := HB.cell 0 _ rfl
      have f1 := HB.cell 1 _ rfl
      have f2 := HB.cell 2 _ rfl
      have f3 := HB.cell 3 _ rfl
      have f4 := HB.cell 4 _ rfl
      have f5 := HB.cell 5 _ rfl
      have f6 := HB.cell 6 _ rfl
      have hbat := fun (V : World) (e : Below wr.heap.size wr V) => h.mono ((ext_of_below hAw).trans (ext_of_below e))
      have hli := fun V e => lines_ok _ b V (hbat V e) hk
      have hpr := fun V e => prices_any _ b V (hbat V e) (by omega) (fun m hm => by have := (hk.mats m hm).price; unfold I64; omega)
      have hle := fun V e => leasts_any _ b V (hbat V e) (by omega) (fun m hm => by have := (hk.mats m hm).least; unfold I64; omega)
      have hI : Below wr.heap.size wr wr.drew := (Below.refl _ _).drew
      clear hl hbat
      go_wp2_with fail
      refine wp_region_till (fun w' => w'.cell? ⟨w.heap.size, 0, none⟩ = some (.slice a0 b.oxides.length k0) ∧ w'.cell? ⟨w.heap.size, 1, none⟩ = some (.slice a1 b.mats.length k1) ∧ w'.cell? ⟨w.heap.size, 2, none⟩ = some (.slice a2 b.shares.length k2) ∧ w'.cell? ⟨w.heap.size, 3, none⟩ = some (.slice a3 b.props.length k3) ∧ w'.cell? ⟨w.heap.size, 4, none⟩ = some (.int .i64 b.redox.lo) ∧ w'.cell? ⟨w.heap.size, 5, none⟩ = some (.int .i64 b.redox.hi) ∧ w'.cell? ⟨w.heap.size, 6, none⟩ = some (.int .i64 b.wanted)) 8 (by kernel_rfl) ⟨f0, f1, f2, f3, f4, f5, f6⟩ (fun hHeld => ?_)
      refine Till.take 0 (some 28) (v := ?_) rfl rfl (by kernel_rfl) (by kernel_rfl) (by kernel_rfl) (by kernel_rfl) (fun _ _ _ h => h) (Or.inl ⟨by rfl, ?_⟩) (by assumption) ?_
      rotate_left
      · (intro w hSw; (try dsimp only at hSw); go_simp; try with_reducible rfl)
      try simp only [Act.put, List.setIfInBounds_toArray, List.set_cons_zero, List.set_cons_succ]
      refine Till.take 2 (some 30) (v := ?_) rfl rfl (by kernel_rfl) (by kernel_rfl) (by kernel_rfl) (by kernel_rfl) (fun _ _ _ h => h) (Or.inl ⟨by rfl, ?_⟩) (by assumption) ?_
      rotate_left
      · (intro w hSw; (try dsimp only at hSw); go_simp; try with_reducible rfl)
      try simp only [Act.put, List.setIfInBounds_toArray, List.set_cons_zero, List.set_cons_succ]
      refine Till.take 4 (some 32) (v := ?_) rfl rfl (by kernel_rfl) (by kernel_rfl) (by kernel_rfl) (by kernel_rfl) (fun _ _ _ h => h) (Or.inl ⟨by rfl, ?_⟩) (by assumption) ?_
      rotate_left
      · (intro w hSw; (try dsimp only at hSw); go_simp; try with_reducible rfl)
      try simp only [Act.put, List.setIfInBounds_toArray, List.set_cons_zero, List.set_cons_succ]
      refine Till.take 6 (some 34) (v := ?_) rfl rfl (by kernel_rfl) (by kernel_rfl) (by kernel_rfl) (by kernel_rfl) (fun _ _ _ h => h) (Or.inl ⟨by rfl, ?_⟩) (by assumption) ?_
      rotate_left
      · (intro w hSw; (try dsimp only at hSw); go_simp; try with_reducible rfl)
      try simp only [Act.put, List.setIfInBounds_toArray, List.set_cons_zero, List.set_cons_succ]
      refine Till.one 1 rfl (by kernel_rfl) (fun K hK => ?_)
      go_simp
      go_at_call 48
      refine (hli _ hI).mono ?_
      rintro e wL ⟨vl, rfl, hvl, hbL⟩
      obtain ⟨pl, jl, rfl, -⟩ := id hvl
      refine hK.out _ _ (fun _ => ⟨keepC hbL hHeld.1, keepC hbL hHeld.2.1, keepC hbL hHeld.2.2.1, keepC hbL hHeld.2.2.2.1, keepC hbL hHeld.2.2.2.2.1, keepC hbL hHeld.2.2.2.2.2.1, keepC hbL hHeld.2.2.2.2.2.2⟩) (fun hHeld2 => ?_)
      clear hK K
      try simp only [Act.put, List.setIfInBounds_toArray, List.set_cons_zero, List.set_cons_succ]
      have BL := hI.trans (hbL.mono hI.size)
      refine Till.one 3 rfl (by kernel_rfl) (fun K hK => ?_)
      go_simp
      go_at_call 80
      refine (hpr _ BL).mono ?_
      rintro e wP ⟨vp, rfl, hvp, hbP⟩
      obtain ⟨pp, jp, rfl, -⟩ := id hvp
      refine hK.out _ _ (fun _ => ⟨keepC hbP (hHeld2 (by decide)).1, keepC hbP (hHeld2 (by decide)).2.1, keepC hbP (hHeld2 (by decide)).2.2.1, keepC hbP (hHeld2 (by decide)).2.2.2.1, keepC hbP (hHeld2 (by decide)).2.2.2.2.1, keepC hbP (hHeld2 (by decide)).2.2.2.2.2.1, keepC hbP (hHeld2 (by decide)).2.2.2.2.2.2⟩) (fun hHeld3 => ?_)
      clear hK K
      try simp only [Act.put, List.setIfInBounds_toArray, List.set_cons_zero, List.set_cons_succ]
      have BP := BL.trans (hbP.mono BL.size)
      refine Till.one 5 rfl (by kernel_rfl) (fun K hK => ?_)
      go_simp
      go_at_call 119
      refine (hle _ BP).mono ?_
      rintro e wZ ⟨va, rfl, hva, hbZ⟩
      obtain ⟨pa, ja, rfl, -⟩ := id hva
      refine hK.out _ _ (fun _ => ⟨keepC hbZ (hHeld3 (by decide)).1, keepC hbZ (hHeld3 (by decide)).2.1, keepC hbZ (hHeld3 (by decide)).2.2.1, keepC hbZ (hHeld3 (by decide)).2.2.2.1, keepC hbZ (hHeld3 (by decide)).2.2.2.2.1, keepC hbZ (hHeld3 (by decide)).2.2.2.2.2.1, keepC hbZ (hHeld3 (by decide)).2.2.2.2.2.2⟩) (fun hHeld4 => ?_)
      clear hK K
      try simp only [Act.put, List.setIfInBounds_toArray, List.set_cons_zero, List.set_cons_succ]
      have BZ := BP.trans (hbZ.mono BP.size)
      refine Till.one 7 rfl (by kernel_rfl) (fun K hK => ?_)
      go_simp
      refine hK.out _ _ (fun _ => hHeld4 (by decide)) (fun hHeld5 => ?_)
      clear hK K
      try simp only [Act.put, List.setIfInBounds_toArray, List.set_cons_zero, List.set_cons_succ]
      have HCZ := HC.below BZ HC.lt
      have hownZ := own_below hown BZ (own_lt hown)
      have hAZ := hAw.trans (BZ.mono hAw.size)
      have e0 := HCZ.cell 0 _ rfl
      have e1 := HCZ.cell 1 _ rfl
      have e2 := HCZ.cell 2 _ rfl
      have e3 := HCZ.cell 3 _ rfl
      have z0 := HCZ.frozen 0
      have z1 := HCZ.frozen 1
      have z2 := HCZ.frozen 2
      have z3 := HCZ.frozen 3
      have hno : ∀ (i : Nat) (n : Int), (#[Value.slice none 0 0, .slice none 0 0, .slice none 0 0, .slice none 0 0] : Array Value)[i]? ≠ some (.int .i64 n) := by
        intro i n hh
        rcases i with _ | _ | _ | _ | i
        · simp at hh
        · simp at hh
        · simp at hh
        · simp at hh
        · simp at hh
      have q1 := lns_hide HCZ hno (hvl.mono ((ext_of_below hbP).trans (ext_of_below hbZ)))
      have q2 := ints_hide HCZ hno ((hvp.mono (vis_ext _ _)).mono (ext_of_below hbZ))
      have q3 := ints_hide HCZ hno (hva.mono (vis_ext _ _))
      have hRM := own_RInts (w := wZ) (l := msB b) (by rw [show (msB b).length = b.mats.length by simp [msB]]; exact hownZ) (by simp [msB]; omega) (by
        intro x hx
        obtain ⟨m, hm, rfl⟩ := List.mem_map.1 hx
        have h1 := most_ok (hk.mats m hm)
        have h2 := (hk.mats m hm).least
        unfold I64
        omega)
      have q4 := ints_hide HCZ hno hRM
      have hset := fun (v0 v1 v2 v3 : Value) => (((ext_vis_set (S := fun x => x ≠ w.heap.size + 1) (T := fun x => x ≠ w.heap.size + 1) (w := wZ) (a := ⟨w.heap.size + 1, 0, none⟩) (v := v0) (fun _ h => h) (by simp)).trans (ext_vis_set (S := fun x => x ≠ w.heap.size + 1) (T := fun x => x ≠ w.heap.size + 1) (a := ⟨w.heap.size + 1, 1, none⟩) (v := v1) (fun _ h => h) (by simp))).trans (ext_vis_set (S := fun x => x ≠ w.heap.size + 1) (T := fun x => x ≠ w.heap.size + 1) (a := ⟨w.heap.size + 1, 2, none⟩) (v := v2) (fun _ h => h) (by simp))).trans ((ext_vis_set (S := fun x => x ≠ w.heap.size + 1) (T := fun x => x ≠ w.heap.size + 1) (a := ⟨w.heap.size + 1, 3, none⟩) (v := v3) (fun _ h => h) (by simp)).trans (vis_ext _ _))
      have hfin := fun (v0 v1 v2 v3 : Value) => (((hAZ.setCell (p := ⟨w.heap.size + 1, 0, none⟩) (by simp) v0).setCell (p := ⟨w.heap.size + 1, 1, none⟩) (by simp) v1).setCell (p := ⟨w.heap.size + 1, 2, none⟩) (by simp) v2).setCell (p := ⟨w.heap.size + 1, 3, none⟩) (by simp) v3
      have HDF := fun (v0 v1 v2 v3 : Value) => (((HCZ.set 0 v0).set 1 v1).set 2 v2).set 3 v3
      simp only [List.setIfInBounds_toArray, List.set_cons_zero, List.set_cons_succ] at HDF
      refine Till.one 8 rfl (by kernel_rfl) (fun K hK => ?_)
      go_simp
      refine hK.out _ _ (fun h => absurd rfl h) (fun _ => ?_)
      clear hK K
      refine Till.done (by kernel_rfl) ?_ _
      try simp only [Act.put]
      clear hHeld hHeld2 hHeld3 hHeld4 hHeld5 e0 e1 e2 e3 z0 z1 z2 z3
      have HD := HDF (.slice pl (linesB b).length jl) (.slice pp (b.mats.map Mat.price).length jp) (.slice pa (b.mats.map Mat.least).length ja) (.slice pv b.mats.length jv)
      have d0 := HD.cell 0 _ rfl
      have d1 := HD.cell 1 _ rfl
      have d2 := HD.cell 2 _ rfl
      have d3 := HD.cell 3 _ rfl
      have hE := hset (.slice pl (linesB b).length jl) (.slice pp (b.mats.map Mat.price).length jp) (.slice pa (b.mats.map Mat.least).length ja) (.slice pv b.mats.length jv)
      have hF := hfin (.slice pl (linesB b).length jl) (.slice pp (b.mats.map Mat.price).length jp) (.slice pa (b.mats.map Mat.least).length ja) (.slice pv b.mats.length jv)
      have R1 := q1.mono hE
      have R2 := q2.mono hE
      have R3 := q3.mono hE
      have R4 := q4.mono hE
      clear HDF hset hfin HD hE q1 q2 q3 q4 hRM hvl hvp hva hown hownZ HB HC HCZ hAZ hAw f0 f1 f2 f3 f4 f5 f6
      have e1 : (b.mats.map Mat.price).length = (psB b).length := rfl
      simp only [List.length_map] at d0 d1 d2 d3 R1 R2 R3 R4 hF ⊢
      generalize (((wZ.setCell ⟨w.heap.size + 1, 0, none⟩ (.slice pl (linesB b).length jl)).setCell ⟨w.heap.size + 1, 1, none⟩ (.slice pp b.mats.length jp)).setCell ⟨w.heap.size + 1, 2, none⟩ (.slice pa b.mats.length ja)).setCell ⟨w.heap.size + 1, 3, none⟩ (.slice pv b.mats.length jv) = WF at *
      go_wp2
      refine bodyPost_ret (v := .agg #[.slice pl (linesB b).length jl, .slice pp b.mats.length jp, .slice pa b.mats.length ja, .slice pv b.mats.length jv]) (by simp only [results, Try.results87]; simp [go_sem, d0, d1, d2, d3]) rfl ⟨_, rfl, ⟨⟨pl, jl, pp, jp, pa, ja, pv, jv, by simp [psB, lsB, msB], R1, by simpa [psB] using R2, by simpa [lsB] using R3, by simpa [msB] using R4⟩⟩, hF⟩

end Go.Proofs.Ytpkggjfaefkiiaa

namespace Go.Proofs.Ytpkggjfaefkiiaa
open Go.RowKit Go.PlainAid
set_option linter.unusedVariables false

def boundB (b : Bat) (s : Int) (ws : List Int) : Int × Bool × Int :=
  if checkB b = 0 then
    if (0 ≤ s ∧ s ≤ 1000000) ∧ allBetweenB ws (linesB b).length 0 1000 = true then
      if s = 0 then (0, decide (0 < worthE b s ws), 0) else (-(-(worthE b s ws) / s), false, 0)
    else (0, false, 1)
  else (0, false, checkB b)

def RetNBE (w : World) (p : Int × Bool × Int) (e : Ending) (w' : World) : Prop := e = .returned (.tuple #[.int .i64 p.1, .bool p.2.1, .int .i64 p.2.2]) ∧ Below w.heap.size w w'

theorem allB_iff {ws : List Int} {n : Nat} (h : allBetweenB ws n 0 1000 = true) : ws.length = n ∧ ∀ x ∈ ws, 0 ≤ x ∧ x ≤ 1000 := allBetween_iff h

set_option maxHeartbeats 1000000 in
set_option maxRecDepth 100000 in
theorem bound_any (vb : Value) (b : Bat) (s : Int) (vw : Value) (ws : List Int) (w : World) (h : RBat w vb b) (hw : RInts w vw ws) :
    Calls Try.prog 41 #[vb, .agg #[.int .i64 s, vw]] w (RetNBE w (boundB b s ws)) := by
  obtain ⟨a0, k0, a1, k1, a2, k2, a3, k3, rfl⟩ := h.agg
  obtain ⟨pw, jw, rfl, -, ⟨-, lw⟩, -⟩ := id hw
  obtain ⟨W, hW⟩ : ∃ W : World, W = (w.alloc (.cells #[.slice a0 b.oxides.length k0, .slice a1 b.mats.length k1, .slice a2 b.shares.length k2, .slice a3 b.props.length k3, .int .i64 b.redox.lo, .int .i64 b.redox.hi, .int .i64 b.wanted] 29)).alloc (.cells #[.int .i64 s, .slice pw ws.length jw] 42) := ⟨_, rfl⟩
  have hA : Below w.heap.size w W := by subst hW; go_grown
  have hB : Blk W w.heap.size #[.slice a0 b.oxides.length k0, .slice a1 b.mats.length k1, .slice a2 b.shares.length k2, .slice a3 b.props.length k3, .int .i64 b.redox.lo, .int .i64 b.redox.hi, .int .i64 b.wanted] 29 := by subst hW; exact (Blk.new _ _ _).alloc _
  have hC : Blk W (w.heap.size + 1) #[.int .i64 s, .slice pw ws.length jw] 42 := by
    subst hW
    have := Blk.new (w.alloc (.cells #[.slice a0 b.oxides.length k0, .slice a1 b.mats.length k1, .slice a2 b.shares.length k2, .slice a3 b.props.length k3, .int .i64 b.redox.lo, .int .i64 b.redox.hi, .int .i64 b.wanted] 29)) #[.int .i64 s, .slice pw ws.length jw] 42
    simpa using this
  go_enter Try.func41, Try.ntmps41
  go_wp2_with fail
  rw [← hW]
  clear hW
  have f0 := hB.cell 0 _ rfl
  have f1 := hB.cell 1 _ rfl
  have f2 := hB.cell 2 _ rfl
  have f3 := hB.cell 3 _ rfl
  have f4 := hB.cell 4 _ rfl
  have f5 := hB.cell 5 _ rfl
  have f6 := hB.cell 6 _ rfl
  refine (check_any _ b W (h.mono (ext_of_below hA))).mono ?_
  rintro e w1 ⟨rfl, hb1⟩
  have hA1 := hA.trans (hb1.mono hA.size)
  have hB1 := hB.below hb1 hB.lt
  have hC1 := hC.below hb1 hC.lt
  clear hA hB hC hb1 f0 f1 f2 f3 f4 f5 f6
  by_cases e1 : checkB b = 0
  case neg =>
    have e1' : (checkB b != 0) = true := by simp [e1]
    have hfin := Lib.hid (show boundB b s ws = (0, false, checkB b) by simp [boundB, e1])
    clear hB1 hC1 e1
    go_wp2
    refine bodyPost_ret (v := .tuple #[.int .i64 0, .bool false, .int .i64 (checkB b)]) (by simp only [results, Try.results41]; simp [go_sem]) rfl ?_
    unfold RetNBE
    rw [hfin.out]
    exact ⟨rfl, hA1⟩
  have e1' : (checkB b != 0) = false := by simp [e1]
  have hok := ok_of e1
  have hsz : w.heap.size + 1 < w1.heap.size := hC1.lt
  have f0 := hB1.cell 0 _ rfl
  have f1 := hB1.cell 1 _ rfl
  have f2 := hB1.cell 2 _ rfl
  have f3 := hB1.cell 3 _ rfl
  have f4 := hB1.cell 4 _ rfl
  have f5 := hB1.cell 5 _ rfl
  have f6 := hB1.cell 6 _ rfl
  have E1 := Lib.hid e1
  clear e1
  go_wp2_with fail
  refine (newProver_any _ b w1 (h.mono (ext_of_below hA1)) hok).mono ?_
  rintro e w2 ⟨vp, rfl, hvp, hb2⟩
  obtain ⟨pl, jl, pp, jp, pa, ja, pm, jm, rfl, -, -, -, -⟩ := id hvp.ex
  have hA2 := hA1.trans (hb2.mono hA1.size)
  have hC2 := hC1.below hb2 hC1.lt
  have hdd : w.heap.size + 1 < w2.heap.size := hC2.lt
  have hX := below_box w2 (.cells #[.slice pl (linesB b).length jl, .slice pp (psB b).length jp, .slice pa (lsB b).length ja, .slice pm (msB b).length jm] 107)
  have hD := Blk.new w2 #[.slice pl (linesB b).length jl, .slice pp (psB b).length jp, .slice pa (lsB b).length ja, .slice pm (msB b).length jm] 107
  have hC3 := hC2.alloc (.cells #[.slice pl (linesB b).length jl, .slice pp (psB b).length jp, .slice pa (lsB b).length ja, .slice pm (msB b).length jm] 107)
  have hA3 := hA2.trans (hX.mono hA2.size)
  have hvp3 := hvp.mono (ext_of_below hX)
  have c0 := hC3.cell 0 _ rfl
  have c1 := hC3.cell 1 _ rfl
  have d0 := hD.cell 0 _ rfl
  have d1 := hD.cell 1 _ rfl
  have d2 := hD.cell 2 _ rfl
  have d3 := hD.cell 3 _ rfl
  clear hb2 hX hA1 hA2 hB1 hC1 hC2 hvp f0 f1 f2 f3 f4 f5 f6
  by_cases hs : 0 ≤ s ∧ s ≤ 1000000
  case neg =>
    have hfin := Lib.hid (show boundB b s ws = (0, false, 1) by unfold boundB; rw [if_pos E1.out, if_neg (fun x => hs x.1)])
    have hbt : (decide (0 ≤ s) && decide (s ≤ 1000000)) = false := by
      rw [Bool.eq_false_iff]
      intro x
      simp only [Bool.and_eq_true, decide_eq_true_eq] at x
      exact hs x
    have hbw := fun V => between_any s 0 1000000 V
    simp only [hbt] at hbw
    clear hs hbt
    go_wp2_with fail
    refine (hbw _).mono ?_
    rintro e w' ⟨rfl, rfl⟩
    go_wp2
    refine bodyPost_ret (v := .tuple #[.int .i64 0, .bool false, .int .i64 1]) (by simp only [results, Try.results41]; simp [go_sem]) rfl ?_
    unfold RetNBE
    rw [hfin.out]
    exact ⟨rfl, hA3⟩
  have hbt : (decide (0 ≤ s) && decide (s ≤ 1000000)) = true := by simp [hs.1, hs.2]
  have hbw := fun V => between_any s 0 1000000 V
  simp only [hbt] at hbw
  clear hbt
  go_wp2_with fail
  refine (hbw _).mono ?_
  rintro e w' ⟨rfl, rfl⟩
  have hwW := hw.mono (ext_of_below hA3)
  clear hbw
  by_cases hab : allBetweenB ws (linesB b).length 0 1000 = true
  case neg =>
    have hab' : allBetweenB ws (linesB b).length 0 1000 = false := by simpa using hab
    have hfin := Lib.hid (show boundB b s ws = (0, false, 1) by unfold boundB; rw [if_pos E1.out, if_neg (fun x => hab x.2)])
    have hal := fun V hV => allBetween_any (.slice pw ws.length jw) ws (linesB b).length 0 1000 V hV
    simp only [hab'] at hal
    clear hab hab'
    go_wp2_with fail
    refine (hal _ hwW).mono ?_
    rintro e w4 ⟨rfl, hb4⟩
    have hA4 := hA3.trans (hb4.mono hA3.size)
    clear hb4 hal c0 c1 d0 d1 d2 d3
    go_wp2
    refine bodyPost_ret (v := .tuple #[.int .i64 0, .bool false, .int .i64 1]) (by simp only [results, Try.results41]; simp [go_sem]) rfl ?_
    unfold RetNBE
    rw [hfin.out]
    exact ⟨rfl, hA4⟩
  have hal := fun V hV => allBetween_any (.slice pw ws.length jw) ws (linesB b).length 0 1000 V hV
  simp only [hab] at hal
  obtain ⟨g1, g2⟩ := allB_iff hab
  have hpf := pf_ok hok hs g2 g1
  have hwb := worth_bd hok hpf
  have hfin := Lib.hid (show boundB b s ws = if s = 0 then (0, decide (0 < worthE b s ws), 0) else (-(-(worthE b s ws) / s), false, 0) by unfold boundB; rw [if_pos E1.out, if_pos ⟨hs, hab⟩])
  have HPF := Lib.hid hpf
  clear g1 g2 hab hpf
  go_wp2_with fail
  refine (hal _ hwW).mono ?_
  rintro e w4 ⟨rfl, hb4⟩
  have hA4 := hA3.trans (hb4.mono hA3.size)
  have hC4 := hC3.below hb4 hC3.lt
  have hD4 := hD.below hb4 hD.lt
  have hv4 := hvp3.mono (ext_of_below hb4)
  have hw4 := hwW.mono (ext_of_below hb4)
  clear hb4 hal c0 c1 d0 d1 d2 d3 hC3 hD hA3 hvp3 hwW
  have c0 := hC4.cell 0 _ rfl
  have c1 := hC4.cell 1 _ rfl
  have d0 := hD4.cell 0 _ rfl
  have d1 := hD4.cell 1 _ rfl
  have d2 := hD4.cell 2 _ rfl
  have d3 := hD4.cell 3 _ rfl
  generalize w2.heap.size = nd at *
  go_wp2_with fail
  refine (worth_any _ b s _ ws w4 hv4 hw4 hok HPF.out).mono ?_
  rintro e w5 ⟨rfl, hb5⟩
  have hA5 := hA4.trans (hb5.mono hA4.size)
  have hC5 := hC4.below hb5 hC4.lt
  clear hb5 c0 c1 d0 d1 d2 d3 hC4 hD4 hv4 hw4 hA4
  have c0 := hC5.cell 0 _ rfl
  generalize worthE b s ws = m at *
  obtain ⟨m1, m2⟩ := hwb
  by_cases hs0 : s = 0
  · subst hs0
    clear hC5
    go_wp2
    refine bodyPost_ret (v := .tuple #[.int .i64 0, .bool (decide (0 < m)), .int .i64 0]) (by simp only [results, Try.results41]; simp [go_sem]) rfl ?_
    unfold RetNBE
    rw [hfin.out, if_pos trivial]
    exact ⟨rfl, hA5⟩
  · have hs1 : (s == 0) = false := by simp [hs0]
    have hup := fun V => up_any m s V (by omega) (by omega)
    have hf2 := hfin.out
    rw [if_neg hs0] at hf2
    have HF := Lib.hid hf2
    clear hf2 hs0 hfin hC5
    go_wp2_with fail
    refine (hup _).mono ?_
    rintro e w' ⟨rfl, rfl⟩
    go_wp2
    refine bodyPost_ret (v := .tuple #[.int .i64 (-(-m / s)), .bool false, .int .i64 0]) (by simp only [results, Try.results41]; simp [go_sem]) rfl ?_
    unfold RetNBE
    rw [HF.out]
    exact ⟨rfl, hA5⟩

end Go.Proofs.Ytpkggjfaefkiiaa
