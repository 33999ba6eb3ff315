/- steps and plus, by their contracts; no statement is proved here. -/
import Derived.Test.YtnnkcbeadiembaaProvM
import Derived.Test.YtnnkcbeadiembaaPL
import Derived.Test.YtnnkcbeadiembaaTill
namespace Go.Proofs.Ytnnkcbeadiembaa
open Go.RowKit Go.PlainAid
set_option linter.unusedVariables false

theorem steps_any (v : Value) (m : Mat) (w : World) (h : VMat w v m) (n : Nat) (hm : MatOk m n) :
    Calls Try.prog 69 #[v] w fun e w' => e = .returned (.int .i64 (stepsE m)) ∧ Below w.heap.size w w' := by
  obtain ⟨c, rfl, hc, -⟩ := h
  obtain ⟨ac, kc, rfl, -, -, -⟩ := hc
  have h1 := hm.least
  have h2 := hm.most
  have h3 := hm.step
  obtain ⟨l1, l2⟩ := h1
  obtain ⟨l3, l4⟩ := h2
  obtain ⟨l5, l6⟩ := h3
  have hA := below_box w (.cells #[.string m.name, .int .i64 m.price, .int .i64 m.redox, .int .i64 m.least, .int .i64 m.most, .int .i64 m.step, .slice ac m.content.length kc] 58)
  have e : (m.most - m.least).tdiv m.step = stepsE m := by unfold stepsE; rw [Int.tdiv_eq_ediv_of_nonneg (by omega)]
  have HE := Lib.hid e
  have n1 : 0 ≤ m.most - m.least := by omega
  have n0 : m.step ≠ 0 := by omega
  clear e hm
  go_enter Try.func69, Try.ntmps69
  go_wp2
  go_ret
  exact ⟨ret_int (by first | exact HE.out | rfl), hA⟩

theorem own_slice {w : World} {base : Nat} {e : TypeId} {size : Nat} {v : Value} {n : Nat} {xs : List Value} (h : w.ownsRow base e size v n xs) : ∃ a c, v = .slice a n c := by
  rcases own_cells h with ⟨h1, h2⟩ | ⟨g, cap, h1, -⟩
  · exact ⟨none, 0, by rw [h1, h2]⟩
  · exact ⟨_, _, h1⟩

theorem keepC {w1 w2 : World} {a : Addr} {x : Value} (hb : Below w1.heap.size w1 w2) (h : w1.cell? a = some x) : w2.cell? a = some x := ext_of_below hb _ _ h

def pTo (l o : List Int) (n : Int) (k : Nat) : List Int := (List.range l.length).map fun i => if i < k then wrap64 (l.getD i 0 + wrap64 (n * o.getD i 0)) else l.getD i 0
theorem pTo_len (l o : List Int) (n : Int) (k : Nat) : (pTo l o n k).length = l.length := by simp [pTo]
theorem pTo_zero (l o : List Int) (n : Int) : pTo l o n 0 = l := by
  apply List.ext_getElem
  · simp [pTo]
  intro i h1 h2
  simp [pTo, List.getElem?_eq_getElem h2]
theorem pTo_all (l o : List Int) (n : Int) : pTo l o n l.length = zipE l o n := by
  unfold pTo zipE
  apply List.map_congr_left
  intro i hi
  rw [if_pos (List.mem_range.1 hi)]
theorem pTo_at (l o : List Int) (n : Int) (k : Nat) (h : k < (pTo l o n k).length) : (pTo l o n k)[k] = l.getD k 0 := by
  simp [pTo]
theorem pTo_set (l o : List Int) (n : Int) (k : Nat) (h : k < l.length) : (pTo l o n k).set k (wrap64 (l.getD k 0 + wrap64 (n * o.getD k 0))) = pTo l o n (k + 1) := by
  apply List.ext_getElem
  · simp [pTo]
  intro q h1 h2
  by_cases hq : q = k
  · subst hq
    simp [pTo]
  · rw [List.getElem_set_ne (by omega)]
    simp only [pTo, List.getElem_map, List.getElem_range]
    by_cases hj : q < k
    · rw [if_pos hj, if_pos (by omega)]
    · rw [if_neg hj, if_neg (by omega)]

set_option maxHeartbeats 1000000 in
set_option maxRecDepth 100000 in
theorem plus_any (v1 v2 : Value) (l o : Ln) (n : Int) (w : World) (h1 : VLn w v1 l) (h2 : VLn w v2 o) (hl : o.fs.length = l.fs.length) (hn : l.fs.length ≤ 1000000) (hi : ∀ x ∈ l.fs, I64 x) :
    Calls Try.prog 111 #[v1, .int .i64 n, v2] w (RetLine w (plusE l n o).fs (plusE l n o).bound) := by
  obtain ⟨c1, rfl, hf1, hb1⟩ := h1
  obtain ⟨c2, rfl, hf2, hb2⟩ := h2
  obtain ⟨p1, j1, rfl, -, -, -⟩ := id hf1
  obtain ⟨p2, j2, rfl, -, ⟨-, lo⟩, hol⟩ := id hf2
  have hl1 : o.fs.length ≤ l.fs.length := by omega
  have hl2 : l.fs.length ≤ o.fs.length := by omega
  have HL := Lib.hid hl
  clear hl
  obtain ⟨W, hW⟩ : ∃ W : World, W = ((w.alloc (.cells #[.slice p1 l.fs.length j1, .int .i64 l.bound] 88)).alloc (.cells #[.slice p2 o.fs.length j2, .int .i64 o.bound] 88)).alloc (.cells #[.slice none 0 0, .int .i64 0] 88) := ⟨_, rfl⟩
  have hA : Below w.heap.size w W := by subst hW; go_grown
  have hB : Blk W w.heap.size #[.slice p1 l.fs.length j1, .int .i64 l.bound] 88 := by subst hW; exact ((Blk.new _ _ _).alloc _).alloc _
  have hC : Blk W (w.heap.size + 1) #[.slice p2 o.fs.length j2, .int .i64 o.bound] 88 := by
    subst hW
    have := (Blk.new (w.alloc (.cells #[.slice p1 l.fs.length j1, .int .i64 l.bound] 88)) #[.slice p2 o.fs.length j2, .int .i64 o.bound] 88).alloc (.cells #[.slice none 0 0, .int .i64 0] 88)
    simpa using this
  have hD : Blk W (w.heap.size + 1 + 1) #[.slice none 0 0, .int .i64 0] 88 := by
    subst hW
    have := Blk.new ((w.alloc (.cells #[.slice p1 l.fs.length j1, .int .i64 l.bound] 88)).alloc (.cells #[.slice p2 o.fs.length j2, .int .i64 o.bound] 88)) #[.slice none 0 0, .int .i64 0] 88
    simpa using this
  have hsz : w.heap.size + 1 + 1 < W.heap.size := hD.lt
  go_enter Try.func111, Try.ntmps111
  go_wp2_with fail
  rw [← hW]
  clear hW
  have hcl := clone_any (.slice p1 l.fs.length j1) l.fs W.drew (hf1.mono ((ext_of_below hA).trans (ext_drew W))) hn
  refine wp_region_till (fun w' => w'.cell? ⟨w.heap.size, 0, none⟩ = some (.slice p1 l.fs.length j1) ∧ w'.cell? ⟨w.heap.size, 1, none⟩ = some (.int .i64 l.bound) ∧ w'.cell? ⟨w.heap.size + 1, 1, none⟩ = some (.int .i64 o.bound)) 11 (by kernel_rfl) ⟨hB.cell 0 _ rfl, hB.cell 1 _ rfl, hC.cell 1 _ rfl⟩ (fun hHeld => ?_)
  refine Till.take 0 (some 9) (v := ?_) rfl rfl (by kernel_rfl) (by kernel_rfl) (by kernel_rfl) (by kernel_rfl) (fun _ _ _ h => h) (Or.inl ⟨by rfl, ?_⟩) (by assumption) ?_
  rotate_left
  · (intro w hSw; (try dsimp only at hSw); go_simp; try with_reducible rfl)
  try simp only [Act.put, List.setIfInBounds_toArray, List.set_cons_zero, List.set_cons_succ]
  refine Till.take 1 (some 10) (v := ?_) rfl rfl (by kernel_rfl) (by kernel_rfl) (by kernel_rfl) (by kernel_rfl) (fun _ _ _ h => h) (Or.inl ⟨by rfl, ?_⟩) (by assumption) ?_
  rotate_left
  · (intro w hSw; (try dsimp only at hSw); go_simp; try with_reducible rfl)
  try simp only [Act.put, List.setIfInBounds_toArray, List.set_cons_zero, List.set_cons_succ]
  refine Till.take 3 (some 12) (v := ?_) rfl rfl (by kernel_rfl) (by kernel_rfl) (by kernel_rfl) (by kernel_rfl) (fun _ _ _ h => h) (Or.inl ⟨by rfl, ?_⟩) (by assumption) ?_
  rotate_left
  · (intro w hSw; (try dsimp only at hSw); go_simp; try with_reducible rfl)
  try simp only [Act.put, List.setIfInBounds_toArray, List.set_cons_zero, List.set_cons_succ]
  refine Till.take 4 (some 13) (v := ?_) rfl rfl (by kernel_rfl) (by kernel_rfl) (by kernel_rfl) (by kernel_rfl) (fun _ _ _ h => h) (Or.inl ⟨by rfl, ?_⟩) (by assumption) ?_
  rotate_left
  · (intro w hSw; (try dsimp only at hSw); go_simp; try with_reducible rfl)
  try simp only [Act.put, List.setIfInBounds_toArray, List.set_cons_zero, List.set_cons_succ]
  refine Till.take 5 (some 14) (v := ?_) rfl rfl (by kernel_rfl) (by kernel_rfl) (by kernel_rfl) (by kernel_rfl) (fun _ _ _ h => h) (Or.inl ⟨by rfl, ?_⟩) (by assumption) ?_
  rotate_left
  · (intro w hSw; (try dsimp only at hSw); go_simp; try with_reducible rfl)
  try simp only [Act.put, List.setIfInBounds_toArray, List.set_cons_zero, List.set_cons_succ]
  refine Till.take 6 (some 15) (v := ?_) rfl rfl (by kernel_rfl) (by kernel_rfl) (by kernel_rfl) (by kernel_rfl) (fun _ _ _ h => h) (Or.inl ⟨by rfl, ?_⟩) (by assumption) ?_
  rotate_left
  · (intro w hSw; (try dsimp only at hSw); go_simp; try with_reducible rfl)
  try simp only [Act.put, List.setIfInBounds_toArray, List.set_cons_zero, List.set_cons_succ]
  refine Till.take 7 (some 16) (v := ?_) rfl rfl (by kernel_rfl) (by kernel_rfl) (by kernel_rfl) (by kernel_rfl) (fun _ _ _ h => h) (Or.inl ⟨by rfl, ?_⟩) (by assumption) ?_
  rotate_left
  · (intro w hSw; (try dsimp only at hSw); go_simp; try with_reducible rfl)
  try simp only [Act.put, List.setIfInBounds_toArray, List.set_cons_zero, List.set_cons_succ]
  refine Till.take 8 (some 17) (v := ?_) rfl rfl (by kernel_rfl) (by kernel_rfl) (by kernel_rfl) (by kernel_rfl) (fun _ _ _ h => h) (Or.inl ⟨by rfl, ?_⟩) (by assumption) ?_
  rotate_left
  · (intro w hSw; (try dsimp only at hSw); go_simp; try with_reducible rfl)
  try simp only [Act.put, List.setIfInBounds_toArray, List.set_cons_zero, List.set_cons_succ]
  refine Till.take 9 (some 18) (v := ?_) rfl rfl (by kernel_rfl) (by kernel_rfl) (by kernel_rfl) (by kernel_rfl) (fun _ _ _ h => h) (Or.inl ⟨by rfl, ?_⟩) (by assumption) ?_
  rotate_left
  · (intro w hSw; (try dsimp only at hSw); go_simp; try with_reducible rfl)
  try simp only [Act.put, List.setIfInBounds_toArray, List.set_cons_zero, List.set_cons_succ]
  refine Till.one 2 rfl (by kernel_rfl) (fun K hK => ?_)
  go_simp
  go_at_call 72
  refine hcl.mono ?_
  rintro e wA ⟨v', rfl, hown, hbA⟩
  obtain ⟨pv, jv, rfl⟩ := own_slice hown
  refine hK.out _ _ (fun _ => ⟨keepC hbA hHeld.1, keepC hbA hHeld.2.1, keepC hbA hHeld.2.2⟩) (fun hHeld2 => ?_)
  clear hK K
  try simp only [Act.put, List.setIfInBounds_toArray, List.set_cons_zero, List.set_cons_succ]
  have hbA2 : Below W.heap.size W wA := ((Below.refl _ _).drew).trans (hbA.mono (Nat.le_refl _))
  have hAA := hA.trans (hbA2.mono hA.size)
  have hBA := hB.below hbA2 hB.lt
  have hCA := hC.below hbA2 hC.lt
  have hDA := hD.below hbA2 hD.lt
  refine Till.one 10 rfl (by kernel_rfl) (fun K hK => ?_)
  go_simp
  refine hK.out _ _ (fun _ => hHeld2 (by decide)) (fun hHeld3 => ?_)
  clear hK K
  try simp only [Act.put, List.setIfInBounds_toArray, List.set_cons_zero, List.set_cons_succ]
  refine Till.one 11 rfl (by kernel_rfl) (fun K hK => ?_)
  have e0 := hBA.cell 0 _ rfl
  have e1 := hBA.cell 1 _ rfl
  have z0 := hBA.frozen 0
  have z1 := hBA.frozen 1
  have hwr : IntKind.i64.wrap (l.bound + IntKind.i64.wrap (n * o.bound)) = (plusE l n o).bound := by
    unfold plusE
    simp only [IntKind.wrap_i64, wrap64]
  go_simp
  clear hwr
  generalize hnb : (plusE l n o).bound = nb
  refine hK.out _ _ (fun h => absurd rfl h) (fun _ => ?_)
  clear hK K
  refine Till.done (by kernel_rfl) ?_ _
  try simp only [Act.put]
  have hsA : W.heap.size ≤ wA.heap.size := hbA2.size
  have hB5 := (hBA.set 0 (.slice pv l.fs.length jv)).set 1 (.int .i64 nb)
  have hC5 := (hCA.other ⟨w.heap.size, 0, none⟩ (.slice pv l.fs.length jv) (by simp)).other ⟨w.heap.size, 1, none⟩ (.int .i64 nb) (by simp)
  have hD5 := (hDA.other ⟨w.heap.size, 0, none⟩ (.slice pv l.fs.length jv) (by simp; omega)).other ⟨w.heap.size, 1, none⟩ (.int .i64 nb) (by simp; omega)
  have hA5 := (hAA.setCell (p := ⟨w.heap.size, 0, none⟩) (by simp) (.slice pv l.fs.length jv)).setCell (p := ⟨w.heap.size, 1, none⟩) (by simp) (.int .i64 nb)
  have hown5 := ownsRow_setCell_below (ownsRow_setCell_below hown (a := ⟨w.heap.size, 0, none⟩) (by simp; omega) (.slice pv l.fs.length jv)) (a := ⟨w.heap.size, 1, none⟩) (by simp; omega) (.int .i64 nb)
  replace hown5 := own_base hown5 (show W.heap.size ≤ W.drew.heap.size from Nat.le_refl _)
  have hg5 : ∀ g, (Value.slice pv l.fs.length jv).ownBlock = some g → W.heap.size ≤ g := fun g hg => (hown5.lt g hg).1
  have hs5 : W.heap.size ≤ ((wA.setCell ⟨w.heap.size, 0, none⟩ (.slice pv l.fs.length jv)).setCell ⟨w.heap.size, 1, none⟩ (.int .i64 nb)).heap.size := by simpa using hsA
  rw [show l.fs.map (Value.int .i64) = (pTo l.fs o.fs n 0).map (Value.int .i64) from by rw [pTo_zero]] at hown5
  clear hB hC hD hA hBA hCA hDA hAA hbA hbA2 hown hHeld hHeld2 hHeld3 e0 e1 z0 z1 hcl
  generalize (wA.setCell ⟨w.heap.size, 0, none⟩ (.slice pv l.fs.length jv)).setCell ⟨w.heap.size, 1, none⟩ (.int .i64 nb) = W5 at *
  simp only [List.setIfInBounds_toArray, List.set_cons_zero, List.set_cons_succ] at hB5
  have r0 := hB5.cell 0 _ rfl
  have r1 := hC5.cell 0 _ rfl
  go_wp2
  clear r0 r1
  go_loopw [23] (fun i wr => ∃ (k : Nat), k ≤ o.fs.length ∧ i = .int .i64 k ∧ wr.ownsRow W.heap.size 3 1 (.slice pv l.fs.length jv) l.fs.length ((pTo l.fs o.fs n k).map (Value.int .i64)) ∧ Below W.heap.size W5 wr) (fun i _ => o.fs.length - (intOf i).toNat)
  case atStart => exact ⟨0, Nat.zero_le _, rfl, hown5, Below.refl _ _⟩
  case round =>
    clear hown5
    obtain ⟨k, hk, rfl, hown, hb⟩ := hrel
    have hB6 := hB5.below hb (by omega)
    have hC6 := hC5.below hb (by omega)
    have hD6 := hD5.below hb (by omega)
    have hA6 := hA5.trans (hb.mono (by omega))
    by_cases hlt : k < o.fs.length
    · obtain ⟨b2, o2, rfl, q2, -⟩ := hol k hlt
      simp only [Nat.mul_one] at q2
      have hlk : k < l.fs.length := by omega
      rcases own_cells hown with ⟨-, h0⟩ | ⟨g, cap, hv, -⟩
      · omega
      simp only [Value.slice.injEq, true_and] at hv
      obtain ⟨rfl, rfl⟩ := hv
      replace q2 := ext_of_below hA6 _ _ q2
      have hgb := hg5 g rfl
      have hset := pTo_set l.fs o.fs n k hlk
      rw [show o.fs.getD k 0 = o.fs[k] from by simp [List.getD, List.getElem?_eq_getElem hlt]] at hset
      have hjl : k < (pTo l.fs o.fs n k).length := by rw [pTo_len]; exact hlk
      have hold := pTo_at l.fs o.fs n k hjl
      have u0 := hown.cellAt k (by omega)
      rw [List.getElem?_map, List.getElem?_eq_getElem hjl, hold, Option.map_some] at u0
      have u1 := hown.frozenAt k
      have hown2 := (hown.stored k (.int .i64 (wrap64 (l.fs.getD k 0 + wrap64 (n * o.fs[k]))))).1
      rw [← List.map_set, hset] at hown2
      have hb2 := hb.setCell (p := ⟨g, k, none⟩) hgb (.int .i64 (wrap64 (l.fs.getD k 0 + wrap64 (n * o.fs[k]))))
      have r0 := hB6.cell 0 _ rfl
      have r1 := hC6.cell 0 _ rfl
      have HO := Lib.hid hown2
      have HB := Lib.hid hb2
      clear hol hset hold hown hown2 hb2 hb hA6 hB6 hC6 hD6 hg5 hf1 hf2
      generalize o.fs[k] = y at *
      generalize l.fs.getD k 0 = x at *
      go_wp2
      go_roundw
      case rel => exact ⟨k + 1, by omega, by go_num, HO.out, HB.out⟩
      case measure => simp [intOf]; omega
    · rw [show k = l.fs.length by omega, pTo_all] at hown
      have hownF := ownsRow_setCell_below (ownsRow_setCell_below hown (a := ⟨w.heap.size + 1 + 1, 0, none⟩) (by simp; omega) (.slice pv l.fs.length jv)) (a := ⟨w.heap.size + 1 + 1, 1, none⟩) (by simp; omega) (.int .i64 nb)
      have hRI := own_RInts (l := zipE l.fs o.fs n) (by rw [zip_len]; exact own_vis (S := (w.heap.size ≤ ·)) hownF (by intro g hg; have := hg5 g hg; omega)) (by rw [zip_len]; omega)
        (by intro x hx; unfold zipE at hx; obtain ⟨q, hq, rfl⟩ := List.mem_map.1 hx; exact wrap_I64 _)
      have hAF := (hA6.setCell (p := ⟨w.heap.size + 1 + 1, 0, none⟩) (by simp; omega) (.slice pv l.fs.length jv)).setCell (p := ⟨w.heap.size + 1 + 1, 1, none⟩) (by simp; omega) (.int .i64 nb)
      have hDF := (hD6.set 0 (.slice pv l.fs.length jv)).set 1 (.int .i64 nb)
      simp only [List.setIfInBounds_toArray, List.set_cons_zero, List.set_cons_succ] at hDF
      have r0 := hB6.cell 0 _ rfl
      have r1 := hB6.cell 1 _ rfl
      have s0 := hD6.cell 0 _ rfl
      have s1 := hD6.cell 1 _ rfl
      have y0 := hD6.frozen 0
      have y1 := hD6.frozen 1
      have t0 := hDF.cell 0 _ rfl
      have t1 := hDF.cell 1 _ rfl
      have HR := Lib.hid hRI
      clear hRI hown hownF hol hb hB6 hC6 hD6 hDF hA6 hg5 hf1 hf2
      go_wp2
      refine bodyPost_ret (v := .agg #[.slice pv l.fs.length jv, .int .i64 nb]) (by simp only [results, Try.results111]; simp [go_sem, t0, t1]) rfl ?_
      rw [hnb]
      exact ⟨_, rfl, HR.out, hAF⟩

end Go.Proofs.Ytnnkcbeadiembaa
