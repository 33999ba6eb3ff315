/- raise and its closures, by their contracts; no statement is proved here. -/
import Derived.Test.YtpkggjfaefkiiaaPeak
import Derived.Test.YtpkggjfaefkiiaaProv4
import Derived.Test.YtpkggjfaefkiiaaTillIn
namespace Go.Proofs.Ytpkggjfaefkiiaa
open Go.RowKit Go.PlainAid
set_option linter.unusedVariables false

theorem isFn_second : IsFn 138 := fun xs w => by kernel_rfl
theorem isFn_second1 : IsFn 140 := fun xs w => by kernel_rfl
theorem isFn_raise2 : IsFn 141 := fun xs w => by kernel_rfl

/-- a line in a box of its own. -/
def BoxLn (w : World) (p : Nat) (l : Ln) : Prop := ∃ pc jc, Blk w p #[.slice pc l.fs.length jc, .int .i64 l.bound] 39 ∧ RInts w (.slice pc l.fs.length jc) l.fs ∧ I64 l.bound
theorem BoxLn.below {w w' : World} {p : Nat} {l : Ln} (h : BoxLn w p l) (hb : Below w.heap.size w w') : BoxLn w' p l := by
  obtain ⟨pc, jc, h1, h2, h3⟩ := h
  exact ⟨pc, jc, h1.below hb h1.lt, h2.mono (ext_of_below hb), h3⟩
/-- a prover in a box of its own. -/
def BoxPr (w : World) (p : Nat) (b : Bat) : Prop := ∃ pl jl pp jp pa ja pm jm, Blk w p #[.slice pl (linesB b).length jl, .slice pp (psB b).length jp, .slice pa (lsB b).length ja, .slice pm (msB b).length jm] 107 ∧ VPr w (.agg #[.slice pl (linesB b).length jl, .slice pp (psB b).length jp, .slice pa (lsB b).length ja, .slice pm (msB b).length jm]) (linesB b) (psB b) (lsB b) (msB b)
theorem BoxPr.below {w w' : World} {p : Nat} {b : Bat} (h : BoxPr w p b) (hb : Below w.heap.size w w') : BoxPr w' p b := by
  obtain ⟨pl, jl, pp, jp, pa, ja, pm, jm, h1, h2⟩ := h
  exact ⟨pl, jl, pp, jp, pa, ja, pm, jm, h1.below hb h1.lt, h2.mono (ext_of_below hb)⟩
theorem Blk.more {w w' : World} {k : Nat} {cs : Array Value} {t : TypeId} (h : Blk w k cs t) (hb : Below w.heap.size w w') : Blk w' k cs t := h.below hb h.lt

/-- what a proof is worth, one weight more. -/
theorem worth_one {b : Bat} {s : Int} {u : List Int} {l : Ln} (hk : PfOk (psB b) (linesB b) s u) (hl : IsSum (psB b) (linesB b) s u l) {j : Nat} (hj : j < (linesB b).length) (hu : u.getD j 0 = 0) (y : Int) :
    -(l.bound + y * (lnAt (linesB b) j).bound) + beyTo (beyF l.fs (lnAt (linesB b) j).fs y) (lsB b) (msB b) l.fs.length = worthE b s (u.set j y) := by
  have hjw : j < u.length := by rw [hk.len]; exact hj
  have hP : (psB b).length = b.mats.length := by simp [psB]
  unfold worthE
  rw [hl.bound, BE_set (linesB b) u j y hjw, if_pos hj, hu, hl.len, hP]
  rw [beyTo_congr (G := FE (psB b) (linesB b) s (u.set j y) (linesB b).length) (fun t ht => by
    unfold beyF
    rw [hl.at_ t (by omega), FE_set (psB b) (linesB b) s u j t y hjw, if_pos hj, hu, Int.sub_zero])]
  rw [Int.sub_zero]

set_option maxHeartbeats 1000000 in
set_option maxRecDepth 100000 in
theorem beyC_any (b : Bat) (hb : OkB b) (s : Int) (u : List Int) (hk : PfOk (psB b) (linesB b) s u) (j : Nat) (hj : j < (linesB b).length) (hu : u.getD j 0 = 0) (l : Ln) (hl : IsSum (psB b) (linesB b) s u l) (pv ps pj : Nat) (y : Int) (hy0 : 0 ≤ y) (hy1 : y ≤ 1000) (w : World)
    (Bv : BoxPr w pv b) (Bs : BoxLn w ps l) (Bj : Blk w pj #[.int .i64 (j : Int)] 3) :
    Calls Try.prog 140 #[.int .i64 y, .pointer (some ⟨pv, 0, none⟩), .pointer (some ⟨ps, 0, none⟩), .pointer (some ⟨pj, 0, none⟩)] w fun e w' => e = .returned (.int .i64 (worthE b s (u.set j y))) ∧ Below w.heap.size w w' := by
  have hm := hb.mt
  have hP : (psB b).length = b.mats.length := by simp [psB]
  have hlen := hl.len
  have hk2 := hk.set j y ⟨hy0, hy1⟩
  have hjw : j < u.length := by rw [hk.len]; exact hj
  have hft := hk.fs _ (List.getElem_mem hj)
  have hw1 := worth_one hk hl hj hu y
  rw [ln_at hj] at hw1
  obtain ⟨pl, jl, pp, jp, pa, ja, pm, jm, Bv, hvp⟩ := Bv
  obtain ⟨pc, jc, Bs, hc, hi64⟩ := Bs
  have D0 : Below w.heap.size w w.drew := (Below.refl _ _).drew
  obtain ⟨pl', jl', pp', jp', pa', ja', pm', jm', hag, hL, -, -, -⟩ := hvp.ex
  simp only [Value.agg.injEq, Array.mk.injEq, List.cons.injEq, Value.slice.injEq, true_and, and_true] at hag
  obtain ⟨⟨rfl, rfl⟩, -, -, -⟩ := hag
  obtain ⟨z, zc, zq, -, ⟨-, hlz⟩, hLn⟩ := id hL
  cases zq
  obtain ⟨b1, o1, rfl, c, q, g0, g1, hc0, rfl, hui⟩ := hLn j hj
  obtain ⟨ac, kc, rfl, -, -, -⟩ := id hc0
  simp only at g0 g1
  have hbey := beyond_any (.agg #[.slice (some ⟨b1, o1, none⟩) (linesB b).length jl, .slice pp (psB b).length jp, .slice pa (lsB b).length ja, .slice pm (msB b).length jm]) (linesB b) (psB b) (lsB b) (msB b) (.agg #[.slice pc l.fs.length jc, .int .i64 l.bound]) (.agg #[.slice ac (linesB b)[j].fs.length kc, .int .i64 (linesB b)[j].bound]) l (linesB b)[j] y w.drew
    (hvp.mono (ext_of_below D0)) ⟨_, rfl, hc.mono (ext_of_below D0), hi64⟩ ⟨_, rfl, hc0.mono (ext_of_below D0), hui⟩
    (by rw [hft.1, hlen]) (by rw [hlen, hP]; simp [lsB]) (by rw [hlen, hP]; simp [msB]) (by rw [hlen, hP]; exact hm.2)
    (fun t ht => by
      have h5 := hft.2.1 _ (getD_mem (d := 0) (show t < ((linesB b)[j]).fs.length by rw [hft.1, ← hlen]; exact ht))
      have := mul_in (A := 1000) (B := 1240000000) ⟨hy0, hy1⟩ h5
      omega)
    (fun t ht => by
      have h6 := FE_bd hk2 (show t < (psB b).length by rw [← hlen]; exact ht) _ (Nat.le_refl _)
      have hn := hk.n
      have h7 := FE_set (psB b) (linesB b) s u j t y hjw (linesB b).length
      rw [if_pos hj, hu, Int.sub_zero, ln_at hj] at h7
      unfold beyF
      rw [hl.at_ t (by rw [← hlen]; exact ht), ← h7]
      omega)
    (fun t ht => ls_at hb t (by rw [hlen, hP] at ht; exact ht)) (fun t ht => ms_at hb t (by rw [hlen, hP] at ht; exact ht))
    (by have := BE_bd hk _ (Nat.le_refl _); have hn := hk.n; rw [hl.bound]; omega)
    (by have := mul_in (A := 1000) (B := 10000000) ⟨hy0, hy1⟩ (b := (linesB b)[j].bound) (by omega); omega)
  rw [hw1] at hbey
  have s0 := Bv.cell 0 _ rfl
  have s1 := Bv.cell 1 _ rfl
  have s2 := Bv.cell 2 _ rfl
  have s3 := Bv.cell 3 _ rfl
  have l0 := Bs.cell 0 _ rfl
  have l1 := Bs.cell 1 _ rfl
  have j0 := Bj.cell 0 _ rfl
  have n1 : (0 : Int) ≤ (j : Int) := Int.natCast_nonneg _
  have n2 : (j : Int) < ((linesB b).length : Int) := by omega
  clear hLn hw1 hft hlen hP
  generalize (linesB b)[j] = lj at *
  generalize worthE b s (u.set j y) = wv at *
  go_enter Try.func140, Try.ntmps140
  go_wp2
  refine wp_region_till (fun w' => w'.cell? ⟨pv, 0, none⟩ = some (.slice (some ⟨b1, o1, none⟩) (linesB b).length jl) ∧ w'.cell? ⟨pv, 1, none⟩ = some (.slice pp (psB b).length jp) ∧ w'.cell? ⟨pv, 2, none⟩ = some (.slice pa (lsB b).length ja) ∧ w'.cell? ⟨pv, 3, none⟩ = some (.slice pm (msB b).length jm) ∧ w'.cell? ⟨ps, 0, none⟩ = some (.slice pc l.fs.length jc) ∧ w'.cell? ⟨ps, 1, none⟩ = some (.int .i64 l.bound) ∧ w'.cell? ⟨pj, 0, none⟩ = some (.int .i64 (j : Int)) ∧ w'.cell? ⟨b1, o1 + j * 2, none⟩ = some (.slice ac lj.fs.length kc) ∧ w'.cell? ⟨b1, o1 + j * 2 + 1, none⟩ = some (.int .i64 lj.bound)) 99 (by kernel_rfl) ⟨s0, s1, s2, s3, l0, l1, j0, g0, g1⟩ (fun hHeld => ?_)
  refine Till.take 0 (some 6) (v := ?_) rfl rfl (by kernel_rfl) (by kernel_rfl) (by kernel_rfl) (by kernel_rfl) (fun _ _ _ h => h) (Or.inl ⟨by rfl, ?_⟩) (by assumption) ?_
  rotate_left
  · (intro w hSw; (try dsimp only at hSw); go_simp; try with_reducible rfl)
  try simp only [Act.put, List.setIfInBounds_toArray, List.set_cons_zero, List.set_cons_succ]
  refine Till.take 1 (some 7) (v := ?_) rfl rfl (by kernel_rfl) (by kernel_rfl) (by kernel_rfl) (by kernel_rfl) (fun _ _ _ h => h) (Or.inl ⟨by rfl, ?_⟩) (by assumption) ?_
  rotate_left
  · (intro w hSw; (try dsimp only at hSw); go_simp; try with_reducible rfl)
  try simp only [Act.put, List.setIfInBounds_toArray, List.set_cons_zero, List.set_cons_succ]
  refine Till.take 2 (some 8) (v := ?_) rfl rfl (by kernel_rfl) (by kernel_rfl) (by kernel_rfl) (by kernel_rfl) (fun _ _ _ h => h) (Or.inl ⟨by rfl, ?_⟩) (by assumption) ?_
  rotate_left
  · (intro w hSw; (try dsimp only at hSw); go_simp; try with_reducible rfl)
  try simp only [Act.put, List.setIfInBounds_toArray, List.set_cons_zero, List.set_cons_succ]
  refine Till.take 3 (some 9) (v := ?_) rfl rfl (by kernel_rfl) (by kernel_rfl) (by kernel_rfl) (by kernel_rfl) (fun _ _ _ h => h) (Or.inl ⟨by rfl, ?_⟩) (by assumption) ?_
  rotate_left
  · (intro w hSw; (try dsimp only at hSw); go_simp; try with_reducible rfl)
  try simp only [Act.put, List.setIfInBounds_toArray, List.set_cons_zero, List.set_cons_succ]
  refine Till.take 4 (some 10) (v := ?_) rfl rfl (by kernel_rfl) (by kernel_rfl) (by kernel_rfl) (by kernel_rfl) (fun _ _ _ h => h) (Or.inl ⟨by rfl, ?_⟩) (by assumption) ?_
  rotate_left
  · (intro w hSw; (try dsimp only at hSw); go_simp; try with_reducible rfl)
  try simp only [Act.put, List.setIfInBounds_toArray, List.set_cons_zero, List.set_cons_succ]
  refine Till.take 5 (some 11) (v := ?_) rfl rfl (by kernel_rfl) (by kernel_rfl) (by kernel_rfl) (by kernel_rfl) (fun _ _ _ h => h) (Or.inl ⟨by rfl, ?_⟩) (by assumption) ?_
  rotate_left
  · (intro w hSw; (try dsimp only at hSw); go_simp; try with_reducible rfl)
  try simp only [Act.put, List.setIfInBounds_toArray, List.set_cons_zero, List.set_cons_succ]
  refine Till.take 6 (some 12) (v := ?_) rfl rfl (by kernel_rfl) (by kernel_rfl) (by kernel_rfl) (by kernel_rfl) (fun _ _ _ h => h) (Or.inl ⟨by rfl, ?_⟩) (by assumption) ?_
  rotate_left
  · (intro w hSw; (try dsimp only at hSw); go_simp; try with_reducible rfl)
  try simp only [Act.put, List.setIfInBounds_toArray, List.set_cons_zero, List.set_cons_succ]
  refine Till.take 7 (some 13) (v := ?_) rfl rfl (by kernel_rfl) (by kernel_rfl) (by kernel_rfl) (by kernel_rfl) (fun _ _ _ h => h) (Or.inl ⟨by rfl, ?_⟩) (by assumption) ?_
  rotate_left
  · (intro w hSw; (try dsimp only at hSw); go_simp; try with_reducible rfl)
  try simp only [Act.put, List.setIfInBounds_toArray, List.set_cons_zero, List.set_cons_succ]
  refine Till.one 8 rfl (by kernel_rfl) (fun K hK => ?_)
  go_simp
  go_at_call 125
  refine hbey.mono ?_
  rintro e w1 ⟨rfl, hb1⟩
  have D1 := D0.trans (hb1.mono D0.size)
  have hw9 : (fun w' : World => w'.cell? ⟨pv, 0, none⟩ = some (.slice (some ⟨b1, o1, none⟩) (linesB b).length jl) ∧ w'.cell? ⟨pv, 1, none⟩ = some (.slice pp (psB b).length jp) ∧ w'.cell? ⟨pv, 2, none⟩ = some (.slice pa (lsB b).length ja) ∧ w'.cell? ⟨pv, 3, none⟩ = some (.slice pm (msB b).length jm) ∧ w'.cell? ⟨ps, 0, none⟩ = some (.slice pc l.fs.length jc) ∧ w'.cell? ⟨ps, 1, none⟩ = some (.int .i64 l.bound) ∧ w'.cell? ⟨pj, 0, none⟩ = some (.int .i64 (j : Int)) ∧ w'.cell? ⟨b1, o1 + j * 2, none⟩ = some (.slice ac lj.fs.length kc) ∧ w'.cell? ⟨b1, o1 + j * 2 + 1, none⟩ = some (.int .i64 lj.bound)) w1 := ⟨keepC D1 s0, keepC D1 s1, keepC D1 s2, keepC D1 s3, keepC D1 l0, keepC D1 l1, keepC D1 j0, keepC D1 g0, keepC D1 g1⟩
  refine hK.out _ _ (fun _ => hw9) (fun hHeld2 => ?_)
  clear hK K
  try simp only [Act.put, List.setIfInBounds_toArray, List.set_cons_zero, List.set_cons_succ]
  dsimp only at hw9
  refine Till.take 9 (some 5) (v := ?_) rfl rfl (by kernel_rfl) (by kernel_rfl) (by kernel_rfl) (by kernel_rfl) (fun _ _ _ h => h) (Or.inl ⟨by rfl, ?_⟩) (by assumption) ?_
  rotate_left
  · (intro w hSw; (try dsimp only at hSw); go_simp; try with_reducible rfl)
  try simp only [Act.put, List.setIfInBounds_toArray, List.set_cons_zero, List.set_cons_succ]
  refine Till.done (by kernel_rfl) ?_ _
  clear hw9 hHeld hHeld2 s0 s1 s2 s3 l0 l1 j0 g0 g1
  go_wp2
  go_ret
  exact ⟨rfl, D1⟩

theorem ext_vis_out {S : Nat → Prop} {w w' : World} (h : ∀ p x, S p.block → w.cell? p = some x → w'.cell? p = some x) : Ext (vis S w) w' := fun p x hp => by
  obtain ⟨h1, h2⟩ := vis_cell.1 hp
  exact h p x h1 h2

set_option maxHeartbeats 2000000 in
set_option maxRecDepth 100000 in
theorem secC_any (b : Bat) (hb : OkB b) (s : Int) (u : List Int) (hk : PfOk (psB b) (linesB b) s u) (i j : Nat) (hi : i < (linesB b).length) (hj : j < (linesB b).length) (hij : i ≠ j) (hui : u.getD i 0 = 0) (huj : u.getD j 0 = 0) (l : Ln) (hl : IsSum (psB b) (linesB b) s u l) (hl64 : ∀ q ∈ l.fs, I64 q) (pr pv pi pj : Nat) (x : Int) (hx0 : 0 ≤ x) (hx1 : x ≤ 1000) (w : World)
    (Bl : BoxLn w pr l) (Bv : BoxPr w pv b) (Bi : Blk w pi #[.int .i64 (i : Int)] 3) (Bj : Blk w pj #[.int .i64 (j : Int)] 3) :
    Calls Try.prog 138 #[.int .i64 x, .pointer (some ⟨pr, 0, none⟩), .pointer (some ⟨pv, 0, none⟩), .pointer (some ⟨pi, 0, none⟩), .pointer (some ⟨pj, 0, none⟩)] w (PkIs w (fun y => worthE b s ((u.set i x).set j y))) := by
  have hm := hb.mt
  have hP : (psB b).length = b.mats.length := by simp [psB]
  have hlen := hl.len
  have hkx := hk.set i x ⟨hx0, hx1⟩
  have hiw : i < u.length := by rw [hk.len]; exact hi
  have hft := hk.fs _ (List.getElem_mem hi)
  have hujx : (u.set i x).getD j 0 = 0 := by rw [getD_set u i j x hiw, if_neg hij]; exact huj
  have hsx := plus_set hk hl i hi x ⟨hx0, hx1⟩
  rw [hui, Int.sub_zero, ln_at hi] at hsx
  have Bv0 := Bv
  obtain ⟨pl, jl, pp, jp, pa, ja, pm, jm, Bv, hvp⟩ := Bv
  obtain ⟨pc, jc, Bl, hc, hi64⟩ := Bl
  have D0 : Below w.heap.size w w.drew := (Below.refl _ _).drew
  obtain ⟨pl', jl', pp', jp', pa', ja', pm', jm', hag, hL, -, -, -⟩ := hvp.ex
  simp only [Value.agg.injEq, Array.mk.injEq, List.cons.injEq, Value.slice.injEq, true_and, and_true] at hag
  obtain ⟨⟨rfl, rfl⟩, -, -, -⟩ := hag
  obtain ⟨z, zc, zq, -, ⟨-, hlz⟩, hLn⟩ := id hL
  cases zq
  obtain ⟨b1, o1, rfl, c, q, g0, g1, hc0, rfl, hqi⟩ := hLn i hi
  obtain ⟨ac, kc, rfl, -, -, -⟩ := id hc0
  simp only at g0 g1
  have hpl := fun (V : World) (e : Below w.heap.size w V) => plus_any (.agg #[.slice pc l.fs.length jc, .int .i64 l.bound]) (.agg #[.slice ac (linesB b)[i].fs.length kc, .int .i64 (linesB b)[i].bound]) l (linesB b)[i] x V ⟨_, rfl, hc.mono (ext_of_below e), hi64⟩ ⟨_, rfl, hc0.mono (ext_of_below e), hqi⟩ (by rw [hft.1, hlen]) (by rw [hlen, hP]; omega) hl64
  have hsb : I64 (plusE l x (linesB b)[i]).bound := wrap_I64 _
  have l0 := Bl.cell 0 _ rfl
  have l1 := Bl.cell 1 _ rfl
  have s0 := Bv.cell 0 _ rfl
  have i0 := Bi.cell 0 _ rfl
  have n1 : (0 : Int) ≤ (i : Int) := Int.natCast_nonneg _
  have n2 : (i : Int) < ((linesB b).length : Int) := by omega
  clear hLn hft hlen hP hL hvp
  generalize (linesB b)[i] = li at *
  generalize plusE l x li = sx at *
  go_enter Try.func138, Try.ntmps138
  go_wp2
  have hsv : ∀ V, Below w.heap.size w V → (fun w' : World => w'.cell? ⟨pr, 0, none⟩ = some (.slice pc l.fs.length jc) ∧ w'.cell? ⟨pr, 1, none⟩ = some (.int .i64 l.bound) ∧ w'.cell? ⟨pv, 0, none⟩ = some (.slice (some ⟨b1, o1, none⟩) (linesB b).length jl) ∧ w'.cell? ⟨pi, 0, none⟩ = some (.int .i64 (i : Int)) ∧ w'.cell? ⟨b1, o1 + i * 2, none⟩ = some (.slice ac li.fs.length kc) ∧ w'.cell? ⟨b1, o1 + i * 2 + 1, none⟩ = some (.int .i64 li.bound)) V := fun V e => ⟨keepC e l0, keepC e l1, keepC e s0, keepC e i0, keepC e g0, keepC e g1⟩
  refine wp_region_till (fun w' => w'.cell? ⟨pr, 0, none⟩ = some (.slice pc l.fs.length jc) ∧ w'.cell? ⟨pr, 1, none⟩ = some (.int .i64 l.bound) ∧ w'.cell? ⟨pv, 0, none⟩ = some (.slice (some ⟨b1, o1, none⟩) (linesB b).length jl) ∧ w'.cell? ⟨pi, 0, none⟩ = some (.int .i64 (i : Int)) ∧ w'.cell? ⟨b1, o1 + i * 2, none⟩ = some (.slice ac li.fs.length kc) ∧ w'.cell? ⟨b1, o1 + i * 2 + 1, none⟩ = some (.int .i64 li.bound)) 99 (by kernel_rfl) (hsv _ D0) (fun hHeld => ?_)
  refine Till.take 0 (some 9) (v := ?_) rfl rfl (by kernel_rfl) (by kernel_rfl) (by kernel_rfl) (by kernel_rfl) (fun _ _ _ h => h) (Or.inl ⟨by rfl, ?_⟩) (by assumption) ?_
  rotate_left
  · (intro w hSw; (try dsimp only at hSw); go_simp; try with_reducible rfl)
  try simp only [Act.put, List.setIfInBounds_toArray, List.set_cons_zero, List.set_cons_succ]
  refine Till.take 1 (some 10) (v := ?_) rfl rfl (by kernel_rfl) (by kernel_rfl) (by kernel_rfl) (by kernel_rfl) (fun _ _ _ h => h) (Or.inl ⟨by rfl, ?_⟩) (by assumption) ?_
  rotate_left
  · (intro w hSw; (try dsimp only at hSw); go_simp; try with_reducible rfl)
  try simp only [Act.put, List.setIfInBounds_toArray, List.set_cons_zero, List.set_cons_succ]
  refine Till.take 2 (some 11) (v := ?_) rfl rfl (by kernel_rfl) (by kernel_rfl) (by kernel_rfl) (by kernel_rfl) (fun _ _ _ h => h) (Or.inl ⟨by rfl, ?_⟩) (by assumption) ?_
  rotate_left
  · (intro w hSw; (try dsimp only at hSw); go_simp; try with_reducible rfl)
  try simp only [Act.put, List.setIfInBounds_toArray, List.set_cons_zero, List.set_cons_succ]
  refine Till.take 3 (some 12) (v := ?_) rfl rfl (by kernel_rfl) (by kernel_rfl) (by kernel_rfl) (by kernel_rfl) (fun _ _ _ h => h) (Or.inl ⟨by rfl, ?_⟩) (by assumption) ?_
  rotate_left
  · (intro w hSw; (try dsimp only at hSw); go_simp; try with_reducible rfl)
  try simp only [Act.put, List.setIfInBounds_toArray, List.set_cons_zero, List.set_cons_succ]
  refine Till.take 4 (some 13) (v := ?_) rfl rfl (by kernel_rfl) (by kernel_rfl) (by kernel_rfl) (by kernel_rfl) (fun _ _ _ h => h) (Or.inl ⟨by rfl, ?_⟩) (by assumption) ?_
  rotate_left
  · (intro w hSw; (try dsimp only at hSw); go_simp; try with_reducible rfl)
  try simp only [Act.put, List.setIfInBounds_toArray, List.set_cons_zero, List.set_cons_succ]
  refine Till.take 5 (some 14) (v := ?_) rfl rfl (by kernel_rfl) (by kernel_rfl) (by kernel_rfl) (by kernel_rfl) (fun _ _ _ h => h) (Or.inl ⟨by rfl, ?_⟩) (by assumption) ?_
  rotate_left
  · (intro w hSw; (try dsimp only at hSw); go_simp; try with_reducible rfl)
  try simp only [Act.put, List.setIfInBounds_toArray, List.set_cons_zero, List.set_cons_succ]
  refine Till.take 6 (some 15) (v := ?_) rfl rfl (by kernel_rfl) (by kernel_rfl) (by kernel_rfl) (by kernel_rfl) (fun _ _ _ h => h) (Or.inl ⟨by rfl, ?_⟩) (by assumption) ?_
  rotate_left
  · (intro w hSw; (try dsimp only at hSw); go_simp; try with_reducible rfl)
  try simp only [Act.put, List.setIfInBounds_toArray, List.set_cons_zero, List.set_cons_succ]
  refine Till.two 7 8 rfl rfl (by kernel_rfl) (fun K hK => ?_) (fun K hK => ?_)
  · go_simp
    go_at_call 137
    refine (hpl _ D0).mono ?_
    rintro e w1 ⟨cx, rfl, hcx, hb1⟩
    obtain ⟨px, jx, rfl, -⟩ := id hcx
    have D1 := D0.trans (hb1.mono D0.size)
    refine hK.out _ _ (fun _ => hsv _ D1) (fun hHeld2 => ?_)
    clear hK K
    try simp only [Act.put, List.setIfInBounds_toArray, List.set_cons_zero, List.set_cons_succ]
    refine Till.one 8 rfl (by kernel_rfl) (fun K hK => ?_)
    go_simp
    have D2 := D1.alloc D1.size (.cells #[.slice none 0 0, .int .i64 0] 39)
    have BN := Blk.new w1 #[.slice none 0 0, .int .i64 0] 39
    refine hK.out _ _ (fun _ => hsv _ D2) (fun hHeld2 => ?_)
    clear hK K
    try simp only [Act.put, List.setIfInBounds_toArray, List.set_cons_zero, List.set_cons_succ]
    have k0 := BN.cell 0 _ rfl
    have k1 := BN.cell 1 _ rfl
    have k2 := BN.frozen 0
    have k3 := BN.frozen 1
    refine Till.one 9 rfl (by kernel_rfl) (fun K hK => ?_)
    go_simp
    have DF := D1.alloc D1.size (.cells #[.slice px sx.fs.length jx, .int .i64 sx.bound] 39)
    have BX : BoxLn (w1.alloc (.cells #[.slice px sx.fs.length jx, .int .i64 sx.bound] 39)) w1.heap.size sx := ⟨px, jx, Blk.new _ _ _, (hcx.mono (vis_ext _ _)).mono (ext_of_below (below_box w1 _)), hsb⟩
    refine hK.out _ _ (fun _ => hsv _ DF) (fun hHeld2 => ?_)
    clear hK K
    try simp only [Act.put, List.setIfInBounds_toArray, List.set_cons_zero, List.set_cons_succ]
    generalize w1.alloc (.cells #[.slice px sx.fs.length jx, .int .i64 sx.bound] 39) = WF at *
    clear k0 k1 k2 k3 BN D2 D1
    refine Till.done (by kernel_rfl) ?_ _
    clear hHeld hHeld2 hsv l0 l1 s0 i0 g0 g1 hpl
    go_wp2_with fail
    refine (peak_any 140 isFn_second1 #[.pointer (some ⟨pv, 0, none⟩), .pointer (some ⟨w1.heap.size, 0, none⟩), .pointer (some ⟨pj, 0, none⟩)] (fun y => worthE b s ((u.set i x).set j y)) _ (fun y V h0 h1 hV => beyC_any b hb s (u.set i x) hkx j hj hujx sx hsx pv w1.heap.size pj y h0 h1 V ((Bv0.below DF).below hV) (BX.below hV) ((Bj.more DF).more hV))).mono ?_
    rintro e w5 ⟨rfl, hb5⟩
    go_wp2
    go_ret2
    exact ⟨rfl, DF.trans (hb5.mono DF.size)⟩
  · go_simp
    have D1 := D0.alloc D0.size (.cells #[.slice none 0 0, .int .i64 0] 39)
    have BN0 : Blk (w.drew.alloc (.cells #[.slice none 0 0, .int .i64 0] 39)) w.heap.size #[.slice none 0 0, .int .i64 0] 39 := Blk.new w.drew #[.slice none 0 0, .int .i64 0] 39
    refine hK.out _ _ (fun _ => hsv _ D1) (fun hHeld2 => ?_)
    clear hK K
    try simp only [Act.put, List.setIfInBounds_toArray, List.set_cons_zero, List.set_cons_succ]
    refine Till.one 7 rfl (by kernel_rfl) (fun K hK => ?_)
    go_simp
    go_at_call 137
    refine (hpl _ D1).mono ?_
    rintro e w1 ⟨cx, rfl, hcx, hb1⟩
    obtain ⟨px, jx, rfl, -⟩ := id hcx
    have D2 := D1.trans (hb1.mono D1.size)
    have BN := BN0.more hb1
    refine hK.out _ _ (fun _ => hsv _ D2) (fun hHeld2 => ?_)
    clear hK K
    try simp only [Act.put, List.setIfInBounds_toArray, List.set_cons_zero, List.set_cons_succ]
    have k0 := BN.cell 0 _ rfl
    have k1 := BN.cell 1 _ rfl
    have k2 := BN.frozen 0
    have k3 := BN.frozen 1
    have hds : w.drew.heap.size = w.heap.size := rfl
    refine Till.one 9 rfl (by kernel_rfl) (fun K hK => ?_)
    go_simp
    have DF : Below w.heap.size w ((w1.setCell ⟨w.heap.size, 0, none⟩ (.slice px sx.fs.length jx)).setCell ⟨w.heap.size, 1, none⟩ (.int .i64 sx.bound)) := (D2.setCell (p := ⟨w.heap.size, 0, none⟩) (Nat.le_refl _) _).setCell (p := ⟨w.heap.size, 1, none⟩) (Nat.le_refl _) _
    have BX : BoxLn ((w1.setCell ⟨w.heap.size, 0, none⟩ (.slice px sx.fs.length jx)).setCell ⟨w.heap.size, 1, none⟩ (.int .i64 sx.bound)) w.heap.size sx := by
      refine ⟨px, jx, by simpa using (BN.set 0 (.slice px sx.fs.length jx)).set 1 (.int .i64 sx.bound), ?_, hsb⟩
      have hlow := D1.size
      refine hcx.mono (ext_vis_out fun p y hp hy => ?_)
      have hne : p.block ≠ w.heap.size := by simp at hp; omega
      unfold World.cell? at hy ⊢
      rw [Below.heap_setCell _ _ _ _ hne, Below.heap_setCell _ _ _ _ hne]
      exact hy
    refine hK.out _ _ (fun _ => hsv _ DF) (fun hHeld2 => ?_)
    clear hK K
    try simp only [Act.put, List.setIfInBounds_toArray, List.set_cons_zero, List.set_cons_succ]
    generalize (w1.setCell ⟨w.heap.size, 0, none⟩ (.slice px sx.fs.length jx)).setCell ⟨w.heap.size, 1, none⟩ (.int .i64 sx.bound) = WF at *
    clear k0 k1 k2 k3 BN D2 D1 BN0
    refine Till.done (by kernel_rfl) ?_ _
    clear hHeld hHeld2 hsv l0 l1 s0 i0 g0 g1 hpl
    go_wp2_with fail
    refine (peak_any 140 isFn_second1 #[.pointer (some ⟨pv, 0, none⟩), .pointer (some ⟨w.heap.size, 0, none⟩), .pointer (some ⟨pj, 0, none⟩)] (fun y => worthE b s ((u.set i x).set j y)) _ (fun y V h0 h1 hV => beyC_any b hb s (u.set i x) hkx j hj hujx sx hsx pv w.heap.size pj y h0 h1 V ((Bv0.below DF).below hV) (BX.below hV) ((Bj.more DF).more hV))).mono ?_
    rintro e w5 ⟨rfl, hb5⟩
    go_wp2
    go_ret2
    exact ⟨rfl, DF.trans (hb5.mono DF.size)⟩

end Go.Proofs.Ytpkggjfaefkiiaa
