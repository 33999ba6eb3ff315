/- raise, by its contract; no statement is proved here. -/
import Derived.Test.YtpkggjfaefkiiaaRaise
namespace Go.Proofs.Ytpkggjfaefkiiaa
open Go.RowKit Go.PlainAid
set_option linter.unusedVariables false

theorem plus_I64 (l : Ln) (k : Int) (o : Ln) : (∀ q ∈ (plusE l k o).fs, I64 q) ∧ I64 (plusE l k o).bound :=
  ⟨fun q hq => by simp only [plusE, zipE] at hq; obtain ⟨z, -, rfl⟩ := List.mem_map.1 hq; exact wrap_I64 _, wrap_I64 _⟩

set_option maxRecDepth 100000 in
theorem secN_any (b : Bat) (hb : OkB b) (s : Int) (u : List Int) (hk : PfOk (psB b) (linesB b) s u) (i j : Nat) (hi : i < (linesB b).length) (hj : j < (linesB b).length) (hij : i ≠ j) (hui : u.getD i 0 = 0) (huj : u.getD j 0 = 0) (l : Ln) (hl : IsSum (psB b) (linesB b) s u l) (hl64 : ∀ q ∈ l.fs, I64 q) (pr pv pi pj pf : Nat) (x : Int) (hx0 : 0 ≤ x) (hx1 : x ≤ 1000) (w : World)
    (Bl : BoxLn w pr l) (Bv : BoxPr w pv b) (Bi : Blk w pi #[.int .i64 (i : Int)] 3) (Bj : Blk w pj #[.int .i64 (j : Int)] 3) (Bf : Blk w pf #[.func (.func 138) #[] #[.pointer (some ⟨pr, 0, none⟩), .pointer (some ⟨pv, 0, none⟩), .pointer (some ⟨pi, 0, none⟩), .pointer (some ⟨pj, 0, none⟩)]] 159) :
    Calls Try.prog 141 #[.int .i64 x, .pointer (some ⟨pf, 0, none⟩)] w fun e w' => e = .returned (.int .i64 (worthE b s ((u.set i x).set j (pkAt fun y => worthE b s ((u.set i x).set j y))))) ∧ Below w.heap.size w w' := by
  have hsec := secC_any b hb s u hk i j hi hj hij hui huj l hl hl64 pr pv pi pj x hx0 hx1 w Bl Bv Bi Bj
  have hF := isFn_second
  unfold IsFn at hF
  have f0 := Bf.cell 0 _ rfl
  go_enter Try.func141, Try.ntmps141
  go_wp2_with fail
  refine hsec.mono ?_
  rintro e w1 ⟨rfl, hb1⟩
  clear f0 hF
  go_wp2
  go_ret
  exact ⟨rfl, hb1⟩

def RaiseIs (b : Bat) (s : Int) (ws : List Int) (i j : Nat) (w : World) (e : Ending) (w' : World) : Prop :=
  ∃ x y, e = .returned (.tuple #[.int .i64 x, .int .i64 y, .int .i64 (worthE b s (set2 ws i j x y))]) ∧ (0 ≤ x ∧ x ≤ 1000) ∧ (0 ≤ y ∧ y ≤ 1000) ∧ Below w.heap.size w w'

set_option maxHeartbeats 8000000 in
set_option maxRecDepth 100000 in
theorem raise_any (b : Bat) (hb : OkB b) (s : Int) (ws : List Int) (hk : PfOk (psB b) (linesB b) s ws) (i j : Nat) (hi : i < (linesB b).length) (hji : j < i) (vp vw : Value) (w : World) (hvp : VPr w vp (linesB b) (psB b) (lsB b) (msB b)) (hw : RInts w vw ws) :
    Calls Try.prog 126 #[vp, .agg #[.int .i64 s, vw], .int .i64 (i : Int), .int .i64 (j : Int)] w (RaiseIs b s ws i j w) := by
  have hm := hb.mt
  have hP : (psB b).length = b.mats.length := by simp [psB]
  have hj : j < (linesB b).length := by omega
  have hij : i ≠ j := by omega
  have hiw : i < ws.length := by rw [hk.len]; exact hi
  have hjw : j < ws.length := by rw [hk.len]; exact hj
  have hki := hk.set i 0 (by omega)
  have hkij := hki.set j 0 (by omega)
  have hs0 := sum_is hk
  have hs1 := plus_set hk hs0 i hi 0 (by omega)
  have hji0 : (ws.set i 0).getD j 0 = ws.getD j 0 := by rw [getD_set ws i j 0 hiw, if_neg hij]
  have hs2 := plus_set hki hs1 j hj 0 (by omega)
  rw [hji0] at hs2
  have hu1 : ((ws.set i 0).set j 0).getD i 0 = 0 := by rw [getD_set _ j i 0 (by rw [List.length_set]; exact hjw), if_neg (Ne.symm hij), getD_set ws i i 0 hiw, if_pos rfl]
  have hu2 : ((ws.set i 0).set j 0).getD j 0 = 0 := by rw [getD_set _ j j 0 (by rw [List.length_set]; exact hjw), if_pos rfl]
  have hfti := hk.fs _ (List.getElem_mem hi)
  have hftj := hk.fs _ (List.getElem_mem hj)
  have hwi := hk.hw _ (getD_mem (d := 0) hiw)
  have hwj := hk.hw _ (getD_mem (d := 0) hjw)
  have hn := hk.n
  obtain ⟨pl, jl, pp, jp, pa, ja, pm, jm, rfl, hL, -, -, -⟩ := hvp.ex
  obtain ⟨z, zc, zq, -, ⟨-, hlz⟩, hLn⟩ := id hL
  cases zq
  obtain ⟨b1, o1, rfl, c, q, gi0, gi1, hci, rfl, hqi⟩ := hLn i hi
  obtain ⟨ac, kc, rfl, -, -, -⟩ := id hci
  obtain ⟨b1', o1', eb, c, q, gj0, gj1, hcj, rfl, hqj⟩ := hLn j hj
  cases eb
  obtain ⟨bc, mc, rfl, -, -, -⟩ := id hcj
  obtain ⟨pw, jw, rfl, -, ⟨-, hwz⟩, hwc⟩ := id hw
  obtain ⟨b2, o2, rfl, wi0, -⟩ := hwc i hiw
  obtain ⟨b2', o2', eb, wj0, -⟩ := hwc j hjw
  cases eb
  rw [Nat.mul_one] at wi0 wj0
  simp only at gi0 gi1 gj0 gj1
  rw [show ws[i] = ws.getD i 0 by simp [List.getD, List.getElem?_eq_getElem hiw]] at wi0
  rw [show ws[j] = ws.getD j 0 by simp [List.getD, List.getElem?_eq_getElem hjw]] at wj0
  rw [ln_at hi] at hs1
  rw [ln_at hi, ln_at hj] at hs2
  rw [Int.zero_sub] at hs1
  rw [Int.zero_sub, Int.zero_sub] at hs2
  obtain ⟨WB, hWB⟩ : ∃ WB : World, WB = (((w.alloc (.cells #[.slice (some ⟨b1, o1, none⟩) (linesB b).length jl, .slice pp (psB b).length jp, .slice pa (lsB b).length ja, .slice pm (msB b).length jm] 107)).alloc (.cells #[.int .i64 s, .slice (some ⟨b2, o2, none⟩) ws.length jw] 42)).alloc (.cells #[.int .i64 (i : Int)] 3)).alloc (.cells #[.int .i64 (j : Int)] 3) := ⟨_, rfl⟩
  have hA : Below w.heap.size w WB := by subst hWB; go_grown
  have BV : Blk WB w.heap.size #[.slice (some ⟨b1, o1, none⟩) (linesB b).length jl, .slice pp (psB b).length jp, .slice pa (lsB b).length ja, .slice pm (msB b).length jm] 107 := by subst hWB; exact (((Blk.new _ _ _).alloc _).alloc _).alloc _
  have BP : Blk WB (w.heap.size + 1) #[.int .i64 s, .slice (some ⟨b2, o2, none⟩) ws.length jw] 42 := by
    subst hWB
    have := ((Blk.new (w.alloc (.cells #[.slice (some ⟨b1, o1, none⟩) (linesB b).length jl, .slice pp (psB b).length jp, .slice pa (lsB b).length ja, .slice pm (msB b).length jm] 107)) #[.int .i64 s, .slice (some ⟨b2, o2, none⟩) ws.length jw] 42).alloc (.cells #[.int .i64 (i : Int)] 3)).alloc (.cells #[.int .i64 (j : Int)] 3)
    simpa using this
  have BI : Blk WB (w.heap.size + 1 + 1) #[.int .i64 (i : Int)] 3 := by
    subst hWB
    have := (Blk.new ((w.alloc (.cells #[.slice (some ⟨b1, o1, none⟩) (linesB b).length jl, .slice pp (psB b).length jp, .slice pa (lsB b).length ja, .slice pm (msB b).length jm] 107)).alloc (.cells #[.int .i64 s, .slice (some ⟨b2, o2, none⟩) ws.length jw] 42)) #[.int .i64 (i : Int)] 3).alloc (.cells #[.int .i64 (j : Int)] 3)
    simpa using this
  have BJ : Blk WB (w.heap.size + 1 + 1 + 1) #[.int .i64 (j : Int)] 3 := by
    subst hWB
    have := Blk.new (((w.alloc (.cells #[.slice (some ⟨b1, o1, none⟩) (linesB b).length jl, .slice pp (psB b).length jp, .slice pa (lsB b).length ja, .slice pm (msB b).length jm] 107)).alloc (.cells #[.int .i64 s, .slice (some ⟨b2, o2, none⟩) ws.length jw] 42)).alloc (.cells #[.int .i64 (i : Int)] 3)) #[.int .i64 (j : Int)] 3
    simpa using this
  have hzW : w.heap.size + 1 + 1 + 1 < WB.heap.size := BJ.lt
  have eA := ext_of_below hA
  have D0 : Below WB.heap.size WB WB.drew := (Below.refl _ _).drew
  have hsum := fun (V : World) (e : Below WB.heap.size WB V) => psum_any _ (linesB b) (psB b) (lsB b) (msB b) s _ ws V (hvp.mono (eA.trans (ext_of_below e))) (hw.mono (eA.trans (ext_of_below e))) hk (by omega) (by omega)
  have hsi := fs_I64 (psB b) (linesB b) s ws (linesB b).length
  generalize hl0 : sumT (psB b) (linesB b) s ws (linesB b).length = l0 at *
  have hp1 := fun (c0 : Option Addr) (k0 : Nat) (V : World) (e : Below WB.heap.size WB V) (hc : RInts V (.slice c0 l0.fs.length k0) l0.fs) => plus_any (.agg #[.slice c0 l0.fs.length k0, .int .i64 l0.bound]) (.agg #[.slice ac (linesB b)[i].fs.length kc, .int .i64 (linesB b)[i].bound]) l0 (linesB b)[i] (-(ws.getD i 0)) V ⟨_, rfl, hc, hsi.2⟩ ⟨_, rfl, hci.mono (eA.trans (ext_of_below e)), hqi⟩ (by rw [hfti.1, hs0.len]) (by rw [hs0.len, hP]; omega) hsi.1
  have h1i := plus_I64 l0 (-(ws.getD i 0)) (linesB b)[i]
  generalize hl1 : plusE l0 (-(ws.getD i 0)) (linesB b)[i] = l1 at *
  have hp2 := fun (c0 : Option Addr) (k0 : Nat) (V : World) (e : Below WB.heap.size WB V) (hc : RInts V (.slice c0 l1.fs.length k0) l1.fs) => plus_any (.agg #[.slice c0 l1.fs.length k0, .int .i64 l1.bound]) (.agg #[.slice bc (linesB b)[j].fs.length mc, .int .i64 (linesB b)[j].bound]) l1 (linesB b)[j] (-(ws.getD j 0)) V ⟨_, rfl, hc, h1i.2⟩ ⟨_, rfl, hcj.mono (eA.trans (ext_of_below e)), hqj⟩ (by rw [hftj.1, hs1.len]) (by rw [hs1.len, hP]; omega) h1i.1
  obtain ⟨h2s, h2i⟩ := plus_I64 l1 (-(ws.getD j 0)) (linesB b)[j]
  generalize hl2 : plusE l1 (-(ws.getD j 0)) (linesB b)[j] = l2 at *
  have e1 : IntKind.i64.wrap (-(ws.getD i 0)) = -(ws.getD i 0) := IntWalk.i64_in _ (by omega)
  have e2 : IntKind.i64.wrap (-(ws.getD j 0)) = -(ws.getD j 0) := IntWalk.i64_in _ (by omega)
  replace gi0 := eA _ _ gi0
  replace gi1 := eA _ _ gi1
  replace gj0 := eA _ _ gj0
  replace gj1 := eA _ _ gj1
  replace wi0 := eA _ _ wi0
  replace wj0 := eA _ _ wj0
  have s0 := BV.cell 0 _ rfl
  have s1 := BV.cell 1 _ rfl
  have s2 := BV.cell 2 _ rfl
  have s3 := BV.cell 3 _ rfl
  have p0 := BP.cell 0 _ rfl
  have p1 := BP.cell 1 _ rfl
  have i0 := BI.cell 0 _ rfl
  have j0 := BJ.cell 0 _ rfl
  have n1 : (0 : Int) ≤ (i : Int) := Int.natCast_nonneg _
  have n2 : (i : Int) < ((linesB b).length : Int) := by omega
  have n3 : (0 : Int) ≤ (j : Int) := Int.natCast_nonneg _
  have n4 : (j : Int) < ((linesB b).length : Int) := by omega
  have n5 : (i : Int) < (ws.length : Int) := by omega
  have n6 : (j : Int) < (ws.length : Int) := by omega
  have HB2 := fun x y => set2_back ws i j x y hij
  have BPR : BoxPr WB w.heap.size b := ⟨_, _, _, _, _, _, _, _, BV, hvp.mono eA⟩
  clear hLn hwc hfti hftj hs0 hs1 hl0 hl1 hl2 hji0 hP
  generalize (linesB b)[i] = li at *
  generalize (linesB b)[j] = lj at *
  generalize ws.getD i 0 = wi at *
  generalize ws.getD j 0 = wj at *
  have HB3 := Lib.hid HB2
  have HU1 := Lib.hid hu1
  have HU2 := Lib.hid hu2
  clear HB2 hu1 hu2
  go_enter Try.func126, Try.ntmps126
  go_wp2_with fail
  rw [← hWB]
  clear hWB
  refine wp_mono (Q := fun e AZ WZ => match e with | .normal => ∃ (gd : Nat) (q13 q14 q15 q16 q17 q18 q19 q20 q21 q22 q23 q24 q25 q26 q27 q28 q29 q30 q31 q32 q33 q34 q35 q36 q37 q38 q39 : Value), AZ = { tmps := #[(.agg #[.slice (some ⟨b1, o1, none⟩) (linesB b).length jl, .slice pp (psB b).length jp, .slice pa (lsB b).length ja, .slice pm (msB b).length jm]), (.agg #[.int .i64 s, .slice (some ⟨b2, o2, none⟩) ws.length jw]), .int .i64 (i : Int), .int .i64 (j : Int), .pointer (some ⟨w.heap.size, 0, none⟩), .pointer (some ⟨w.heap.size + 1, 0, none⟩), .pointer (some ⟨w.heap.size + 1 + 1, 0, none⟩), .pointer (some ⟨w.heap.size + 1 + 1 + 1, 0, none⟩), .int .i64 0, .int .i64 0, .int .i64 0, .pointer (some ⟨gd, 0, none⟩), undef, q13, q14, q15, q16, q17, q18, q19, q20, q21, q22, q23, q24, q25, q26, q27, q28, q29, q30, q31, q32, q33, q34, q35, q36, q37, q38, q39, undef, undef, undef, undef, undef, undef, undef, undef, undef, undef, undef, undef, undef, undef, undef], defers := [] } ∧ BoxLn WZ gd l2 ∧ Below WB.heap.size WB WZ | _ => False) ?reg ?rest
  case reg =>
    have hsv : ∀ V, Below WB.heap.size WB V → (fun w' : World => w'.cell? ⟨w.heap.size, 0, none⟩ = some (.slice (some ⟨b1, o1, none⟩) (linesB b).length jl) ∧ w'.cell? ⟨w.heap.size, 1, none⟩ = some (.slice pp (psB b).length jp) ∧ w'.cell? ⟨w.heap.size, 2, none⟩ = some (.slice pa (lsB b).length ja) ∧ w'.cell? ⟨w.heap.size, 3, none⟩ = some (.slice pm (msB b).length jm) ∧ w'.cell? ⟨w.heap.size + 1, 0, none⟩ = some (.int .i64 s) ∧ w'.cell? ⟨w.heap.size + 1, 1, none⟩ = some (.slice (some ⟨b2, o2, none⟩) ws.length jw) ∧ w'.cell? ⟨w.heap.size + 1 + 1, 0, none⟩ = some (.int .i64 (i : Int)) ∧ w'.cell? ⟨w.heap.size + 1 + 1 + 1, 0, none⟩ = some (.int .i64 (j : Int)) ∧ w'.cell? ⟨b2, o2 + i, none⟩ = some (.int .i64 wi) ∧ w'.cell? ⟨b2, o2 + j, none⟩ = some (.int .i64 wj) ∧ w'.cell? ⟨b1, o1 + i * 2, none⟩ = some (.slice ac li.fs.length kc) ∧ w'.cell? ⟨b1, o1 + i * 2 + 1, none⟩ = some (.int .i64 li.bound) ∧ w'.cell? ⟨b1, o1 + j * 2, none⟩ = some (.slice bc lj.fs.length mc) ∧ w'.cell? ⟨b1, o1 + j * 2 + 1, none⟩ = some (.int .i64 lj.bound)) V := fun V e => ⟨keepC e s0, keepC e s1, keepC e s2, keepC e s3, keepC e p0, keepC e p1, keepC e i0, keepC e j0, keepC e wi0, keepC e wj0, keepC e gi0, keepC e gi1, keepC e gj0, keepC e gj1⟩
    refine wp_region_till (fun w' => w'.cell? ⟨w.heap.size, 0, none⟩ = some (.slice (some ⟨b1, o1, none⟩) (linesB b).length jl) ∧ w'.cell? ⟨w.heap.size, 1, none⟩ = some (.slice pp (psB b).length jp) ∧ w'.cell? ⟨w.heap.size, 2, none⟩ = some (.slice pa (lsB b).length ja) ∧ w'.cell? ⟨w.heap.size, 3, none⟩ = some (.slice pm (msB b).length jm) ∧ w'.cell? ⟨w.heap.size + 1, 0, none⟩ = some (.int .i64 s) ∧ w'.cell? ⟨w.heap.size + 1, 1, none⟩ = some (.slice (some ⟨b2, o2, none⟩) ws.length jw) ∧ w'.cell? ⟨w.heap.size + 1 + 1, 0, none⟩ = some (.int .i64 (i : Int)) ∧ w'.cell? ⟨w.heap.size + 1 + 1 + 1, 0, none⟩ = some (.int .i64 (j : Int)) ∧ w'.cell? ⟨b2, o2 + i, none⟩ = some (.int .i64 wi) ∧ w'.cell? ⟨b2, o2 + j, none⟩ = some (.int .i64 wj) ∧ w'.cell? ⟨b1, o1 + i * 2, none⟩ = some (.slice ac li.fs.length kc) ∧ w'.cell? ⟨b1, o1 + i * 2 + 1, none⟩ = some (.int .i64 li.bound) ∧ w'.cell? ⟨b1, o1 + j * 2, none⟩ = some (.slice bc lj.fs.length mc) ∧ w'.cell? ⟨b1, o1 + j * 2 + 1, none⟩ = some (.int .i64 lj.bound)) 99 (by kernel_rfl) (hsv _ D0) (fun hHeld => ?_)
    refine Till.take 0 (some 13) (v := ?_) rfl rfl (by kernel_rfl) (by kernel_rfl) (by kernel_rfl) (by kernel_rfl) (fun _ _ _ h => h) (Or.inl ⟨by rfl, ?_⟩) (by assumption) ?_
    rotate_left
    · (intro w hSw; (try dsimp only at hSw); go_simp; try with_reducible rfl)
    try simp only [Act.put, List.setIfInBounds_toArray, List.set_cons_zero, List.set_cons_succ]
    refine Till.take 1 (some 14) (v := ?_) rfl rfl (by kernel_rfl) (by kernel_rfl) (by kernel_rfl) (by kernel_rfl) (fun _ _ _ h => h) (Or.inl ⟨by rfl, ?_⟩) (by assumption) ?_
    rotate_left
    · (intro w hSw; (try dsimp only at hSw); go_simp; try with_reducible rfl)
    try simp only [Act.put, List.setIfInBounds_toArray, List.set_cons_zero, List.set_cons_succ]
    refine Till.take 3 (some 16) (v := ?_) rfl rfl (by kernel_rfl) (by kernel_rfl) (by kernel_rfl) (by kernel_rfl) (fun _ _ _ h => h) (Or.inl ⟨by rfl, ?_⟩) (by assumption) ?_
    rotate_left
    · (intro w hSw; (try dsimp only at hSw); go_simp; try with_reducible rfl)
    try simp only [Act.put, List.setIfInBounds_toArray, List.set_cons_zero, List.set_cons_succ]
    refine Till.take 4 (some 17) (v := ?_) rfl rfl (by kernel_rfl) (by kernel_rfl) (by kernel_rfl) (by kernel_rfl) (fun _ _ _ h => h) (Or.inl ⟨by rfl, ?_⟩) (by assumption) ?_
    rotate_left
    · (intro w hSw; (try dsimp only at hSw); go_simp; try with_reducible rfl)
    try simp only [Act.put, List.setIfInBounds_toArray, List.set_cons_zero, List.set_cons_succ]
    refine Till.take 5 (some 18) (v := ?_) rfl rfl (by kernel_rfl) (by kernel_rfl) (by kernel_rfl) (by kernel_rfl) (fun _ _ _ h => h) (Or.inl ⟨by rfl, ?_⟩) (by assumption) ?_
    rotate_left
    · (intro w hSw; (try dsimp only at hSw); go_simp; try with_reducible rfl)
    try simp only [Act.put, List.setIfInBounds_toArray, List.set_cons_zero, List.set_cons_succ]
    refine Till.take 6 (some 19) (v := ?_) rfl rfl (by kernel_rfl) (by kernel_rfl) (by kernel_rfl) (by kernel_rfl) (fun _ _ _ h => h) (Or.inl ⟨by rfl, ?_⟩) (by assumption) ?_
    rotate_left
    · (intro w hSw; (try dsimp only at hSw); go_simp; try with_reducible rfl)
    try simp only [Act.put, List.setIfInBounds_toArray, List.set_cons_zero, List.set_cons_succ]
    refine Till.take 7 (some 20) (v := ?_) rfl rfl (by kernel_rfl) (by kernel_rfl) (by kernel_rfl) (by kernel_rfl) (fun _ _ _ h => h) (Or.inl ⟨by rfl, ?_⟩) (by assumption) ?_
    rotate_left
    · (intro w hSw; (try dsimp only at hSw); go_simp; try with_reducible rfl)
    try simp only [Act.put, List.setIfInBounds_toArray, List.set_cons_zero, List.set_cons_succ]
    refine Till.take 8 (some 21) (v := ?_) rfl rfl (by kernel_rfl) (by kernel_rfl) (by kernel_rfl) (by kernel_rfl) (fun _ _ _ h => h) (Or.inl ⟨by rfl, ?_⟩) (by assumption) ?_
    rotate_left
    · (intro w hSw; (try dsimp only at hSw); go_simp; try with_reducible rfl)
    try simp only [Act.put, List.setIfInBounds_toArray, List.set_cons_zero, List.set_cons_succ]
    refine Till.take 9 (some 22) (v := ?_) rfl rfl (by kernel_rfl) (by kernel_rfl) (by kernel_rfl) (by kernel_rfl) (fun _ _ _ h => h) (Or.inl ⟨by rfl, ?_⟩) (by assumption) ?_
    rotate_left
    · (intro w hSw; (try dsimp only at hSw); go_simp; try with_reducible rfl)
    try simp only [Act.put, List.setIfInBounds_toArray, List.set_cons_zero, List.set_cons_succ]
    refine Till.take 10 (some 23) (v := ?_) rfl rfl (by kernel_rfl) (by kernel_rfl) (by kernel_rfl) (by kernel_rfl) (fun _ _ _ h => h) (Or.inl ⟨by rfl, ?_⟩) (by assumption) ?_
    rotate_left
    · (intro w hSw; (try dsimp only at hSw); go_simp; try with_reducible rfl)
    try simp only [Act.put, List.setIfInBounds_toArray, List.set_cons_zero, List.set_cons_succ]
    refine Till.take 11 (some 24) (v := ?_) rfl rfl (by kernel_rfl) (by kernel_rfl) (by kernel_rfl) (by kernel_rfl) (fun _ _ _ h => h) (Or.inl ⟨by rfl, ?_⟩) (by assumption) ?_
    rotate_left
    · (intro w hSw; (try dsimp only at hSw); go_simp; try with_reducible rfl)
    try simp only [Act.put, List.setIfInBounds_toArray, List.set_cons_zero, List.set_cons_succ]
    refine Till.take 12 (some 25) (v := ?_) rfl rfl (by kernel_rfl) (by kernel_rfl) (by kernel_rfl) (by kernel_rfl) (fun _ _ _ h => h) (Or.inl ⟨by rfl, ?_⟩) (by assumption) ?_
    rotate_left
    · (intro w hSw; (try dsimp only at hSw); go_simp; try with_reducible rfl)
    try simp only [Act.put, List.setIfInBounds_toArray, List.set_cons_zero, List.set_cons_succ]
    refine Till.take 13 (some 26) (v := ?_) rfl rfl (by kernel_rfl) (by kernel_rfl) (by kernel_rfl) (by kernel_rfl) (fun _ _ _ h => h) (Or.inl ⟨by rfl, ?_⟩) (by assumption) ?_
    rotate_left
    · (intro w hSw; (try dsimp only at hSw); go_simp; try with_reducible rfl)
    try simp only [Act.put, List.setIfInBounds_toArray, List.set_cons_zero, List.set_cons_succ]
    refine Till.take 15 (some 28) (v := ?_) rfl rfl (by kernel_rfl) (by kernel_rfl) (by kernel_rfl) (by kernel_rfl) (fun _ _ _ h => h) (Or.inl ⟨by rfl, ?_⟩) (by assumption) ?_
    rotate_left
    · (intro w hSw; (try dsimp only at hSw); go_simp; try with_reducible rfl)
    try simp only [Act.put, List.setIfInBounds_toArray, List.set_cons_zero, List.set_cons_succ]
    refine Till.take 16 (some 29) (v := ?_) rfl rfl (by kernel_rfl) (by kernel_rfl) (by kernel_rfl) (by kernel_rfl) (fun _ _ _ h => h) (Or.inl ⟨by rfl, ?_⟩) (by assumption) ?_
    rotate_left
    · (intro w hSw; (try dsimp only at hSw); go_simp; try with_reducible rfl)
    try simp only [Act.put, List.setIfInBounds_toArray, List.set_cons_zero, List.set_cons_succ]
    refine Till.take 17 (some 30) (v := ?_) rfl rfl (by kernel_rfl) (by kernel_rfl) (by kernel_rfl) (by kernel_rfl) (fun _ _ _ h => h) (Or.inl ⟨by rfl, ?_⟩) (by assumption) ?_
    rotate_left
    · (intro w hSw; (try dsimp only at hSw); go_simp; try with_reducible rfl)
    try simp only [Act.put, List.setIfInBounds_toArray, List.set_cons_zero, List.set_cons_succ]
    refine Till.take 18 (some 31) (v := ?_) rfl rfl (by kernel_rfl) (by kernel_rfl) (by kernel_rfl) (by kernel_rfl) (fun _ _ _ h => h) (Or.inl ⟨by rfl, ?_⟩) (by assumption) ?_
    rotate_left
    · (intro w hSw; (try dsimp only at hSw); go_simp; try with_reducible rfl)
    try simp only [Act.put, List.setIfInBounds_toArray, List.set_cons_zero, List.set_cons_succ]
    refine Till.take 19 (some 32) (v := ?_) rfl rfl (by kernel_rfl) (by kernel_rfl) (by kernel_rfl) (by kernel_rfl) (fun _ _ _ h => h) (Or.inl ⟨by rfl, ?_⟩) (by assumption) ?_
    rotate_left
    · (intro w hSw; (try dsimp only at hSw); go_simp; try with_reducible rfl)
    try simp only [Act.put, List.setIfInBounds_toArray, List.set_cons_zero, List.set_cons_succ]
    refine Till.take 20 (some 33) (v := ?_) rfl rfl (by kernel_rfl) (by kernel_rfl) (by kernel_rfl) (by kernel_rfl) (fun _ _ _ h => h) (Or.inl ⟨by rfl, ?_⟩) (by assumption) ?_
    rotate_left
    · (intro w hSw; (try dsimp only at hSw); go_simp; try with_reducible rfl)
    try simp only [Act.put, List.setIfInBounds_toArray, List.set_cons_zero, List.set_cons_succ]
    refine Till.take 21 (some 34) (v := ?_) rfl rfl (by kernel_rfl) (by kernel_rfl) (by kernel_rfl) (by kernel_rfl) (fun _ _ _ h => h) (Or.inl ⟨by rfl, ?_⟩) (by assumption) ?_
    rotate_left
    · (intro w hSw; (try dsimp only at hSw); go_simp; try with_reducible rfl)
    try simp only [Act.put, List.setIfInBounds_toArray, List.set_cons_zero, List.set_cons_succ]
    refine Till.take 22 (some 35) (v := ?_) rfl rfl (by kernel_rfl) (by kernel_rfl) (by kernel_rfl) (by kernel_rfl) (fun _ _ _ h => h) (Or.inl ⟨by rfl, ?_⟩) (by assumption) ?_
    rotate_left
    · (intro w hSw; (try dsimp only at hSw); go_simp; try with_reducible rfl)
    try simp only [Act.put, List.setIfInBounds_toArray, List.set_cons_zero, List.set_cons_succ]
    refine Till.take 23 (some 36) (v := ?_) rfl rfl (by kernel_rfl) (by kernel_rfl) (by kernel_rfl) (by kernel_rfl) (fun _ _ _ h => h) (Or.inl ⟨by rfl, ?_⟩) (by assumption) ?_
    rotate_left
    · (intro w hSw; (try dsimp only at hSw); go_simp; try with_reducible rfl)
    try simp only [Act.put, List.setIfInBounds_toArray, List.set_cons_zero, List.set_cons_succ]
    refine Till.take 24 (some 37) (v := ?_) rfl rfl (by kernel_rfl) (by kernel_rfl) (by kernel_rfl) (by kernel_rfl) (fun _ _ _ h => h) (Or.inl ⟨by rfl, ?_⟩) (by assumption) ?_
    rotate_left
    · (intro w hSw; (try dsimp only at hSw); go_simp; try with_reducible rfl)
    try simp only [Act.put, List.setIfInBounds_toArray, List.set_cons_zero, List.set_cons_succ]
    refine Till.take 25 (some 38) (v := ?_) rfl rfl (by kernel_rfl) (by kernel_rfl) (by kernel_rfl) (by kernel_rfl) (fun _ _ _ h => h) (Or.inl ⟨by rfl, ?_⟩) (by assumption) ?_
    rotate_left
    · (intro w hSw; (try dsimp only at hSw); go_simp; try with_reducible rfl)
    try simp only [Act.put, List.setIfInBounds_toArray, List.set_cons_zero, List.set_cons_succ]
    refine Till.two 2 27 rfl rfl (by kernel_rfl) (fun K hK => ?_) (fun K hK => ?_)
    · go_simp
      go_at_call 124
      refine (hsum _ D0).mono ?_
      rintro e w1 ⟨cx1, rfl, hx1, hb1⟩
      obtain ⟨px1, jx1, rfl, -⟩ := id hx1
      have hc1 := hx1.mono (vis_ext _ _)
      have D1 := D0.trans (hb1.mono D0.size)
      refine hK.out _ _ (fun _ => hsv _ D1) (fun hHeld2 => ?_)
      clear hK K
      try simp only [Act.put, List.setIfInBounds_toArray, List.set_cons_zero, List.set_cons_succ]
      refine Till.two 14 27 rfl rfl (by kernel_rfl) (fun K hK => ?_) (fun K hK => ?_)
      · go_simp
        go_at_call 137
        refine (hp1 _ _ _ D1 hc1).mono ?_
        rintro e w2 ⟨cx2, rfl, hx2, hb2⟩
        obtain ⟨px2, jx2, rfl, -⟩ := id hx2
        have hc2 := hx2.mono (vis_ext _ _)
        have D2 := D1.trans (hb2.mono D1.size)
        refine hK.out _ _ (fun _ => hsv _ D2) (fun hHeld2 => ?_)
        clear hK K
        try simp only [Act.put, List.setIfInBounds_toArray, List.set_cons_zero, List.set_cons_succ]
        refine Till.two 26 27 rfl rfl (by kernel_rfl) (fun K hK => ?_) (fun K hK => ?_)
        · go_simp
          go_at_call 137
          refine (hp2 _ _ _ D2 hc2).mono ?_
          rintro e w3 ⟨cx3, rfl, hx3, hb3⟩
          obtain ⟨px3, jx3, rfl, -⟩ := id hx3
          have hc3 := hx3.mono (vis_ext _ _)
          have D3 := D2.trans (hb3.mono D2.size)
          refine hK.out _ _ (fun _ => hsv _ D3) (fun hHeld2 => ?_)
          clear hK K
          try simp only [Act.put, List.setIfInBounds_toArray, List.set_cons_zero, List.set_cons_succ]
          refine Till.one 27 rfl (by kernel_rfl) (fun K hK => ?_)
          go_simp
          have D4 := D3.alloc D3.size (.cells #[.slice none 0 0, .int .i64 0] 39)
          have BN4 : Blk (w3.alloc (.cells #[.slice none 0 0, .int .i64 0] 39)) (w3.heap.size) #[.slice none 0 0, .int .i64 0] 39 := Blk.new w3 #[.slice none 0 0, .int .i64 0] 39
          refine hK.out _ _ (fun _ => hsv _ D4) (fun hHeld2 => ?_)
          clear hK K
          try simp only [Act.put, List.setIfInBounds_toArray, List.set_cons_zero, List.set_cons_succ]
          have k0 := BN4.cell 0 _ rfl
          have k1 := BN4.cell 1 _ rfl
          have k2 := BN4.frozen 0
          have k3 := BN4.frozen 1
          refine Till.one 28 rfl (by kernel_rfl) (fun K hK => ?_)
          go_simp
          have DF := D3.alloc D3.size (.cells #[.slice px3 l2.fs.length jx3, .int .i64 l2.bound] 39)
          have BX : BoxLn (w3.alloc (.cells #[.slice px3 l2.fs.length jx3, .int .i64 l2.bound] 39)) w3.heap.size l2 := ⟨px3, jx3, Blk.new _ _ _, (hx3.mono (vis_ext _ _)).mono (ext_of_below (below_box w3 _)), h2i⟩
          refine hK.out _ _ (fun _ => hsv _ DF) (fun hHeld2 => ?_)
          clear hK K
          try simp only [Act.put, List.setIfInBounds_toArray, List.set_cons_zero, List.set_cons_succ]
          refine Till.done (by kernel_rfl) ?_ _
          exact ⟨_, _, _, _, _, _, _, _, _, _, _, _, _, _, _, _, _, _, _, _, _, _, _, _, _, _, _, _, rfl, BX, DF⟩
        · go_simp
          have D5 := D2.alloc D2.size (.cells #[.slice none 0 0, .int .i64 0] 39)
          have BN5 : Blk (w2.alloc (.cells #[.slice none 0 0, .int .i64 0] 39)) (w2.heap.size) #[.slice none 0 0, .int .i64 0] 39 := Blk.new w2 #[.slice none 0 0, .int .i64 0] 39
          have hca5 := hc2.mono (ext_of_below (below_box w2 (.cells #[.slice none 0 0, .int .i64 0] 39)))
          refine hK.out _ _ (fun _ => hsv _ D5) (fun hHeld2 => ?_)
          clear hK K
          try simp only [Act.put, List.setIfInBounds_toArray, List.set_cons_zero, List.set_cons_succ]
          refine Till.one 26 rfl (by kernel_rfl) (fun K hK => ?_)
          go_simp
          go_at_call 137
          refine (hp2 _ _ _ D5 hca5).mono ?_
          rintro e w6 ⟨cx6, rfl, hx6, hb6⟩
          obtain ⟨px6, jx6, rfl, -⟩ := id hx6
          have hc6 := hx6.mono (vis_ext _ _)
          have D6 := D5.trans (hb6.mono D5.size)
          have BN6 := BN5.more hb6
          refine hK.out _ _ (fun _ => hsv _ D6) (fun hHeld2 => ?_)
          clear hK K
          try simp only [Act.put, List.setIfInBounds_toArray, List.set_cons_zero, List.set_cons_succ]
          have k0 := BN6.cell 0 _ rfl
          have k1 := BN6.cell 1 _ rfl
          have k2 := BN6.frozen 0
          have k3 := BN6.frozen 1
          refine Till.one 28 rfl (by kernel_rfl) (fun K hK => ?_)
          go_simp
          have hg1 : WB.heap.size ≤ w2.heap.size := D2.size
          have hlow := D5.size
          have DF := (D6.setCell (p := ⟨w2.heap.size, 0, none⟩) hg1 (.slice px6 l2.fs.length jx6)).setCell (p := ⟨w2.heap.size, 1, none⟩) hg1 (.int .i64 l2.bound)
          have BX : BoxLn ((w6.setCell ⟨w2.heap.size, 0, none⟩ (.slice px6 l2.fs.length jx6)).setCell ⟨w2.heap.size, 1, none⟩ (.int .i64 l2.bound)) (w2.heap.size) l2 := by
            refine ⟨px6, jx6, by simpa using (BN6.set 0 (.slice px6 l2.fs.length jx6)).set 1 (.int .i64 l2.bound), ?_, h2i⟩
            have hgl := BN5.lt
            refine hx6.mono (ext_vis_out fun p y hp hy => ?_)
            have hne : p.block ≠ w2.heap.size := by (try simp only [World.size_drew, World.size_alloc] at *); omega
            unfold World.cell? at hy ⊢
            rw [Below.heap_setCell _ _ _ _ hne, Below.heap_setCell _ _ _ _ hne]
            exact hy
          refine hK.out _ _ (fun _ => hsv _ DF) (fun hHeld2 => ?_)
          clear hK K
          try simp only [Act.put, List.setIfInBounds_toArray, List.set_cons_zero, List.set_cons_succ]
          refine Till.done (by kernel_rfl) ?_ _
          exact ⟨_, _, _, _, _, _, _, _, _, _, _, _, _, _, _, _, _, _, _, _, _, _, _, _, _, _, _, _, rfl, BX, DF⟩
      · go_simp
        have D7 := D1.alloc D1.size (.cells #[.slice none 0 0, .int .i64 0] 39)
        have BN7 : Blk (w1.alloc (.cells #[.slice none 0 0, .int .i64 0] 39)) (w1.heap.size) #[.slice none 0 0, .int .i64 0] 39 := Blk.new w1 #[.slice none 0 0, .int .i64 0] 39
        have hca7 := hc1.mono (ext_of_below (below_box w1 (.cells #[.slice none 0 0, .int .i64 0] 39)))
        refine hK.out _ _ (fun _ => hsv _ D7) (fun hHeld2 => ?_)
        clear hK K
        try simp only [Act.put, List.setIfInBounds_toArray, List.set_cons_zero, List.set_cons_succ]
        refine Till.one 14 rfl (by kernel_rfl) (fun K hK => ?_)
        go_simp
        go_at_call 137
        refine (hp1 _ _ _ D7 hca7).mono ?_
        rintro e w8 ⟨cx8, rfl, hx8, hb8⟩
        obtain ⟨px8, jx8, rfl, -⟩ := id hx8
        have hc8 := hx8.mono (vis_ext _ _)
        have D8 := D7.trans (hb8.mono D7.size)
        have BN8 := BN7.more hb8
        refine hK.out _ _ (fun _ => hsv _ D8) (fun hHeld2 => ?_)
        clear hK K
        try simp only [Act.put, List.setIfInBounds_toArray, List.set_cons_zero, List.set_cons_succ]
        refine Till.one 26 rfl (by kernel_rfl) (fun K hK => ?_)
        go_simp
        go_at_call 137
        refine (hp2 _ _ _ D8 hc8).mono ?_
        rintro e w9 ⟨cx9, rfl, hx9, hb9⟩
        obtain ⟨px9, jx9, rfl, -⟩ := id hx9
        have hc9 := hx9.mono (vis_ext _ _)
        have D9 := D8.trans (hb9.mono D8.size)
        have BN9 := BN8.more hb9
        refine hK.out _ _ (fun _ => hsv _ D9) (fun hHeld2 => ?_)
        clear hK K
        try simp only [Act.put, List.setIfInBounds_toArray, List.set_cons_zero, List.set_cons_succ]
        have k0 := BN9.cell 0 _ rfl
        have k1 := BN9.cell 1 _ rfl
        have k2 := BN9.frozen 0
        have k3 := BN9.frozen 1
        refine Till.one 28 rfl (by kernel_rfl) (fun K hK => ?_)
        go_simp
        have hg1 : WB.heap.size ≤ w1.heap.size := D1.size
        have hlow := D8.size
        have DF := (D9.setCell (p := ⟨w1.heap.size, 0, none⟩) hg1 (.slice px9 l2.fs.length jx9)).setCell (p := ⟨w1.heap.size, 1, none⟩) hg1 (.int .i64 l2.bound)
        have BX : BoxLn ((w9.setCell ⟨w1.heap.size, 0, none⟩ (.slice px9 l2.fs.length jx9)).setCell ⟨w1.heap.size, 1, none⟩ (.int .i64 l2.bound)) (w1.heap.size) l2 := by
          refine ⟨px9, jx9, by simpa using (BN9.set 0 (.slice px9 l2.fs.length jx9)).set 1 (.int .i64 l2.bound), ?_, h2i⟩
          have hgl := BN8.lt
          refine hx9.mono (ext_vis_out fun p y hp hy => ?_)
          have hne : p.block ≠ w1.heap.size := by (try simp only [World.size_drew, World.size_alloc] at *); omega
          unfold World.cell? at hy ⊢
          rw [Below.heap_setCell _ _ _ _ hne, Below.heap_setCell _ _ _ _ hne]
          exact hy
        refine hK.out _ _ (fun _ => hsv _ DF) (fun hHeld2 => ?_)
        clear hK K
        try simp only [Act.put, List.setIfInBounds_toArray, List.set_cons_zero, List.set_cons_succ]
        refine Till.done (by kernel_rfl) ?_ _
        exact ⟨_, _, _, _, _, _, _, _, _, _, _, _, _, _, _, _, _, _, _, _, _, _, _, _, _, _, _, _, rfl, BX, DF⟩
    · go_simp
      have D10 := D0.alloc D0.size (.cells #[.slice none 0 0, .int .i64 0] 39)
      have BN10 : Blk (WB.drew.alloc (.cells #[.slice none 0 0, .int .i64 0] 39)) (WB.heap.size) #[.slice none 0 0, .int .i64 0] 39 := Blk.new WB.drew #[.slice none 0 0, .int .i64 0] 39
      refine hK.out _ _ (fun _ => hsv _ D10) (fun hHeld2 => ?_)
      clear hK K
      try simp only [Act.put, List.setIfInBounds_toArray, List.set_cons_zero, List.set_cons_succ]
      refine Till.one 2 rfl (by kernel_rfl) (fun K hK => ?_)
      go_simp
      go_at_call 124
      refine (hsum _ D10).mono ?_
      rintro e w11 ⟨cx11, rfl, hx11, hb11⟩
      obtain ⟨px11, jx11, rfl, -⟩ := id hx11
      have hc11 := hx11.mono (vis_ext _ _)
      have D11 := D10.trans (hb11.mono D10.size)
      have BN11 := BN10.more hb11
      refine hK.out _ _ (fun _ => hsv _ D11) (fun hHeld2 => ?_)
      clear hK K
      try simp only [Act.put, List.setIfInBounds_toArray, List.set_cons_zero, List.set_cons_succ]
      refine Till.one 14 rfl (by kernel_rfl) (fun K hK => ?_)
      go_simp
      go_at_call 137
      refine (hp1 _ _ _ D11 hc11).mono ?_
      rintro e w12 ⟨cx12, rfl, hx12, hb12⟩
      obtain ⟨px12, jx12, rfl, -⟩ := id hx12
      have hc12 := hx12.mono (vis_ext _ _)
      have D12 := D11.trans (hb12.mono D11.size)
      have BN12 := BN11.more hb12
      refine hK.out _ _ (fun _ => hsv _ D12) (fun hHeld2 => ?_)
      clear hK K
      try simp only [Act.put, List.setIfInBounds_toArray, List.set_cons_zero, List.set_cons_succ]
      refine Till.one 26 rfl (by kernel_rfl) (fun K hK => ?_)
      go_simp
      go_at_call 137
      refine (hp2 _ _ _ D12 hc12).mono ?_
      rintro e w13 ⟨cx13, rfl, hx13, hb13⟩
      obtain ⟨px13, jx13, rfl, -⟩ := id hx13
      have hc13 := hx13.mono (vis_ext _ _)
      have D13 := D12.trans (hb13.mono D12.size)
      have BN13 := BN12.more hb13
      refine hK.out _ _ (fun _ => hsv _ D13) (fun hHeld2 => ?_)
      clear hK K
      try simp only [Act.put, List.setIfInBounds_toArray, List.set_cons_zero, List.set_cons_succ]
      have k0 := BN13.cell 0 _ rfl
      have k1 := BN13.cell 1 _ rfl
      have k2 := BN13.frozen 0
      have k3 := BN13.frozen 1
      refine Till.one 28 rfl (by kernel_rfl) (fun K hK => ?_)
      go_simp
      have hg1 : WB.heap.size ≤ WB.heap.size := Nat.le_refl _
      have hlow := D12.size
      have DF := (D13.setCell (p := ⟨WB.heap.size, 0, none⟩) hg1 (.slice px13 l2.fs.length jx13)).setCell (p := ⟨WB.heap.size, 1, none⟩) hg1 (.int .i64 l2.bound)
      have BX : BoxLn ((w13.setCell ⟨WB.heap.size, 0, none⟩ (.slice px13 l2.fs.length jx13)).setCell ⟨WB.heap.size, 1, none⟩ (.int .i64 l2.bound)) (WB.heap.size) l2 := by
        refine ⟨px13, jx13, by simpa using (BN13.set 0 (.slice px13 l2.fs.length jx13)).set 1 (.int .i64 l2.bound), ?_, h2i⟩
        have hgl := BN12.lt
        refine hx13.mono (ext_vis_out fun p y hp hy => ?_)
        have hne : p.block ≠ WB.heap.size := by (try simp only [World.size_drew, World.size_alloc] at *); omega
        unfold World.cell? at hy ⊢
        rw [Below.heap_setCell _ _ _ _ hne, Below.heap_setCell _ _ _ _ hne]
        exact hy
      refine hK.out _ _ (fun _ => hsv _ DF) (fun hHeld2 => ?_)
      clear hK K
      try simp only [Act.put, List.setIfInBounds_toArray, List.set_cons_zero, List.set_cons_succ]
      refine Till.done (by kernel_rfl) ?_ _
      exact ⟨_, _, _, _, _, _, _, _, _, _, _, _, _, _, _, _, _, _, _, _, _, _, _, _, _, _, _, _, rfl, BX, DF⟩
  case rest =>
    rintro e AZ WZ hq
    cases e <;> first | exact hq.elim | skip
    obtain ⟨gd, q13, q14, q15, q16, q17, q18, q19, q20, q21, q22, q23, q24, q25, q26, q27, q28, q29, q30, q31, q32, q33, q34, q35, q36, q37, q38, q39, rfl, BX, DZ⟩ := hq
    clear s0 s1 s2 s3 p0 p1 i0 j0 gi0 gi1 gj0 gj1 wi0 wj0 hsum hp1 hp2 e1 e2 D0
    go_wp2_with fail
    have BFZ := Blk.new WZ #[.func (.func 138) #[] #[.pointer (some ⟨gd, 0, none⟩), .pointer (some ⟨w.heap.size, 0, none⟩), .pointer (some ⟨w.heap.size + 1 + 1, 0, none⟩), .pointer (some ⟨w.heap.size + 1 + 1 + 1, 0, none⟩)]] 159
    have hXZ := below_box WZ (.cells #[.func (.func 138) #[] #[.pointer (some ⟨gd, 0, none⟩), .pointer (some ⟨w.heap.size, 0, none⟩), .pointer (some ⟨w.heap.size + 1 + 1, 0, none⟩), .pointer (some ⟨w.heap.size + 1 + 1 + 1, 0, none⟩)]] 159)
    have DY := DZ.trans (hXZ.mono DZ.size)
    have BX2 := BX.below hXZ
    have BV2 := BPR.below DY
    have BI2 := BI.more DY
    have BJ2 := BJ.more DY
    clear hXZ BX BPR BI BJ
    generalize WZ.alloc (.cells #[.func (.func 138) #[] #[.pointer (some ⟨gd, 0, none⟩), .pointer (some ⟨w.heap.size, 0, none⟩), .pointer (some ⟨w.heap.size + 1 + 1, 0, none⟩), .pointer (some ⟨w.heap.size + 1 + 1 + 1, 0, none⟩)]] 159) = WY at *
    refine (peak_any 141 isFn_raise2 #[.pointer (some ⟨WZ.heap.size, 0, none⟩)] (fun x => worthE b s ((((ws.set i 0).set j 0).set i x).set j (pkAt fun y => worthE b s ((((ws.set i 0).set j 0).set i x).set j y)))) _ (fun x V h0 h1 hV => secN_any b hb s ((ws.set i 0).set j 0) hkij i j hi hj hij HU1.out HU2.out l2 hs2 h2s gd w.heap.size (w.heap.size + 1 + 1) (w.heap.size + 1 + 1 + 1) WZ.heap.size x h0 h1 V (BX2.below hV) (BV2.below hV) (BI2.more hV) (BJ2.more hV) (BFZ.more hV))).mono ?_
    unfold PkIs
    dsimp only
    obtain ⟨x0, hx0⟩ : ∃ x0, x0 = pkAt (fun x => worthE b s ((((ws.set i 0).set j 0).set i x).set j (pkAt fun y => worthE b s ((((ws.set i 0).set j 0).set i x).set j y)))) := ⟨_, rfl⟩
    have hxb := pkAt_bd (fun x => worthE b s ((((ws.set i 0).set j 0).set i x).set j (pkAt fun y => worthE b s ((((ws.set i 0).set j 0).set i x).set j y))))
    rw [← hx0] at hxb ⊢
    clear hx0
    obtain ⟨hxb0, hxb1⟩ := hxb
    have hsec := fun (V : World) (hV : Below WY.heap.size WY V) => secC_any b hb s ((ws.set i 0).set j 0) hkij i j hi hj hij HU1.out HU2.out l2 hs2 h2s gd w.heap.size (w.heap.size + 1 + 1) (w.heap.size + 1 + 1 + 1) x0 hxb0 hxb1 V (BX2.below hV) (BV2.below hV) (BI2.more hV) (BJ2.more hV)
    unfold PkIs at hsec
    dsimp only at hsec
    have hyb := pkAt_bd (fun y => worthE b s ((((ws.set i 0).set j 0).set i x0).set j y))
    generalize pkAt (fun y => worthE b s ((((ws.set i 0).set j 0).set i x0).set j y)) = y0 at *
    rw [HB3.out x0 y0] at hsec ⊢
    generalize hm0 : worthE b s (set2 ws i j x0 y0) = m0 at *
    have HM := Lib.hid hm0
    clear hm0
    rintro e w5 ⟨rfl, hb5⟩
    have f0 := (BFZ.more hb5).cell 0 _ rfl
    have hF := isFn_second
    unfold IsFn at hF
    go_wp2_with fail
    refine (hsec _ hb5).mono ?_
    rintro e w6 ⟨rfl, hb6⟩
    have hfin := (hA.trans (DY.mono hA.size)).trans ((hb5.mono (hA.trans (DY.mono hA.size)).size).trans (hb6.mono (Nat.le_trans (hA.trans (DY.mono hA.size)).size hb5.size)))
    clear f0 hF hsec hb5 hb6 DY DZ BFZ
    go_wp2
    refine bodyPost_ret (v := .tuple #[.int .i64 x0, .int .i64 y0, .int .i64 m0]) (by simp only [results, Try.results126]; simp [go_sem]) rfl ?_
    exact ⟨x0, y0, by rw [HM.out], ⟨hxb0, hxb1⟩, hyb, hfin⟩

end Go.Proofs.Ytpkggjfaefkiiaa
