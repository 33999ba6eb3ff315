/- what a proof is worth, by its contract; no statement is proved here. -/
import Derived.Test.YtpkggjfaefkiiaaProv2
import Derived.StillTailTactics
namespace Go.Proofs.Ytpkggjfaefkiiaa
open Go.RowKit Go.PlainAid
set_option linter.unusedVariables false

def beyF (A O : List Int) (t : Int) (i : Nat) : Int := A.getD i 0 + t * O.getD i 0

set_option maxHeartbeats 1000000 in
set_option maxRecDepth 100000 in
theorem beyond_any (vp : Value) (L : List Ln) (P ls ms : List Int) (v1 v2 : Value) (l o : Ln) (t : Int) (w : World) (h : VPr w vp L P ls ms) (h1 : VLn w v1 l) (h2 : VLn w v2 o)
    (hlo : o.fs.length = l.fs.length) (hll : ls.length = l.fs.length) (hlm : ms.length = l.fs.length) (hn : l.fs.length ≤ 12)
    (ht : ∀ i, i < l.fs.length → -1000000000000000000 ≤ t * o.fs.getD i 0 ∧ t * o.fs.getD i 0 ≤ 1000000000000000000) (hF : ∀ i, i < l.fs.length → -48370000000000 ≤ beyF l.fs o.fs t i ∧ beyF l.fs o.fs t i ≤ 48370000000000)
    (hL : ∀ i, i < l.fs.length → 0 ≤ ls.getD i 0 ∧ ls.getD i 0 ≤ 10000) (hM : ∀ i, i < l.fs.length → 0 ≤ ms.getD i 0 ∧ ms.getD i 0 ≤ 10000)
    (hb1 : -1000000000000 ≤ l.bound ∧ l.bound ≤ 1000000000000) (hb2 : -1000000000000 ≤ t * o.bound ∧ t * o.bound ≤ 1000000000000) :
    Calls Try.prog 125 #[vp, v1, .int .i64 t, v2] w fun e w' => e = .returned (.int .i64 (-(l.bound + t * o.bound) + beyTo (beyF l.fs o.fs t) ls ms l.fs.length)) ∧ Below w.heap.size w w' := by
  obtain ⟨pl, jl, pp, jp, pa, ja, pm, jm, rfl, -, -, hls, hms⟩ := h.ex
  obtain ⟨c1, rfl, hf1, -⟩ := h1
  obtain ⟨c2, rfl, hf2, -⟩ := h2
  obtain ⟨p1, j1, rfl, -, ⟨-, lo1⟩, hl1⟩ := id hf1
  obtain ⟨p2, j2, rfl, -, ⟨-, lo2⟩, hl2⟩ := id hf2
  obtain ⟨pa', ja', ea, -, -, hla⟩ := hls
  simp only [Value.slice.injEq, true_and] at ea
  obtain ⟨rfl, rfl⟩ := ea
  obtain ⟨pm', jm', em, -, -, hlm2⟩ := hms
  simp only [Value.slice.injEq, true_and] at em
  obtain ⟨rfl, rfl⟩ := em
  have ha1 : ls.length ≤ l.fs.length := by omega
  have ha2 : l.fs.length ≤ ls.length := by omega
  have hm1 : ms.length ≤ l.fs.length := by omega
  have hm2 : l.fs.length ≤ ms.length := by omega
  have ho1 : o.fs.length ≤ l.fs.length := by omega
  have ho2 : l.fs.length ≤ o.fs.length := by omega
  have HBB := fun k hk => bey_bd (n := l.fs.length) hF hL hM k hk
  obtain ⟨b1a, b1b⟩ := hb1
  obtain ⟨b2a, b2b⟩ := hb2
  clear hlo hll hlm h hf1 hf2
  obtain ⟨W, hW⟩ : ∃ W : World, W = ((w.alloc (.cells #[.slice pl L.length jl, .slice pp P.length jp, .slice pa ls.length ja, .slice pm ms.length jm] 107)).alloc (.cells #[.slice p1 l.fs.length j1, .int .i64 l.bound] 39)).alloc (.cells #[.slice p2 o.fs.length j2, .int .i64 o.bound] 39) := ⟨_, rfl⟩
  have hA : Below w.heap.size w W := by subst hW; go_grown
  have hB : Blk W w.heap.size #[.slice pl L.length jl, .slice pp P.length jp, .slice pa ls.length ja, .slice pm ms.length jm] 107 := by subst hW; exact ((Blk.new _ _ _).alloc _).alloc _
  have hC : Blk W (w.heap.size + 1) #[.slice p1 l.fs.length j1, .int .i64 l.bound] 39 := by
    subst hW
    have := (Blk.new (w.alloc (.cells #[.slice pl L.length jl, .slice pp P.length jp, .slice pa ls.length ja, .slice pm ms.length jm] 107)) #[.slice p1 l.fs.length j1, .int .i64 l.bound] 39).alloc (.cells #[.slice p2 o.fs.length j2, .int .i64 o.bound] 39)
    simpa using this
  have hD : Blk W (w.heap.size + 1 + 1) #[.slice p2 o.fs.length j2, .int .i64 o.bound] 39 := by
    subst hW
    have := Blk.new ((w.alloc (.cells #[.slice pl L.length jl, .slice pp P.length jp, .slice pa ls.length ja, .slice pm ms.length jm] 107)).alloc (.cells #[.slice p1 l.fs.length j1, .int .i64 l.bound] 39)) #[.slice p2 o.fs.length j2, .int .i64 o.bound] 39
    simpa using this
  have a1 := hC.cell 1 _ rfl
  have a2 := hD.cell 1 _ rfl
  have a3 := hC.cell 0 _ rfl
  go_enter Try.func125, Try.ntmps125
  go_wp2_with fail
  rw [← hW]
  clear hW
  go_wp2
  clear a1 a2 a3
  go_loopw [9, 10, 11, 23] (fun v u y i wr => ∃ (k : Nat) (c d : Value), k ≤ l.fs.length ∧ i = .int .i64 k ∧ v = .int .i64 (-(l.bound + t * o.bound) + beyTo (beyF l.fs o.fs t) ls ms k) ∧ u = c ∧ y = d ∧ Below W.heap.size W wr) (fun _ _ _ i _ => l.fs.length - (intOf i).toNat)
  case atStart => exact ⟨0, _, _, Nat.zero_le _, rfl, by simp [beyTo], rfl, rfl, Below.refl _ _⟩
  case round =>
    obtain ⟨k, c, d, hk, rfl, rfl, rfl, rfl, hb⟩ := hrel
    have hAw := hA.trans (hb.mono hA.size)
    by_cases hlt : k < l.fs.length
    · obtain ⟨b1, o1, rfl, q1, -⟩ := hl1 k hlt
      have hk2 : k < o.fs.length := by omega
      obtain ⟨b2, o2, rfl, q2, -⟩ := hl2 k hk2
      have hk3 : k < ls.length := by omega
      obtain ⟨b3, o3, rfl, q3, -⟩ := hla k hk3
      have hk4 : k < ms.length := by omega
      obtain ⟨b4, o4, rfl, q4, -⟩ := hlm2 k hk4
      have m1 := ht k hlt
      have m2 := hF k hlt
      have m3 := end_bd (hF k hlt) (hL k hlt)
      have m4 := end_bd (hF k hlt) (hM k hlt)
      have m5 := HBB k hk
      have hst := beyTo_succ (beyF l.fs o.fs t) ls ms k
      unfold beyF at m2 m3 m4
      rw [show beyF l.fs o.fs t k = l.fs.getD k 0 + t * o.fs.getD k 0 from rfl] at hst
      rw [show o.fs.getD k 0 = o.fs[k] from by simp [List.getD, List.getElem?_eq_getElem hk2]] at m1 m2 m3 m4 hst
      rw [show l.fs.getD k 0 = l.fs[k] from by simp [List.getD, List.getElem?_eq_getElem hlt]] at m2 m3 m4 hst
      rw [show ls.getD k 0 = ls[k] from by simp [List.getD, List.getElem?_eq_getElem hk3]] at m3 hst
      rw [show ms.getD k 0 = ms[k] from by simp [List.getD, List.getElem?_eq_getElem hk4]] at m4 hst
      have HST := Lib.hid hst
      simp only [Nat.mul_one] at q1 q2 q3 q4
      replace q1 := ext_of_below hAw _ _ q1
      replace q2 := ext_of_below hAw _ _ q2
      replace q3 := ext_of_below hAw _ _ q3
      replace q4 := ext_of_below hAw _ _ q4
      have f2 := (hB.below hb hB.lt).cell 2 _ rfl
      have f3 := (hB.below hb hB.lt).cell 3 _ rfl
      have d0 := (hD.below hb hD.lt).cell 0 _ rfl
      have e0 := (hC.below hb hC.lt).cell 0 _ rfl
      obtain ⟨m1a, m1b⟩ := m1
      obtain ⟨m2a, m2b⟩ := m2
      obtain ⟨m3a, m3b⟩ := m3
      obtain ⟨m4a, m4b⟩ := m4
      obtain ⟨m5a, m5b⟩ := m5
      have hbs := hb
      have n1 : (0 : Int) ≤ (k : Int) := Int.natCast_nonneg _
      have n3 : (k : Int) < (ls.length : Int) := by omega
      have n4 : (k : Int) < (ms.length : Int) := by omega
      have n5 : (k : Int) < (o.fs.length : Int) := by omega
      generalize hv0 : beyTo (beyF l.fs o.fs t) ls ms k = v0 at *
      have HV0 := Lib.hid hv0
      have u1 : -6000000000000000000 ≤ v0 := by omega
      have u2 : v0 ≤ 6000000000000000000 := by omega
      clear hv0 hst hl1 hl2 hla hlm2 ht hF hL hM HBB hB hC hD hA hAw hb m5a m5b
      generalize l.fs[k]'hlt = a at *
      generalize o.fs[k]'hk2 = z at *
      generalize ls[k]'hk3 = g at *
      generalize ms[k]'hk4 = j at *
      go_wp2
      generalize hx : a + t * z = x at *
      have HX := Lib.hid hx
      clear hx m1a m1b
      have i1 : IntKind.i64.wrap (x * g) = x * g := IntWalk.i64_in _ (by omega)
      have i2 : IntKind.i64.wrap (x * j) = x * j := IntWalk.i64_in _ (by omega)
      have hmn : -483700000000000000 ≤ min (x * g) (x * j) ∧ min (x * g) (x * j) ≤ 483700000000000000 := by omega
      go_still_tail 17, (by kernel_rfl)
      clear i1 i2
      go_wp2
      go_roundw
      case rel =>
        refine ⟨k + 1, _, _, by omega, by go_num, ?_, rfl, rfl, hbs.drew⟩
        rw [IntWalk.i64_in _ (by omega), HST.out, Int.add_assoc]
      case measure => simp [intOf]; omega
    · have hkk : k = l.fs.length := by omega
      subst hkk
      have dn : decide (l.fs.length < l.fs.length) = false := by simp
      clear hl1 hl2 hla hlm2 ht hF hL hM HBB hB hC hD hb
      go_wp2
      go_ret
      exact ⟨rfl, hAw⟩

/-- all that a batch and a proof give. -/
def lsB (b : Bat) : List Int := b.mats.map Mat.least
def msB (b : Bat) : List Int := b.mats.map mostE
def psB (b : Bat) : List Int := b.mats.map Mat.price
def worthE (b : Bat) (s : Int) (ws : List Int) : Int := -(BE (linesB b) ws (linesB b).length) + beyTo (FE (psB b) (linesB b) s ws (linesB b).length) (lsB b) (msB b) b.mats.length

theorem pf_ok {b : Bat} (h : OkB b) {s : Int} {ws : List Int} (hs : 0 ≤ s ∧ s ≤ 1000000) (hw : ∀ x ∈ ws, 0 ≤ x ∧ x ≤ 1000) (hl : ws.length = (linesB b).length) : PfOk (psB b) (linesB b) s ws :=
  ⟨hs, fun x hx => by obtain ⟨m, hm, rfl⟩ := List.mem_map.1 hx; exact (h.mats m hm).price, hw, hl, lines_len h, fun l hm => by have := line_tight h l hm; rw [show (psB b).length = b.mats.length by simp [psB]]; exact this⟩

theorem ls_at {b : Bat} (h : OkB b) (i : Nat) (hi : i < b.mats.length) : 0 ≤ (lsB b).getD i 0 ∧ (lsB b).getD i 0 ≤ 10000 := by
  have := (h.mats _ (List.getElem_mem hi)).least
  unfold lsB
  simpa [List.getD, List.getElem?_eq_getElem hi] using this
theorem ms_at {b : Bat} (h : OkB b) (i : Nat) (hi : i < b.mats.length) : 0 ≤ (msB b).getD i 0 ∧ (msB b).getD i 0 ≤ 10000 := by
  have h1 := most_ok (h.mats _ (List.getElem_mem hi))
  have h2 := (h.mats _ (List.getElem_mem hi)).least
  unfold msB
  simp only [List.getD, List.getElem?_map, List.getElem?_eq_getElem hi, Option.map_some, Option.getD_some]
  omega

theorem worth_bd {b : Bat} (h : OkB b) {s : Int} {ws : List Int} (hp : PfOk (psB b) (linesB b) s ws) : -6000000000000000000 ≤ worthE b s ws ∧ worthE b s ws ≤ 6000000000000000000 := by
  have hn := hp.n
  have hm := h.mt
  have hP : (psB b).length = b.mats.length := by simp [psB]
  have h1 := BE_bd hp _ (Nat.le_refl _)
  have h2 := bey_bd (F := FE (psB b) (linesB b) s ws (linesB b).length) (ls := lsB b) (ms := msB b) (n := b.mats.length) (fun i hi => by have := FE_bd hp (show i < (psB b).length by omega) _ (Nat.le_refl _); omega) (fun i hi => ls_at h i hi) (fun i hi => ms_at h i hi) _ (Nat.le_refl _)
  unfold worthE
  omega

set_option maxHeartbeats 1000000 in
set_option maxRecDepth 100000 in
theorem worth_any (vp : Value) (b : Bat) (s : Int) (vw : Value) (ws : List Int) (w : World) (h : VPr w vp (linesB b) (psB b) (lsB b) (msB b)) (hw : RInts w vw ws) (hb : OkB b) (hk : PfOk (psB b) (linesB b) s ws) :
    Calls Try.prog 89 #[vp, .agg #[.int .i64 s, vw]] w fun e w' => e = .returned (.int .i64 (worthE b s ws)) ∧ Below w.heap.size w w' := by
  have hm := hb.mt
  have hP : (psB b).length = b.mats.length := by simp [psB]
  have hn := hk.n
  have hsum := fun (V : World) (e : Ext w V) => psum_any vp (linesB b) (psB b) (lsB b) (msB b) s vw ws V (h.mono e) (hw.mono e) hk (by omega) (by omega)
  obtain ⟨q1, q2, q3⟩ := sum_exact hk (linesB b).length (Nat.le_refl _)
  have q4 := fs_I64 (psB b) (linesB b) s ws (linesB b).length
  have q5 := BE_bd hk _ (Nat.le_refl _)
  have hbe := fun (V : World) (v : Value) (e : Ext w V) (hv : VLn V v (sumT (psB b) (linesB b) s ws (linesB b).length)) => beyond_any vp (linesB b) (psB b) (lsB b) (msB b) v v (sumT (psB b) (linesB b) s ws (linesB b).length) (sumT (psB b) (linesB b) s ws (linesB b).length) 0 V (h.mono e) hv hv rfl
    (by rw [q1, hP]; simp [lsB]) (by rw [q1, hP]; simp [msB]) (by rw [q1, hP]; exact hm.2) (fun i hi => by simp) (fun i hi => by
      rw [q1] at hi
      have := FE_bd hk hi _ (Nat.le_refl _)
      unfold beyF
      rw [q2 i hi]
      omega) (fun i hi => ls_at hb i (by rw [q1, hP] at hi; exact hi)) (fun i hi => ms_at hb i (by rw [q1, hP] at hi; exact hi)) (by rw [q3]; omega) (by simp)
  have hfin : -((sumT (psB b) (linesB b) s ws (linesB b).length).bound + 0 * (sumT (psB b) (linesB b) s ws (linesB b).length).bound) + beyTo (beyF (sumT (psB b) (linesB b) s ws (linesB b).length).fs (sumT (psB b) (linesB b) s ws (linesB b).length).fs 0) (lsB b) (msB b) (sumT (psB b) (linesB b) s ws (linesB b).length).fs.length = worthE b s ws := by
    unfold worthE
    rw [q1, hP, q3, beyTo_congr (G := FE (psB b) (linesB b) s ws (linesB b).length) (fun i hi => by unfold beyF; rw [q2 i (by omega)]; omega)]
    omega
  have HF := Lib.hid hfin
  obtain ⟨pl, jl, pp, jp, pa, ja, pm, jm, rfl, -, -, -, -⟩ := h.ex
  obtain ⟨pw, jw, rfl, -, -, -⟩ := id hw
  generalize sumT (psB b) (linesB b) s ws (linesB b).length = sl at *
  obtain ⟨W, hW⟩ : ∃ W : World, W = (w.alloc (.cells #[.slice pl (linesB b).length jl, .slice pp (psB b).length jp, .slice pa (lsB b).length ja, .slice pm (msB b).length jm] 107)).alloc (.cells #[.int .i64 s, .slice pw ws.length jw] 42) := ⟨_, rfl⟩
  have hA : Below w.heap.size w W := by subst hW; go_grown
  have hB : Blk W w.heap.size #[.slice pl (linesB b).length jl, .slice pp (psB b).length jp, .slice pa (lsB b).length ja, .slice pm (msB b).length jm] 107 := by subst hW; exact (Blk.new _ _ _).alloc _
  have hC : Blk W (w.heap.size + 1) #[.int .i64 s, .slice pw ws.length jw] 42 := by
    subst hW
    have := Blk.new (w.alloc (.cells #[.slice pl (linesB b).length jl, .slice pp (psB b).length jp, .slice pa (lsB b).length ja, .slice pm (msB b).length jm] 107)) #[.int .i64 s, .slice pw ws.length jw] 42
    simpa using this
  clear q1 q2 q3 q5 hP hn hm hk hfin
  go_enter Try.func89, Try.ntmps89
  go_wp2_with fail
  rw [← hW]
  clear hW
  refine (hsum W (ext_of_below hA)).mono ?_
  rintro e w1 ⟨c, rfl, hc, hb1⟩
  obtain ⟨pc, jc, rfl, -⟩ := id hc
  have hA1 := hA.trans (hb1.mono hA.size)
  have hB1 := hB.below hb1 hB.lt
  have hv1 : VLn w1 (.agg #[.slice pc sl.fs.length jc, .int .i64 sl.bound]) sl := ⟨_, rfl, hc.mono (vis_ext _ _), q4.2⟩
  have h2 := below_box w1 (.cells #[.slice pc sl.fs.length jc, .int .i64 sl.bound] 39)
  have hD := Blk.new w1 #[.slice pc sl.fs.length jc, .int .i64 sl.bound] 39
  have hA2 := hA1.trans (h2.mono hA1.size)
  have hB2 := hB1.alloc (.cells #[.slice pc sl.fs.length jc, .int .i64 sl.bound] 39)
  have hcb := hbe _ _ (ext_of_below hA2) (hv1.mono2 (ext_of_below h2))
  rw [HF.out] at hcb
  have f0 := hB2.cell 0 _ rfl
  have f1 := hB2.cell 1 _ rfl
  have f2 := hB2.cell 2 _ rfl
  have f3 := hB2.cell 3 _ rfl
  have d0 := hD.cell 0 _ rfl
  have d1 := hD.cell 1 _ rfl
  clear hA hB hC hA1 hB1 hv1 h2 hB2 hD hbe hsum hc hb1 h hw
  go_wp2_with fail
  refine hcb.mono ?_
  rintro e w2 ⟨rfl, hb2⟩
  have hA3 := hA2.trans (hb2.mono hA2.size)
  clear f0 f1 f2 f3 d0 d1 hcb hb2
  go_wp2
  go_ret
  exact ⟨rfl, hA3⟩

end Go.Proofs.Ytpkggjfaefkiiaa
