/- Anneals of package strength, by its contract; no statement is proved here. -/
import Derived.Test.YtmmlocjiegkjeaaGreatDoorLeC
import Derived.Test.YtmmlocjiegkjeaaGreatDoorToldB
import Derived.Test.YtmmlocjiegkjeaaGreatDoorB1
namespace Go.Proofs.YtmmlocjiegkjeaaGreatDoor
open Go.RowKit Go.PlainAid
set_option linter.unusedVariables false
set_option linter.unusedSimpArgs false
/-- the first error of Anneals; v: what Value tells. -/
def annealE (l : Lr) (v : Sp × Int) (below soak th lim : Int) : Int :=
  if checkL l ≠ 0 then checkL l else if v.2 ≠ 0 then v.2 else if btw below 0 10000 = false then 1 else if btw soak 0 2000 = false then 1 else if btw th 1 2000 = false then 1 else if lim < 0 then 1 else if wi v.1 below 10000 = false then 9 else 0
def annealB (l : Lr) (v : Sp × Int) (below soak th lim : Int) : Bool := decide (soak ≤ heldL l v.1.hi) && decide (strainL l ⟨v.1.lo - below, v.1.hi⟩ th ≤ lim)
def annealS (l : Lr) (v : Sp × Int) (below soak th lim : Int) : Bool × Int := if annealE l v below soak th lim = 0 then (annealB l v below soak th lim, 0) else (false, annealE l v below soak th lim)
structure AnnOk (l : Lr) (v : Sp × Int) (below soak th lim : Int) : Prop where
  hlehr : OkLr l
  hval : v.2 = 0
  hbelow : 0 ≤ below ∧ below ≤ 10000
  hsoak : 0 ≤ soak ∧ soak ≤ 2000
  hth : 1 ≤ th ∧ th ≤ 2000
  hlim : 0 ≤ lim
  hwi : below ≤ v.1.lo ∧ v.1.lo ≤ v.1.hi ∧ v.1.hi ≤ 10000
theorem annOk_of {l : Lr} {v : Sp × Int} {below soak th lim : Int} (h : annealE l v below soak th lim = 0) : AnnOk l v below soak th lim := by
  unfold annealE at h
  split at h
  · rename_i h1; exact absurd h h1
  split at h
  · rename_i h1; exact absurd h h1
  split at h
  · cases h
  split at h
  · cases h
  split at h
  · cases h
  split at h
  · cases h
  split at h
  · cases h
  rename_i h1 h2 h3 h4 h5 h6 h7
  exact ⟨okLr_of (Decidable.of_not_not h1), Decidable.of_not_not h2, btw_true.1 (by simpa using h3), btw_true.1 (by simpa using h4), btw_true.1 (by simpa using h5), by omega, wi_true.1 (by simpa using h7)⟩

section
attribute [local go_sem] Oper.semAt_some fp_round fp_depth
theorem fp_needOK : Fp.fn 18 := ⟨_, Tryz.func18⟩
set_option maxRecDepth 100000 in
theorem needOK_in (n : Int) (w : World) (k : Nat) : CallsIn Fp k Tryz.prog 18 #[.int .i64 n] w (Need w n) := by
  refine callsIn_of_wp Tryz.func18 rfl fp_needOK ?_ rfl
  simp only [Tryz.ntmps18, List.size_toArray, List.length_cons, List.length_nil, Nat.reduceAdd, Nat.reduceSub, Array.replicate_succ, Array.replicate_zero, List.push_toArray, List.append_toArray, List.nil_append, List.cons_append]
  by_cases h : n = 0
  · subst h
    gi_wp2_with fail
    refine ⟨fp_need, ?_⟩
    refine (need_ok 0 _ _).mono ?_
    rintro e w' ⟨rfl, rfl⟩
    gi_wp2
    go_end0
    exact ⟨.inl ⟨rfl, rfl⟩, Below.refl _ _⟩
  · have hq : (n == 0) = false := by simpa using h
    have HN := Lib.hid h
    clear h
    gi_wp2_with fail
    refine ⟨fp_need, ?_⟩
    refine (need_no n _ _).mono ?_
    rintro e w' ⟨rfl, rfl⟩
    exact ⟨rfl, .inr ⟨HN.out, rfl⟩, Below.refl _ _⟩
end
theorem isFn_anneal1 : IsFn 27 := fun xs w => by kernel_rfl

set_option maxHeartbeats 4000000 in
set_option maxRecDepth 100000 in
theorem anneal1_any (a ar : Option Addr) (cap kr : Nat) (a0 a1 a2 a3 : Option Addr) (k0 k1 k2 k3 : Nat) (l : Lr) (b : Bat) (r : List Int) (n below soak th lim : Int) (p0 p1 p2 p3 p4 p5 p6 p7 : Nat) (w : World) (h : RLr w (.agg #[.slice a l.knees.length cap, .int .i64 l.factor]) l) (hb : RBat w (.agg #[.slice a0 b.oxides.length k0, .slice a1 b.mats.length k1, .slice a2 b.shares.length k2, .slice a3 b.props.length k3, .int .i64 b.redox.lo, .int .i64 b.redox.hi, .int .i64 b.wanted]) b) (hr : RInts w (.slice ar r.length kr) r)
    (hB : Blk w p0 #[.slice a l.knees.length cap, .int .i64 l.factor] 24) (hM : Blk w p1 #[.slice a0 b.oxides.length k0, .slice a1 b.mats.length k1, .slice a2 b.shares.length k2, .slice a3 b.props.length k3, .int .i64 b.redox.lo, .int .i64 b.redox.hi, .int .i64 b.wanted] 32) (hC : Blk w p2 #[.slice ar r.length kr] 35) (hN : Blk w p3 #[.int .i64 n] 3) (hW : Blk w p4 #[.int .i64 below] 3) (hK : Blk w p5 #[.int .i64 soak] 3) (hT : Blk w p6 #[.int .i64 th] 3) (hI : Blk w p7 #[.int .i64 lim] 3) :
    Calls Tryz.prog 27 #[.pointer (some ⟨p0, 0, none⟩), .pointer (some ⟨p1, 0, none⟩), .pointer (some ⟨p2, 0, none⟩), .pointer (some ⟨p3, 0, none⟩), .pointer (some ⟨p4, 0, none⟩), .pointer (some ⟨p5, 0, none⟩), .pointer (some ⟨p6, 0, none⟩), .pointer (some ⟨p7, 0, none⟩)] w (Finds_bool (fun x => annealE l (B1.valI b r n) below soak th lim = 0 ∧ x = annealB l (B1.valI b r n) below soak th lim) (fun m => m ≠ 0 ∧ m = annealE l (B1.valI b r n) below soak th lim) w) := by
  have c0 := hB.cell 0 _ rfl
  have c1 := hB.cell 1 _ rfl
  have hva := fun V (hV : Below w.heap.size w V) => B1.valI_any _ _ b r n V (hb.mono (ext_of_below hV)) (hr.mono (ext_of_below hV))
  generalize B1.valI b r n = vv at *
  obtain ⟨v, ve⟩ := vv
  obtain ⟨vv, hvv⟩ : ∃ vv : Sp × Int, vv = (v, ve) := ⟨_, rfl⟩
  rw [← hvv]
  have HVV1 := Lib.hid (show vv.1 = v by rw [hvv])
  have HVV2 := Lib.hid (show vv.2 = ve by rw [hvv])
  clear hvv
  go_enter Tryz.func27, Tryz.ntmps27
  go_wp2_with fail
  refine (calls_p (needLehr_in _ l w 9 h)).mono ?_
  rintro e w0 ⟨(⟨hc, rfl⟩ | ⟨hc, rfl⟩), hb0⟩
  case inr =>
    have HC := Lib.hid hc
    have HE := Lib.hid (show annealE l vv below soak th lim = checkL l by rw [annealE, if_pos hc])
    have HB := Lib.hid hb0
    clear hc hb0 hB hM hC hN hW hK hT hI c0 c1 hva
    go_wp2
    exact ⟨rfl, HB.out, .inr ⟨_, rfl, HC.out, HE.out.symm⟩⟩
  have hok := okLr_of hc
  have HCL := Lib.hid hc
  clear hc c0 c1
  have hB0 := hB.below hb0 hB.lt
  have hM0 := hM.below hb0 hM.lt
  have hC0 := hC.below hb0 hC.lt
  have hN0 := hN.below hb0 hN.lt
  have hW0 := hW.below hb0 hW.lt
  have hK0 := hK.below hb0 hK.lt
  have hT0 := hT.below hb0 hT.lt
  have hI0 := hI.below hb0 hI.lt
  clear hB hM hC hN hW hK hT hI
  have m0 := hM0.cell 0 _ rfl
  have m1 := hM0.cell 1 _ rfl
  have m2 := hM0.cell 2 _ rfl
  have m3 := hM0.cell 3 _ rfl
  have m4 := hM0.cell 4 _ rfl
  have m5 := hM0.cell 5 _ rfl
  have m6 := hM0.cell 6 _ rfl
  have r0 := hC0.cell 0 _ rfl
  have n0 := hN0.cell 0 _ rfl
  go_wp2_with fail
  refine (hva _ hb0).mono ?_
  rintro e w1 ⟨rfl, hb1⟩
  simp only
  have hb01 := hb0.trans (hb1.mono hb0.size)
  have hB1 := (hB0.below hb1 hB0.lt).alloc (.cells #[.int .i64 v.lo, .int .i64 v.hi] 30)
  have hM1 := (hM0.below hb1 hM0.lt).alloc (.cells #[.int .i64 v.lo, .int .i64 v.hi] 30)
  have hC1 := (hC0.below hb1 hC0.lt).alloc (.cells #[.int .i64 v.lo, .int .i64 v.hi] 30)
  have hN1 := (hN0.below hb1 hN0.lt).alloc (.cells #[.int .i64 v.lo, .int .i64 v.hi] 30)
  have hW1 := (hW0.below hb1 hW0.lt).alloc (.cells #[.int .i64 v.lo, .int .i64 v.hi] 30)
  have hK1 := (hK0.below hb1 hK0.lt).alloc (.cells #[.int .i64 v.lo, .int .i64 v.hi] 30)
  have hT1 := (hT0.below hb1 hT0.lt).alloc (.cells #[.int .i64 v.lo, .int .i64 v.hi] 30)
  have hI1 := (hI0.below hb1 hI0.lt).alloc (.cells #[.int .i64 v.lo, .int .i64 v.hi] 30)
  have hV1 := Blk.new w1 #[.int .i64 v.lo, .int .i64 v.hi] 30
  have hbx := hb01.alloc hb01.size (.cells #[.int .i64 v.lo, .int .i64 v.hi] 30)
  clear hb0 hb1 hb01 hB0 hM0 hC0 hN0 hW0 hK0 hT0 hI0 hva m0 m1 m2 m3 m4 m5 m6 r0 n0
  go_wp2_with fail
  have lw1 := hV1.lt
  generalize w1.alloc (.cells #[.int .i64 v.lo, .int .i64 v.hi] 30) = w3 at *
  have HB := Lib.hid hbx
  have hBx := hB1
  have hMx := hM1
  have hCx := hC1
  have hNx := hN1
  have hWx := hW1
  have hKx := hK1
  have hTx := hT1
  have hIx := hI1
  have hVx := hV1
  clear hB1 hM1 hC1 hN1 hW1 hK1 hT1 hI1 hV1
  refine (calls_p (needOK_in ve _ 9)).mono ?_
  rintro e w2 ⟨(⟨hc, rfl⟩ | ⟨hc, rfl⟩), hb2⟩
  case inr =>
    have HC := Lib.hid hc
    have HE := Lib.hid (show annealE l vv below soak th lim = ve by rw [annealE, if_neg (fun z => z HCL.out), if_pos (by rw [HVV2.out]; exact hc), HVV2.out])
    have HB2 := Lib.hid (hbx.trans (hb2.mono hbx.size))
    clear hc hb2 hBx hMx hCx hNx hWx hKx hTx hIx hVx
    go_wp2
    exact ⟨rfl, HB2.out, .inr ⟨_, rfl, HC.out, HE.out.symm⟩⟩
  have HV0 := Lib.hid (show vv.2 = 0 by rw [HVV2.out]; exact hc)
  have hby := hbx.trans (hb2.mono hbx.size)
  replace hBx := hBx.below hb2 hBx.lt
  replace hMx := hMx.below hb2 hMx.lt
  replace hCx := hCx.below hb2 hCx.lt
  replace hNx := hNx.below hb2 hNx.lt
  replace hWx := hWx.below hb2 hWx.lt
  replace hKx := hKx.below hb2 hKx.lt
  replace hTx := hTx.below hb2 hTx.lt
  replace hIx := hIx.below hb2 hIx.lt
  replace hVx := hVx.below hb2 hVx.lt
  clear hb2 hbx HB hc
  have hbx := hby
  have HB := Lib.hid hby
  clear hby
  have q0 := hWx.cell 0 _ rfl
  go_wp2_with fail
  refine (calls_p (between_in below 0 10000 _ 9)).mono ?_
  rintro e w' ⟨rfl, rfl⟩
  cases hbe : btw below 0 10000 with
  | false =>
    have HE := Lib.hid (show annealE l vv below soak th lim = 1 by rw [annealE, if_neg (fun z => z HCL.out), if_neg (fun z => z HV0.out), if_pos hbe])
    clear hBx hMx hCx hNx hWx hKx hTx hIx hVx
    go_wp2_with fail
    refine (calls_p (need_no 1 _ 9)).mono ?_
    rintro e w' ⟨rfl, rfl⟩
    go_wp2
    exact ⟨rfl, HB.out, .inr ⟨_, rfl, by decide, HE.out.symm⟩⟩
  | true =>
  have Hhbe := Lib.hid hbe
  clear q0 hbe
  go_wp2_with fail
  refine (calls_p (need_ok 1 _ 9)).mono ?_
  rintro e w' ⟨rfl, rfl⟩
  have q0 := hKx.cell 0 _ rfl
  go_wp2_with fail
  refine (calls_p (between_in soak 0 2000 _ 9)).mono ?_
  rintro e w' ⟨rfl, rfl⟩
  cases hso : btw soak 0 2000 with
  | false =>
    have HE := Lib.hid (show annealE l vv below soak th lim = 1 by rw [annealE, if_neg (fun z => z HCL.out), if_neg (fun z => z HV0.out), if_neg (by rw [Hhbe.out]; decide), if_pos hso])
    clear hBx hMx hCx hNx hWx hKx hTx hIx hVx
    go_wp2_with fail
    refine (calls_p (need_no 1 _ 9)).mono ?_
    rintro e w' ⟨rfl, rfl⟩
    go_wp2
    exact ⟨rfl, HB.out, .inr ⟨_, rfl, by decide, HE.out.symm⟩⟩
  | true =>
  have Hhso := Lib.hid hso
  clear q0 hso
  go_wp2_with fail
  refine (calls_p (need_ok 1 _ 9)).mono ?_
  rintro e w' ⟨rfl, rfl⟩
  have q0 := hTx.cell 0 _ rfl
  go_wp2_with fail
  refine (calls_p (between_in th 1 2000 _ 9)).mono ?_
  rintro e w' ⟨rfl, rfl⟩
  cases hth : btw th 1 2000 with
  | false =>
    have HE := Lib.hid (show annealE l vv below soak th lim = 1 by rw [annealE, if_neg (fun z => z HCL.out), if_neg (fun z => z HV0.out), if_neg (by rw [Hhbe.out]; decide), if_neg (by rw [Hhso.out]; decide), if_pos hth])
    clear hBx hMx hCx hNx hWx hKx hTx hIx hVx
    go_wp2_with fail
    refine (calls_p (need_no 1 _ 9)).mono ?_
    rintro e w' ⟨rfl, rfl⟩
    go_wp2
    exact ⟨rfl, HB.out, .inr ⟨_, rfl, by decide, HE.out.symm⟩⟩
  | true =>
  have Hhth := Lib.hid hth
  clear q0 hth
  go_wp2_with fail
  refine (calls_p (need_ok 1 _ 9)).mono ?_
  rintro e w' ⟨rfl, rfl⟩
  have q0 := hIx.cell 0 _ rfl
  by_cases hli : lim < 0
  · have gl : decide (0 ≤ lim) = false := decide_eq_false (by omega)
    have HE := Lib.hid (show annealE l vv below soak th lim = 1 by rw [annealE, if_neg (fun z => z HCL.out), if_neg (fun z => z HV0.out), if_neg (by rw [Hhbe.out]; decide), if_neg (by rw [Hhso.out]; decide), if_neg (by rw [Hhth.out]; decide), if_pos hli])
    clear hBx hMx hCx hNx hWx hKx hTx hIx hVx
    go_wp2_with fail
    refine (calls_p (need_no 1 _ 9)).mono ?_
    rintro e w' ⟨rfl, rfl⟩
    go_wp2
    exact ⟨rfl, HB.out, .inr ⟨_, rfl, by decide, HE.out.symm⟩⟩
  have gl : decide (0 ≤ lim) = true := decide_eq_true (by omega)
  have HLI := Lib.hid hli
  clear hli
  go_wp2_with fail
  refine (calls_p (need_ok 1 _ 9)).mono ?_
  rintro e w' ⟨rfl, rfl⟩
  clear q0 gl
  have v0 := hVx.cell 0 _ rfl
  have v1 := hVx.cell 1 _ rfl
  have q0 := hWx.cell 0 _ rfl
  go_wp2_with fail
  refine (calls_p (within_in v below 10000 _ 9)).mono ?_
  rintro e w4 ⟨rfl, hb4⟩
  have hby := hbx.trans (hb4.mono hbx.size)
  replace hBx := hBx.below hb4 hBx.lt
  replace hMx := hMx.below hb4 hMx.lt
  replace hCx := hCx.below hb4 hCx.lt
  replace hNx := hNx.below hb4 hNx.lt
  replace hWx := hWx.below hb4 hWx.lt
  replace hKx := hKx.below hb4 hKx.lt
  replace hTx := hTx.below hb4 hTx.lt
  replace hIx := hIx.below hb4 hIx.lt
  replace hVx := hVx.below hb4 hVx.lt
  clear hb4 hbx HB v0 v1 q0
  have hbx := hby
  have HB := Lib.hid hby
  clear hby
  cases hwi : wi v below 10000 with
  | false =>
    have HE := Lib.hid (show annealE l vv below soak th lim = 9 by rw [annealE, if_neg (fun z => z HCL.out), if_neg (fun z => z HV0.out), if_neg (by rw [Hhbe.out]; decide), if_neg (by rw [Hhso.out]; decide), if_neg (by rw [Hhth.out]; decide), if_neg (by have := HLI.out; omega), if_pos (by rw [HVV1.out]; exact hwi)])
    clear hBx hMx hCx hNx hWx hKx hTx hIx hVx
    go_wp2_with fail
    refine (calls_p (need_no 9 _ 9)).mono ?_
    rintro e w' ⟨rfl, rfl⟩
    go_wp2
    exact ⟨rfl, HB.out, .inr ⟨_, rfl, by decide, HE.out.symm⟩⟩
  | true =>
  have HE := Lib.hid (show annealE l vv below soak th lim = 0 by rw [annealE, if_neg (fun z => z HCL.out), if_neg (fun z => z HV0.out), if_neg (by rw [Hhbe.out]; decide), if_neg (by rw [Hhso.out]; decide), if_neg (by rw [Hhth.out]; decide), if_neg (by have := HLI.out; omega), if_neg (by rw [HVV1.out, hwi]; decide)])
  have hwv := wi_true.1 hwi
  have hbv := btw_true.1 Hhbe.out
  have hsv := btw_true.1 Hhso.out
  have htv := btw_true.1 Hhth.out
  have HLB : Hid (annealB l vv below soak th lim = (decide (soak ≤ heldL l v.hi) && decide (strainL l ⟨v.lo - below, v.hi⟩ th ≤ lim))) := Lib.hid (by rw [annealB, HVV1.out])
  clear hwi
  go_wp2_with fail
  refine (calls_p (need_ok 9 _ 9)).mono ?_
  rintro e w' ⟨rfl, hw'⟩
  obtain rfl := hw'.symm
  clear hw'
  have v0 := hVx.cell 0 _ rfl
  have v1 := hVx.cell 1 _ rfl
  have q0 := hWx.cell 0 _ rfl
  have z1 := wrap_id (v.lo - below) (by unfold I64; omega)
  have hTmp := Blk.new w4 #[.int .i64 (v.lo - below), .int .i64 v.hi] 30
  have hb5 := hbx.alloc hbx.size (.cells #[.int .i64 (v.lo - below), .int .i64 v.hi] 30)
  have hB5 := hBx.alloc (.cells #[.int .i64 (v.lo - below), .int .i64 v.hi] 30)
  have hK5 := hKx.alloc (.cells #[.int .i64 (v.lo - below), .int .i64 v.hi] 30)
  have hT5 := hTx.alloc (.cells #[.int .i64 (v.lo - below), .int .i64 v.hi] 30)
  have hI5 := hIx.alloc (.cells #[.int .i64 (v.lo - below), .int .i64 v.hi] 30)
  have hV5 := hVx.alloc (.cells #[.int .i64 (v.lo - below), .int .i64 v.hi] 30)
  clear hBx hMx hCx hNx hWx hKx hTx hIx hVx HB hbx
  go_wp2_with fail
  generalize w4.alloc (.cells #[.int .i64 (v.lo - below), .int .i64 v.hi] 30) = w5 at *
  clear v0 v1 q0 z1
  have e0 := hB5.cell 0 _ rfl
  have e1 := hB5.cell 1 _ rfl
  have e2 := hV5.cell 0 _ rfl
  have e3 := hV5.cell 1 _ rfl
  have e4 := hK5.cell 0 _ rfl
  have e5 := hTmp.cell 0 _ rfl
  have e6 := hTmp.cell 1 _ rfl
  have e7 := hT5.cell 0 _ rfl
  have e8 := hI5.cell 0 _ rfl
  have D0 : Below w5.heap.size w5 w5.drew := (Below.refl _ _).drew
  have HSV : Hid (∀ V, Below w5.heap.size w5 V → (fun w' : World => w'.cell? ⟨p0, 0, none⟩ = some (.slice a l.knees.length cap) ∧ w'.cell? ⟨p0, 1, none⟩ = some (.int .i64 l.factor) ∧ w'.cell? ⟨w1.heap.size, 0, none⟩ = some (.int .i64 v.lo) ∧ w'.cell? ⟨w1.heap.size, 1, none⟩ = some (.int .i64 v.hi) ∧ w'.cell? ⟨p5, 0, none⟩ = some (.int .i64 soak) ∧ w'.cell? ⟨w4.heap.size, 0, none⟩ = some (.int .i64 (v.lo - below)) ∧ w'.cell? ⟨w4.heap.size, 1, none⟩ = some (.int .i64 v.hi) ∧ w'.cell? ⟨p6, 0, none⟩ = some (.int .i64 th) ∧ w'.cell? ⟨p7, 0, none⟩ = some (.int .i64 lim)) V) := Lib.hid (fun V hV => ⟨ext_of_below hV _ _ e0, ext_of_below hV _ _ e1, ext_of_below hV _ _ e2, ext_of_below hV _ _ e3, ext_of_below hV _ _ e4, ext_of_below hV _ _ e5, ext_of_below hV _ _ e6, ext_of_below hV _ _ e7, ext_of_below hV _ _ e8⟩)
  have hhe := fun V (hV : Below w5.heap.size w5 V) => heldF_any a cap l v.hi V (h.mono (ext_of_below (hb5.trans (hV.mono hb5.size)))) hok (by omega)
  have hst := fun V (hV : Below w5.heap.size w5 V) => strainF_any a cap l ⟨v.lo - below, v.hi⟩ th V (h.mono (ext_of_below (hb5.trans (hV.mono hb5.size)))) hok htv
  generalize heldL l v.hi = hh at *
  generalize strainL l ⟨v.lo - below, v.hi⟩ th = ss at *
  clear e0 e1 e2 e3 e4 e5 e6 e7 e8 hB5 hK5 hT5 hI5 hV5 hTmp hwv hbv hsv htv
  refine wp_region_till (fun w' : World => w'.cell? ⟨p0, 0, none⟩ = some (.slice a l.knees.length cap) ∧ w'.cell? ⟨p0, 1, none⟩ = some (.int .i64 l.factor) ∧ w'.cell? ⟨w1.heap.size, 0, none⟩ = some (.int .i64 v.lo) ∧ w'.cell? ⟨w1.heap.size, 1, none⟩ = some (.int .i64 v.hi) ∧ w'.cell? ⟨p5, 0, none⟩ = some (.int .i64 soak) ∧ w'.cell? ⟨w4.heap.size, 0, none⟩ = some (.int .i64 (v.lo - below)) ∧ w'.cell? ⟨w4.heap.size, 1, none⟩ = some (.int .i64 v.hi) ∧ w'.cell? ⟨p6, 0, none⟩ = some (.int .i64 th) ∧ w'.cell? ⟨p7, 0, none⟩ = some (.int .i64 lim)) 99 (by kernel_rfl) (HSV.out _ D0) (fun hHeld => ?_)
  refine Till.take 0 (some 46) (v := ?_) rfl rfl (by kernel_rfl) (by kernel_rfl) (by kernel_rfl) (by kernel_rfl) (fun _ _ _ h => h) (Or.inl ⟨by rfl, ?_⟩) (by assumption) ?_
  rotate_left
  · (intro w hSw; (try dsimp only at hSw); go_simp; try with_reducible rfl)
  try simp only [Act.put, List.setIfInBounds_toArray, List.set_cons_zero, List.set_cons_succ]
  refine Till.take 1 (some 47) (v := ?_) rfl rfl (by kernel_rfl) (by kernel_rfl) (by kernel_rfl) (by kernel_rfl) (fun _ _ _ h => h) (Or.inl ⟨by rfl, ?_⟩) (by assumption) ?_
  rotate_left
  · (intro w hSw; (try dsimp only at hSw); go_simp; try with_reducible rfl)
  try simp only [Act.put, List.setIfInBounds_toArray, List.set_cons_zero, List.set_cons_succ]
  refine Till.take 2 (some 48) (v := ?_) rfl rfl (by kernel_rfl) (by kernel_rfl) (by kernel_rfl) (by kernel_rfl) (fun _ _ _ h => h) (Or.inl ⟨by rfl, ?_⟩) (by assumption) ?_
  rotate_left
  · (intro w hSw; (try dsimp only at hSw); go_simp; try with_reducible rfl)
  try simp only [Act.put, List.setIfInBounds_toArray, List.set_cons_zero, List.set_cons_succ]
  refine Till.take 4 (some 50) (v := ?_) rfl rfl (by kernel_rfl) (by kernel_rfl) (by kernel_rfl) (by kernel_rfl) (fun _ _ _ h => h) (Or.inl ⟨by rfl, ?_⟩) (by assumption) ?_
  rotate_left
  · (intro w hSw; (try dsimp only at hSw); go_simp; try with_reducible rfl)
  try simp only [Act.put, List.setIfInBounds_toArray, List.set_cons_zero, List.set_cons_succ]
  refine Till.one 3 rfl (by kernel_rfl) (fun K hK => ?_)
  go_simp
  go_at_call 30
  refine (hhe _ D0).mono ?_
  rintro e w6 ⟨rfl, hb6⟩
  have D1 := D0.trans (hb6.mono D0.size)
  have hh1 := HSV.out _ D1
  refine hK.out _ _ (fun _ => hh1) (fun hHeld2 => ?_)
  clear hK K hb6 hhe
  try simp only [Act.put, List.setIfInBounds_toArray, List.set_cons_zero, List.set_cons_succ]
  by_cases hs1 : soak ≤ hh
  case neg =>
    have g1 := decide_eq_false hs1
    have HLB2 := Lib.hid (show annealB l vv below soak th lim = false by rw [HLB.out, g1]; rfl)
    refine Till.take 5 (some 51) (v := ?_) rfl rfl (by kernel_rfl) (by kernel_rfl) (by kernel_rfl) (by kernel_rfl) (fun _ _ _ h => h) (Or.inl ⟨by rfl, ?_⟩) (by assumption) ?_
    rotate_left
    · (intro w hSw; (try dsimp only at hSw); go_simp; try with_reducible rfl)
    try simp only [Act.put, List.setIfInBounds_toArray, List.set_cons_zero, List.set_cons_succ]
    refine Till.take 6 (some 52) (v := ?_) rfl rfl (by kernel_rfl) (by kernel_rfl) (by kernel_rfl) (by kernel_rfl) (fun _ _ _ h => h) (Or.inl ⟨by rfl, ?_⟩) (by assumption) ?_
    rotate_left
    · (intro w hSw; (try dsimp only at hSw); go_simp; try with_reducible rfl)
    try simp only [Act.put, List.setIfInBounds_toArray, List.set_cons_zero, List.set_cons_succ]
    try simp only [g1]
    refine Till.take 7 (some 53) (v := undef) rfl rfl (by kernel_rfl) (by kernel_rfl) (by kernel_rfl) (by kernel_rfl) (fun _ _ _ h => h) (Or.inr ⟨by rfl, rfl⟩) (by assumption) ?_
    try simp only [Act.put, List.setIfInBounds_toArray, List.set_cons_zero, List.set_cons_succ]
    refine Till.take 8 (some 54) (v := undef) rfl rfl (by kernel_rfl) (by kernel_rfl) (by kernel_rfl) (by kernel_rfl) (fun _ _ _ h => h) (Or.inr ⟨by rfl, rfl⟩) (by assumption) ?_
    try simp only [Act.put, List.setIfInBounds_toArray, List.set_cons_zero, List.set_cons_succ]
    refine Till.take 9 (some 55) (v := undef) rfl rfl (by kernel_rfl) (by kernel_rfl) (by kernel_rfl) (by kernel_rfl) (fun _ _ _ h => h) (Or.inr ⟨by rfl, rfl⟩) (by assumption) ?_
    try simp only [Act.put, List.setIfInBounds_toArray, List.set_cons_zero, List.set_cons_succ]
    refine Till.take 10 (some 56) (v := undef) rfl rfl (by kernel_rfl) (by kernel_rfl) (by kernel_rfl) (by kernel_rfl) (fun _ _ _ h => h) (Or.inr ⟨by rfl, rfl⟩) (by assumption) ?_
    try simp only [Act.put, List.setIfInBounds_toArray, List.set_cons_zero, List.set_cons_succ]
    refine Till.take 11 (some 57) (v := undef) rfl rfl (by kernel_rfl) (by kernel_rfl) (by kernel_rfl) (by kernel_rfl) (fun _ _ _ h => h) (Or.inr ⟨by rfl, rfl⟩) (by assumption) ?_
    try simp only [Act.put, List.setIfInBounds_toArray, List.set_cons_zero, List.set_cons_succ]
    refine Till.take 12 (some 58) (v := undef) rfl rfl (by kernel_rfl) (by kernel_rfl) (by kernel_rfl) (by kernel_rfl) (fun _ _ _ h => h) (Or.inr ⟨by rfl, rfl⟩) (by assumption) ?_
    try simp only [Act.put, List.setIfInBounds_toArray, List.set_cons_zero, List.set_cons_succ]
    refine Till.take 13 (some 59) (v := ?_) rfl rfl (by kernel_rfl) (by kernel_rfl) (by kernel_rfl) (by kernel_rfl) (fun _ _ _ h => h) (Or.inl ⟨by rfl, ?_⟩) (by assumption) ?_
    rotate_left
    · (intro w hSw; (try dsimp only at hSw); go_simp; try with_reducible rfl)
    try simp only [Act.put, List.setIfInBounds_toArray, List.set_cons_zero, List.set_cons_succ]
    refine Till.take 14 (some 8) (v := ?_) rfl rfl (by kernel_rfl) (by kernel_rfl) (by kernel_rfl) (by kernel_rfl) (fun _ _ _ h => h) (Or.inl ⟨by rfl, ?_⟩) (by assumption) ?_
    rotate_left
    · (intro w hSw; (try dsimp only at hSw); go_simp; try with_reducible rfl)
    try simp only [Act.put, List.setIfInBounds_toArray, List.set_cons_zero, List.set_cons_succ]
    refine Till.done (by kernel_rfl) ?_ _
    have HF := Lib.hid (hb5.trans (D1.mono hb5.size))
    clear hHeld hHeld2 hh1 HSV D0 D1 hb5 hst
    go_wp2
    go_ret
    exact ⟨HF.out, .inl ⟨false, rfl, HE.out, HLB2.out.symm⟩⟩
  have g1 := decide_eq_true hs1
  have HLB2 := Lib.hid (show annealB l vv below soak th lim = decide (ss ≤ lim) by rw [HLB.out, g1]; rfl)
  refine Till.take 5 (some 51) (v := ?_) rfl rfl (by kernel_rfl) (by kernel_rfl) (by kernel_rfl) (by kernel_rfl) (fun _ _ _ h => h) (Or.inl ⟨by rfl, ?_⟩) (by assumption) ?_
  rotate_left
  · (intro w hSw; (try dsimp only at hSw); go_simp; try with_reducible rfl)
  try simp only [Act.put, List.setIfInBounds_toArray, List.set_cons_zero, List.set_cons_succ]
  refine Till.take 6 (some 52) (v := ?_) rfl rfl (by kernel_rfl) (by kernel_rfl) (by kernel_rfl) (by kernel_rfl) (fun _ _ _ h => h) (Or.inl ⟨by rfl, ?_⟩) (by assumption) ?_
  rotate_left
  · (intro w hSw; (try dsimp only at hSw); go_simp; try with_reducible rfl)
  try simp only [Act.put, List.setIfInBounds_toArray, List.set_cons_zero, List.set_cons_succ]
  try simp only [g1]
  refine Till.take 7 (some 53) (v := ?_) rfl rfl (by kernel_rfl) (by kernel_rfl) (by kernel_rfl) (by kernel_rfl) (fun _ _ _ h => h) (Or.inl ⟨by rfl, ?_⟩) (by assumption) ?_
  rotate_left
  · (intro w hSw; (try dsimp only at hSw); go_simp; try with_reducible rfl)
  try simp only [Act.put, List.setIfInBounds_toArray, List.set_cons_zero, List.set_cons_succ]
  refine Till.take 8 (some 54) (v := ?_) rfl rfl (by kernel_rfl) (by kernel_rfl) (by kernel_rfl) (by kernel_rfl) (fun _ _ _ h => h) (Or.inl ⟨by rfl, ?_⟩) (by assumption) ?_
  rotate_left
  · (intro w hSw; (try dsimp only at hSw); go_simp; try with_reducible rfl)
  try simp only [Act.put, List.setIfInBounds_toArray, List.set_cons_zero, List.set_cons_succ]
  refine Till.take 9 (some 55) (v := ?_) rfl rfl (by kernel_rfl) (by kernel_rfl) (by kernel_rfl) (by kernel_rfl) (fun _ _ _ h => h) (Or.inl ⟨by rfl, ?_⟩) (by assumption) ?_
  rotate_left
  · (intro w hSw; (try dsimp only at hSw); go_simp; try with_reducible rfl)
  try simp only [Act.put, List.setIfInBounds_toArray, List.set_cons_zero, List.set_cons_succ]
  refine Till.take 11 (some 57) (v := ?_) rfl rfl (by kernel_rfl) (by kernel_rfl) (by kernel_rfl) (by kernel_rfl) (fun _ _ _ h => h) (Or.inl ⟨by rfl, ?_⟩) (by assumption) ?_
  rotate_left
  · (intro w hSw; (try dsimp only at hSw); go_simp; try with_reducible rfl)
  try simp only [Act.put, List.setIfInBounds_toArray, List.set_cons_zero, List.set_cons_succ]
  refine Till.one 10 rfl (by kernel_rfl) (fun K hK => ?_)
  go_simp
  go_at_call 31
  refine (hst _ D1).mono ?_
  rintro e w7 ⟨rfl, hb7⟩
  have D2 := D1.trans (hb7.mono D1.size)
  have hh2 := HSV.out _ D2
  refine hK.out _ _ (fun _ => hh2) (fun hHeld3 => ?_)
  clear hK K hb7 hst
  try simp only [Act.put, List.setIfInBounds_toArray, List.set_cons_zero, List.set_cons_succ]
  refine Till.take 12 (some 58) (v := ?_) rfl rfl (by kernel_rfl) (by kernel_rfl) (by kernel_rfl) (by kernel_rfl) (fun _ _ _ h => h) (Or.inl ⟨by rfl, ?_⟩) (by assumption) ?_
  rotate_left
  · (intro w hSw; (try dsimp only at hSw); go_simp; try with_reducible rfl)
  try simp only [Act.put, List.setIfInBounds_toArray, List.set_cons_zero, List.set_cons_succ]
  refine Till.take 13 (some 59) (v := ?_) rfl rfl (by kernel_rfl) (by kernel_rfl) (by kernel_rfl) (by kernel_rfl) (fun _ _ _ h => h) (Or.inl ⟨by rfl, ?_⟩) (by assumption) ?_
  rotate_left
  · (intro w hSw; (try dsimp only at hSw); go_simp; try with_reducible rfl)
  try simp only [Act.put, List.setIfInBounds_toArray, List.set_cons_zero, List.set_cons_succ]
  refine Till.take 14 (some 8) (v := ?_) rfl rfl (by kernel_rfl) (by kernel_rfl) (by kernel_rfl) (by kernel_rfl) (fun _ _ _ h => h) (Or.inl ⟨by rfl, ?_⟩) (by assumption) ?_
  rotate_left
  · (intro w hSw; (try dsimp only at hSw); go_simp; try with_reducible rfl)
  try simp only [Act.put, List.setIfInBounds_toArray, List.set_cons_zero, List.set_cons_succ]
  refine Till.done (by kernel_rfl) ?_ _
  have HF := Lib.hid (hb5.trans (D2.mono hb5.size))
  clear hHeld hHeld2 hHeld3 hh1 hh2 HSV D0 D1 D2 hb5
  go_wp2
  go_ret
  exact ⟨HF.out, .inl ⟨_, rfl, HE.out, HLB2.out.symm⟩⟩

/-- what Anneals answers. -/
def AnnealA (w : World) (l : Lr) (v : Sp × Int) (below soak th lim : Int) (e : Ending) (w' : World) : Prop := e = .returned (.tuple #[.bool (annealS l v below soak th lim).1, .int .i64 (annealS l v below soak th lim).2]) ∧ Below w.heap.size w w'

set_option maxHeartbeats 4000000 in
set_option maxRecDepth 100000 in
theorem annealP_any (vl vb vr : Value) (l : Lr) (b : Bat) (r : List Int) (n below soak th lim : Int) (w : World) (h : RLr w vl l) (hb : RBat w vb b) (hr : RInts w vr r) :
    Calls Tryz.prog 9 #[vl, vb, vr, .int .i64 n, .int .i64 below, .int .i64 soak, .int .i64 th, .int .i64 lim] w (AnnealA w l (B1.valI b r n) below soak th lim) := by
  have hmf : ∀ (fn : Fn) (first cap : Array Value) (w : World), (Instr.makeFunc fn first cap).run Tryz.prog w = .ok (.func fn first cap) w := fun _ _ _ _ => rfl
  have h0 := h
  have hb0 := hb
  have hr0 := hr
  obtain ⟨v0, rfl, hk, hI⟩ := h
  obtain ⟨a, cap, rfl, -, -, -⟩ := hk
  obtain ⟨a0, k0, a1, k1, a2, k2, a3, k3, rfl⟩ := hb.agg
  obtain ⟨ar, kr, rfl, -, -, -⟩ := hr
  have hA4 : Below w.heap.size w ((((((((w.alloc (.cells #[.slice a l.knees.length cap, .int .i64 l.factor] 24)).alloc (.cells #[.slice a0 b.oxides.length k0, .slice a1 b.mats.length k1, .slice a2 b.shares.length k2, .slice a3 b.props.length k3, .int .i64 b.redox.lo, .int .i64 b.redox.hi, .int .i64 b.wanted] 32)).alloc (.cells #[.slice ar r.length kr] 35)).alloc (.cells #[.int .i64 n] 3)).alloc (.cells #[.int .i64 below] 3)).alloc (.cells #[.int .i64 soak] 3)).alloc (.cells #[.int .i64 th] 3)).alloc (.cells #[.int .i64 lim] 3)) := ((((((((below_boxS w _).alloc (by simp) _).alloc (by simp only [World.size_alloc]; omega) _).alloc (by simp only [World.size_alloc]; omega) _).alloc (by simp only [World.size_alloc]; omega) _).alloc (by simp only [World.size_alloc]; omega) _).alloc (by simp only [World.size_alloc]; omega) _).alloc (by simp only [World.size_alloc]; omega) _)
  have hP0 := ((((((((Blk.new w #[.slice a l.knees.length cap, .int .i64 l.factor] 24).alloc (.cells #[.slice a0 b.oxides.length k0, .slice a1 b.mats.length k1, .slice a2 b.shares.length k2, .slice a3 b.props.length k3, .int .i64 b.redox.lo, .int .i64 b.redox.hi, .int .i64 b.wanted] 32)).alloc (.cells #[.slice ar r.length kr] 35)).alloc (.cells #[.int .i64 n] 3)).alloc (.cells #[.int .i64 below] 3)).alloc (.cells #[.int .i64 soak] 3)).alloc (.cells #[.int .i64 th] 3)).alloc (.cells #[.int .i64 lim] 3))
  have hP1 := (((((((Blk.new (w.alloc (.cells #[.slice a l.knees.length cap, .int .i64 l.factor] 24)) #[.slice a0 b.oxides.length k0, .slice a1 b.mats.length k1, .slice a2 b.shares.length k2, .slice a3 b.props.length k3, .int .i64 b.redox.lo, .int .i64 b.redox.hi, .int .i64 b.wanted] 32).alloc (.cells #[.slice ar r.length kr] 35)).alloc (.cells #[.int .i64 n] 3)).alloc (.cells #[.int .i64 below] 3)).alloc (.cells #[.int .i64 soak] 3)).alloc (.cells #[.int .i64 th] 3)).alloc (.cells #[.int .i64 lim] 3))
  have hP2 := ((((((Blk.new ((w.alloc (.cells #[.slice a l.knees.length cap, .int .i64 l.factor] 24)).alloc (.cells #[.slice a0 b.oxides.length k0, .slice a1 b.mats.length k1, .slice a2 b.shares.length k2, .slice a3 b.props.length k3, .int .i64 b.redox.lo, .int .i64 b.redox.hi, .int .i64 b.wanted] 32)) #[.slice ar r.length kr] 35).alloc (.cells #[.int .i64 n] 3)).alloc (.cells #[.int .i64 below] 3)).alloc (.cells #[.int .i64 soak] 3)).alloc (.cells #[.int .i64 th] 3)).alloc (.cells #[.int .i64 lim] 3))
  have hP3 := (((((Blk.new (((w.alloc (.cells #[.slice a l.knees.length cap, .int .i64 l.factor] 24)).alloc (.cells #[.slice a0 b.oxides.length k0, .slice a1 b.mats.length k1, .slice a2 b.shares.length k2, .slice a3 b.props.length k3, .int .i64 b.redox.lo, .int .i64 b.redox.hi, .int .i64 b.wanted] 32)).alloc (.cells #[.slice ar r.length kr] 35)) #[.int .i64 n] 3).alloc (.cells #[.int .i64 below] 3)).alloc (.cells #[.int .i64 soak] 3)).alloc (.cells #[.int .i64 th] 3)).alloc (.cells #[.int .i64 lim] 3))
  have hP4 := ((((Blk.new ((((w.alloc (.cells #[.slice a l.knees.length cap, .int .i64 l.factor] 24)).alloc (.cells #[.slice a0 b.oxides.length k0, .slice a1 b.mats.length k1, .slice a2 b.shares.length k2, .slice a3 b.props.length k3, .int .i64 b.redox.lo, .int .i64 b.redox.hi, .int .i64 b.wanted] 32)).alloc (.cells #[.slice ar r.length kr] 35)).alloc (.cells #[.int .i64 n] 3)) #[.int .i64 below] 3).alloc (.cells #[.int .i64 soak] 3)).alloc (.cells #[.int .i64 th] 3)).alloc (.cells #[.int .i64 lim] 3))
  have hP5 := (((Blk.new (((((w.alloc (.cells #[.slice a l.knees.length cap, .int .i64 l.factor] 24)).alloc (.cells #[.slice a0 b.oxides.length k0, .slice a1 b.mats.length k1, .slice a2 b.shares.length k2, .slice a3 b.props.length k3, .int .i64 b.redox.lo, .int .i64 b.redox.hi, .int .i64 b.wanted] 32)).alloc (.cells #[.slice ar r.length kr] 35)).alloc (.cells #[.int .i64 n] 3)).alloc (.cells #[.int .i64 below] 3)) #[.int .i64 soak] 3).alloc (.cells #[.int .i64 th] 3)).alloc (.cells #[.int .i64 lim] 3))
  have hP6 := ((Blk.new ((((((w.alloc (.cells #[.slice a l.knees.length cap, .int .i64 l.factor] 24)).alloc (.cells #[.slice a0 b.oxides.length k0, .slice a1 b.mats.length k1, .slice a2 b.shares.length k2, .slice a3 b.props.length k3, .int .i64 b.redox.lo, .int .i64 b.redox.hi, .int .i64 b.wanted] 32)).alloc (.cells #[.slice ar r.length kr] 35)).alloc (.cells #[.int .i64 n] 3)).alloc (.cells #[.int .i64 below] 3)).alloc (.cells #[.int .i64 soak] 3)) #[.int .i64 th] 3).alloc (.cells #[.int .i64 lim] 3))
  have hP7 := (Blk.new (((((((w.alloc (.cells #[.slice a l.knees.length cap, .int .i64 l.factor] 24)).alloc (.cells #[.slice a0 b.oxides.length k0, .slice a1 b.mats.length k1, .slice a2 b.shares.length k2, .slice a3 b.props.length k3, .int .i64 b.redox.lo, .int .i64 b.redox.hi, .int .i64 b.wanted] 32)).alloc (.cells #[.slice ar r.length kr] 35)).alloc (.cells #[.int .i64 n] 3)).alloc (.cells #[.int .i64 below] 3)).alloc (.cells #[.int .i64 soak] 3)).alloc (.cells #[.int .i64 th] 3)) #[.int .i64 lim] 3)
  simp only [World.size_alloc] at hP1 hP2 hP3 hP4 hP5 hP6 hP7
  go_enter Tryz.func9, Tryz.ntmps9
  go_wp2_with fail
  generalize ((((((((w.alloc (.cells #[.slice a l.knees.length cap, .int .i64 l.factor] 24)).alloc (.cells #[.slice a0 b.oxides.length k0, .slice a1 b.mats.length k1, .slice a2 b.shares.length k2, .slice a3 b.props.length k3, .int .i64 b.redox.lo, .int .i64 b.redox.hi, .int .i64 b.wanted] 32)).alloc (.cells #[.slice ar r.length kr] 35)).alloc (.cells #[.int .i64 n] 3)).alloc (.cells #[.int .i64 below] 3)).alloc (.cells #[.int .i64 soak] 3)).alloc (.cells #[.int .i64 th] 3)).alloc (.cells #[.int .i64 lim] 3)) = W2 at *
  have hE := ext_of_below hA4
  refine (told_bool_any 27 #[.pointer (some ⟨w.heap.size, 0, none⟩), .pointer (some ⟨w.heap.size + 1, 0, none⟩), .pointer (some ⟨w.heap.size + 1 + 1, 0, none⟩), .pointer (some ⟨w.heap.size + 1 + 1 + 1, 0, none⟩), .pointer (some ⟨w.heap.size + 1 + 1 + 1 + 1, 0, none⟩), .pointer (some ⟨w.heap.size + 1 + 1 + 1 + 1 + 1, 0, none⟩), .pointer (some ⟨w.heap.size + 1 + 1 + 1 + 1 + 1 + 1, 0, none⟩), .pointer (some ⟨w.heap.size + 1 + 1 + 1 + 1 + 1 + 1 + 1, 0, none⟩)] W2 (fun x => annealE l (B1.valI b r n) below soak th lim = 0 ∧ x = annealB l (B1.valI b r n) below soak th lim) (fun m => m ≠ 0 ∧ m = annealE l (B1.valI b r n) below soak th lim) isFn_anneal1
    (fun W hW => anneal1_any a ar cap kr a0 a1 a2 a3 k0 k1 k2 k3 l b r n below soak th lim _ _ _ _ _ _ _ _ W ((h0.mono hE).mono (ext_of_below hW)) ((hb0.mono hE).mono (ext_of_below hW)) ((hr0.mono hE).mono (ext_of_below hW)) (hP0.below hW hP0.lt) (hP1.below hW hP1.lt) (hP2.below hW hP2.lt) (hP3.below hW hP3.lt) (hP4.below hW hP4.lt) (hP5.below hW hP5.lt) (hP6.below hW hP6.lt) (hP7.below hW hP7.lt))).mono ?_
  clear hP0 hP1 hP2 hP3 hP4 hP5 hP6 hP7 hE h0 hb0 hr0 hI
  generalize B1.valI b r n = vv at *
  rintro e w' ⟨hb, (⟨u, rfl, hw0, rfl⟩ | ⟨m, rfl, hn, rfl⟩)⟩
  · have HX := Lib.hid (show annealS l vv below soak th lim = (annealB l vv below soak th lim, 0) by rw [annealS, if_pos hw0])
    have HF := Lib.hid (hA4.trans (hb.mono hA4.size))
    clear hb hA4 hw0
    go_wp2
    go_ret2
    exact ⟨by rw [HX.out]; rfl, HF.out⟩
  · have HX := Lib.hid (show annealS l vv below soak th lim = (false, annealE l vv below soak th lim) by rw [annealS, if_neg hn])
    have HF := Lib.hid (hA4.trans (hb.mono hA4.size))
    clear hb hA4 hn
    go_wp2
    go_ret2
    exact ⟨by rw [HX.out]; rfl, HF.out⟩

end Go.Proofs.YtmmlocjiegkjeaaGreatDoor
