/- The law TopPulled: every input; no statement is proved here. -/
import Derived.Test.YtdffhkbncencgaaPlLw
import Derived.Test.YtdffhkbncencgaaPlTpM
import Derived.Deep.QuietTactic
import Derived.BigQuiet
namespace Go.Proofs.Ytdffhkbncencgaa
open Go.RowKit Go.PlainAid
set_option linter.unusedVariables false
set_option linter.unusedSimpArgs false

theorem topI_off {s : Sn} {T M : List (List Int)} {o day n : Nat} (hn : n < s.mks.length) (h : ¬ s.mks[n].oven = (o : Int)) : topI s T M o day n = 0 := by
  unfold topI
  rw [List.getElem?_eq_getElem hn]
  simp only [Option.elim_some, beq_iff_eq]
  rw [if_neg h]
theorem topI_neg {s : Sn} {T M : List (List Int)} {o day n : Nat} (ha : ent T n day < 0) : topI s T M o day n = 0 := by
  unfold topI
  rw [planC_ent]
  split
  · first | rfl | rw [if_pos ha]
  · rfl
theorem topI_yes {s : Sn} {T M : List (List Int)} {o day n a : Nat} (hn : n < s.mks.length) (h : s.mks[n].oven = (o : Int)) (ha : ent T n day = (a : Int)) (hl : a < s.arts.length) : topI s T M o day n = ent M n day * s.arts[a].wt := by
  unfold topI
  rw [List.getElem?_eq_getElem hn]
  simp only [Option.elim_some, beq_iff_eq]
  rw [if_pos h, planC_ent, ha, if_neg (by omega), wgt_at hl]
theorem madP_bd {s : Sn} (ok : OkS s) {n : Nat} {a v : Int} (h : MadP s n a v) : 0 ≤ v ∧ v ≤ 1000000 := by
  obtain ⟨h1, h2, h3⟩ := h
  refine ⟨h1, ?_⟩
  by_cases e : a = -1
  · rw [h2 e]; omega
  · exact Int.le_trans (h3 e) (rate_bd ok n a).2
theorem mulw {a b : Int} (ha : 0 ≤ a ∧ a ≤ 1000000) (hb : 0 ≤ b ∧ b ≤ 100000) : 0 ≤ a * b ∧ a * b ≤ 100000000000 := ⟨Int.mul_nonneg ha.1 hb.1, Int.le_trans (Int.mul_le_mul ha.2 hb.2 hb.1 (by omega)) (by omega)⟩
theorem topI_bd {s : Sn} (ok : OkS s) {T M : List (List Int)} {o day n : Nat} (h : MadP s n (ent T n day) (ent M n day)) : 0 ≤ topI s T M o day n ∧ topI s T M o day n ≤ 100000000000 := by
  unfold topI
  split
  · split
    · omega
    · exact mulw (madP_bd ok h) (wgt_bd ok _)
  · omega
theorem topK_bd {s : Sn} (ok : OkS s) {T M : List (List Int)} {o day : Nat} {m : Nat} (h : ∀ n, n < m → MadP s n (ent T n day) (ent M n day)) : ∀ n, n ≤ m → 0 ≤ topK s T M o day n ∧ topK s T M o day n ≤ 100000000000 * n
  | 0, _ => by simp [topK]
  | n + 1, hn => by
    have h1 := topK_bd ok (o := o) h n (by omega)
    have h2 := topI_bd ok (o := o) (h n (by omega))
    rw [topK_step]
    omega

set_option maxHeartbeats 16000000 in
set_option maxRecDepth 100000 in
theorem fPulledLaw_any (s : Sn) (d : SA) (x : Ask8) (v0 v1 v3 : Value) (w : World) (h : SnD w s d) (hx : AskC w x v0 v1 v3) :
    Calls Try.prog 8 #[.agg #[.int .i64 s.days, .slice d.a1 s.arts.length d.c1, .slice d.a2 s.ovens.length d.c2, .slice d.a3 s.mks.length d.c3, .slice d.a4 s.jobs.length d.c4, .slice d.a5 s.cols.length d.c5, .slice d.a6 s.ods.length d.c6], .agg #[v0, v1, .int .i64 x.oven, v3]] w (TrueP w) := by
  have hA : Below w.heap.size w ((w.alloc (.cells #[.int .i64 s.days, .slice d.a1 s.arts.length d.c1, .slice d.a2 s.ovens.length d.c2, .slice d.a3 s.mks.length d.c3, .slice d.a4 s.jobs.length d.c4, .slice d.a5 s.cols.length d.c5, .slice d.a6 s.ods.length d.c6] 28)).alloc (.cells #[v0, v1, .int .i64 x.oven, v3] 32)) := (below_box w _).alloc (by simp) _
  have hB := (Blk.new w #[.int .i64 s.days, .slice d.a1 s.arts.length d.c1, .slice d.a2 s.ovens.length d.c2, .slice d.a3 s.mks.length d.c3, .slice d.a4 s.jobs.length d.c4, .slice d.a5 s.cols.length d.c5, .slice d.a6 s.ods.length d.c6] 28).alloc (.cells #[v0, v1, .int .i64 x.oven, v3] 32)
  have hX := Blk.new (w.alloc (.cells #[.int .i64 s.days, .slice d.a1 s.arts.length d.c1, .slice d.a2 s.ovens.length d.c2, .slice d.a3 s.mks.length d.c3, .slice d.a4 s.jobs.length d.c4, .slice d.a5 s.cols.length d.c5, .slice d.a6 s.ods.length d.c6] 28)) #[v0, v1, .int .i64 x.oven, v3] 32
  rw [World.size_alloc] at hX
  have HS := Lib.hid (fun V (hV : Below w.heap.size w V) => h.mono (ext_of_below hV))
  have HX := Lib.hid (fun V (hV : Below w.heap.size w V) => hx.mono (ext_of_below hV))
  clear h hx
  go_enter Try.func8, Try.ntmps8
  go_wp2_with fail
  generalize (w.alloc (.cells #[.int .i64 s.days, .slice d.a1 s.arts.length d.c1, .slice d.a2 s.ovens.length d.c2, .slice d.a3 s.mks.length d.c3, .slice d.a4 s.jobs.length d.c4, .slice d.a5 s.cols.length d.c5, .slice d.a6 s.ods.length d.c6] 28)).alloc _ = W at *
  refine (Great8_any s d W (HS.out _ hA)).mono ?_
  rintro e w1 ⟨⟨b, rfl⟩, hb⟩
  replace hB := hB.below hb hB.lt
  replace hX := hX.below hb hX.lt
  replace hA := hA.trans (hb.mono hA.size)
  clear hb
  cases b with
  | true =>
    clear hB hX
    go_wp2_with fail
    refine (planned8_any _).mono ?_
    rintro e wl ⟨rfl, hbl⟩
    have HE := Lib.hid (hA.trans (hbl.mono hA.size))
    clear hbl hA
    go_wp2
    go_ret
    exact ⟨rfl, HE.out⟩
  | false =>
  have x0 := hB.cell 0 _ rfl
  have x1 := hB.cell 1 _ rfl
  have x2 := hB.cell 2 _ rfl
  have x3 := hB.cell 3 _ rfl
  have x4 := hB.cell 4 _ rfl
  have x5 := hB.cell 5 _ rfl
  have x6 := hB.cell 6 _ rfl
  have y0 := hX.cell 0 _ rfl
  have y1 := hX.cell 1 _ rfl
  have y2 := hX.cell 2 _ rfl
  have y3 := hX.cell 3 _ rfl
  go_wp2_with fail
  refine (Wide_any x v0 v1 v3 _ (HX.out _ hA)).mono ?_
  rintro e w2 ⟨⟨b, rfl⟩, hb⟩
  clear x0 x1 x2 x3 x4 x5 x6 y0 y1 y2 y3
  replace hB := hB.below hb hB.lt
  replace hX := hX.below hb hX.lt
  replace hA := hA.trans (hb.mono hA.size)
  clear hb
  cases b with
  | true =>
    clear hB hX
    go_wp2_with fail
    refine (planned8_any _).mono ?_
    rintro e wl ⟨rfl, hbl⟩
    have HE := Lib.hid (hA.trans (hbl.mono hA.size))
    clear hbl hA
    go_wp2
    go_ret
    exact ⟨rfl, HE.out⟩
  | false =>
  by_cases hk : keE s x.plan = 0
  case neg =>
    obtain ⟨r, hkE⟩ : ∃ r, keE s x.plan = r := ⟨_, rfl⟩
    have hr0 : (r != 0) = true := by rw [hkE] at hk; simpa using hk
    have hP0 : madA s x.plan = [] := by unfold madA; rw [if_neg hk]
    have hC := Made_any s d x.plan v0 _ (HS.out _ hA) (HX.out _ hA).plan
    unfold MaA at hC
    rw [hkE, hP0] at hC
    clear hP0
    have x0 := hB.cell 0 _ rfl
    have x1 := hB.cell 1 _ rfl
    have x2 := hB.cell 2 _ rfl
    have x3 := hB.cell 3 _ rfl
    have x4 := hB.cell 4 _ rfl
    have x5 := hB.cell 5 _ rfl
    have x6 := hB.cell 6 _ rfl
    have y0 := hX.cell 0 _ rfl
    go_wp2_with fail
    refine hC.mono ?_
    rintro e w3 ⟨⟨v, rfl, hv⟩, hb⟩
    clear hC
    clear x0 x1 x2 x3 x4 x5 x6 y0
    replace hB := hB.below hb hB.lt
    replace hX := hX.below hb hX.lt
    replace hA := hA.trans (hb.mono hA.size)
    clear hb
    obtain ⟨av, cv, rfl⟩ := hv.shape
    clear hv
    simp only [List.length_nil]
    have hP0 : pulA s x.plan = [] := by unfold pulA; rw [if_neg hk]
    have hC := Pulls_any s d x.plan v0 _ (HS.out _ hA) (HX.out _ hA).plan
    unfold PuA at hC
    rw [hkE, hP0] at hC
    clear hP0
    have x0 := hB.cell 0 _ rfl
    have x1 := hB.cell 1 _ rfl
    have x2 := hB.cell 2 _ rfl
    have x3 := hB.cell 3 _ rfl
    have x4 := hB.cell 4 _ rfl
    have x5 := hB.cell 5 _ rfl
    have x6 := hB.cell 6 _ rfl
    have y0 := hX.cell 0 _ rfl
    go_wp2_with fail
    refine hC.mono ?_
    rintro e w4 ⟨⟨v, rfl, hv⟩, hb⟩
    clear hC
    clear x0 x1 x2 x3 x4 x5 x6 y0
    replace hB := hB.below hb hB.lt
    replace hX := hX.below hb hX.lt
    replace hA := hA.trans (hb.mono hA.size)
    clear hb
    obtain ⟨av, cv, rfl⟩ := hv.shape
    clear hv
    simp only [List.length_nil]
    clear hB hX
    go_wp2_with fail
    refine (planned8_any _).mono ?_
    rintro e wl ⟨rfl, hbl⟩
    have HE := Lib.hid (hA.trans (hbl.mono hA.size))
    clear hbl hA
    go_wp2
    go_ret
    exact ⟨rfl, HE.out⟩
  case pos =>
  obtain ⟨hp, hkb⟩ := keE_ok hk
  obtain ⟨-, ok, pk⟩ := plE_ok hp
  have hna := ok.na
  have hTP : ∀ o day, o < s.ovens.length → day < s.days.toNat → topK s x.plan (madK s x.plan (stL s x.plan).length) o day s.mks.length < 10000 * (ent (pulK s x.plan (stL s x.plan).length) o day + 1) := fun o day ho hd => top_pulled ok pk ho hd
  clear hp hkb
  have hP0 : madA s x.plan = madK s x.plan (stL s x.plan).length := by unfold madA; rw [if_pos hk]
  have hsM := (madS_ent ok x.plan).1
  have hC := Made_any s d x.plan v0 _ (HS.out _ hA) (HX.out _ hA).plan
  unfold MaA at hC
  rw [hk, hP0] at hC
  clear hP0
  have x0 := hB.cell 0 _ rfl
  have x1 := hB.cell 1 _ rfl
  have x2 := hB.cell 2 _ rfl
  have x3 := hB.cell 3 _ rfl
  have x4 := hB.cell 4 _ rfl
  have x5 := hB.cell 5 _ rfl
  have x6 := hB.cell 6 _ rfl
  have y0 := hX.cell 0 _ rfl
  go_wp2_with fail
  refine hC.mono ?_
  rintro e wt ⟨⟨vm, rfl, hv⟩, hb⟩
  replace hv := hv.mono vis_outL
  clear hC
  clear x0 x1 x2 x3 x4 x5 x6 y0
  replace hB := hB.below hb hB.lt
  replace hX := hX.below hb hX.lt
  replace hA := hA.trans (hb.mono hA.size)
  clear hb
  obtain ⟨am, cm, rfl⟩ := hv.shape
  rw [hsM.1] at hv ⊢
  have HM := Lib.hid hv
  clear hv
  have hP0 : pulA s x.plan = pulK s x.plan (stL s x.plan).length := by unfold pulA; rw [if_pos hk]
  have hsP := (pulS_ent s x.plan).1
  have hC := Pulls_any s d x.plan v0 _ (HS.out _ hA) (HX.out _ hA).plan
  unfold PuA at hC
  rw [hk, hP0] at hC
  clear hP0
  have x0 := hB.cell 0 _ rfl
  have x1 := hB.cell 1 _ rfl
  have x2 := hB.cell 2 _ rfl
  have x3 := hB.cell 3 _ rfl
  have x4 := hB.cell 4 _ rfl
  have x5 := hB.cell 5 _ rfl
  have x6 := hB.cell 6 _ rfl
  have y0 := hX.cell 0 _ rfl
  go_wp2_with fail
  refine hC.mono ?_
  rintro e wt ⟨⟨vp, rfl, hv⟩, hb⟩
  replace hv := hv.mono vis_outL
  replace HM := Lib.hid (HM.out.mono (ext_of_below hb))
  clear hC
  clear x0 x1 x2 x3 x4 x5 x6 y0
  replace hB := hB.below hb hB.lt
  replace hX := hX.below hb hX.lt
  replace hA := hA.trans (hb.mono hA.size)
  clear hb
  obtain ⟨ap, cp, rfl⟩ := hv.shape
  rw [hsP.1] at hv ⊢
  have HP := Lib.hid hv
  clear hv
  obtain ⟨D, hD⟩ : ∃ D, s.days.toNat = D := ⟨_, rfl⟩
  have hDd : s.days = (D : Int) := by have := ok.days; omega
  rw [hD] at hsP hsM
  have HSP := Lib.hid hsP
  have HSM := Lib.hid hsM
  have HPL := Lib.hid pk.shp
  rw [hD] at HPL
  have HOK := Lib.hid ok
  have HPK := Lib.hid pk
  have hno := ok.no
  have hnm := ok.nm
  have hDb : D ≤ 14 := by have := ok.days; omega
  have hPB : ∀ k (hk : k < s.ovens.length) j, j < D → s.ovens[k].lo ≤ ent (pulK s x.plan (stL s x.plan).length) k j ∧ ent (pulK s x.plan (stL s x.plan).length) k j ≤ s.ovens[k].hi := fun k hkk j hj => by
    rw [(pulS_ent s x.plan).2 k j hkk (by rw [hD]; exact hj)]
    exact kept_pull ok (keE_ok hk).2 hkk (by rw [hD]; exact hj)
  have HPB := Lib.hid hPB
  have hMB : ∀ n j, n < s.mks.length → j < D → MadP s n (ent x.plan n j) (ent (madK s x.plan (stL s x.plan).length) n j) := fun n j hn hj => by
    have := (madS_ent ok x.plan).2 n j hn (by rw [hD]; exact hj)
    rw [planC_ent] at this
    exact this
  have HMB := Lib.hid hMB
  have hTB : ∀ n j, n < s.mks.length → j < D → -1 ≤ ent x.plan n j ∧ ent x.plan n j < s.arts.length := fun n j hn hj => by
    rw [← planC_ent]
    exact planC_bd ok pk (by omega) (by omega) ⟨by omega, by omega⟩
  have HTB := Lib.hid hTB
  have HD := Lib.hid hD
  clear hsP hsM pk ok hk hD hPB hMB hTB
  rw [HD.out] at hTP
  have HTP := Lib.hid hTP
  obtain ⟨a0, c0, hv0⟩ := (HX.out _ hA).plan.shape
  rw [HPL.out.1] at hv0
  have HT := Lib.hid (HX.out _ hA).plan
  rw [hv0] at HT
  have x0 := hB.cell 0 _ rfl
  have x1 := hB.cell 1 _ rfl
  have x2 := hB.cell 2 _ rfl
  have x3 := hB.cell 3 _ rfl
  have x4 := hB.cell 4 _ rfl
  have x5 := hB.cell 5 _ rfl
  have x6 := hB.cell 6 _ rfl
  have y0 := hX.cell 0 _ rfl
  rw [hDd] at x0
  rw [hv0] at y0
  have HS6 := Lib.hid (HS.out _ hA)
  have HDd := Lib.hid hDd
  have HA := Lib.hid hA
  clear hDd hv0 hTP
  generalize pulK s x.plan (stL s x.plan).length = P at *
  generalize madK s x.plan (stL s x.plan).length = M at *
  have hKB : ∀ o day n, day < D → n ≤ s.mks.length → 0 ≤ topK s x.plan M o day n ∧ topK s x.plan M o day n ≤ 100000000000 * n := fun o day n hd hn => topK_bd HOK.out (fun n hn => HMB.out n day hn hd) n hn
  have HKB := Lib.hid hKB
  clear hB hX hA hKB
  have nD : ((D : Int) != (D : Int)) = false := by simp
  go_upto_region 10 with (fail)
  have HX0 := Lib.hid x0
  have HX1 := Lib.hid x1
  have HX2 := Lib.hid x2
  have HX3 := Lib.hid x3
  have HY0 := Lib.hid y0
  clear x0 x1 x2 x3 x4 x5 x6 y0
  go_loopw [9] (fun i wx => ∃ k9 : Nat, k9 ≤ s.mks.length ∧ i = .int .i64 k9 ∧ Below wt.heap.size wt wx) (fun i _ => s.mks.length - (intOf i).toNat)
  case atStart => exact ⟨0, Nat.zero_le _, rfl, Below.refl _ _⟩
  case round =>
    obtain ⟨k9, hk9, rfl, hb⟩ := hrel
    have x0 := ext_of_below hb _ _ HX0.out
    have y0 := ext_of_below hb _ _ HY0.out
    by_cases hlt9 : k9 < s.mks.length
    · have j9a : (0 : Int) ≤ (k9 : Int) := Int.natCast_nonneg _
      have j9b : (k9 : Int) < (s.mks.length : Int) := by omega
      obtain ⟨b1, o1, b2, c2, he1, q0, -⟩ := rows_row HM.out HSM.out hlt9
      subst he1
      obtain ⟨b8, o8, b9, c9, he8, p0, -⟩ := rows_row HT.out HPL.out hlt9
      subst he8
      replace q0 := ext_of_below hb _ _ q0
      replace p0 := ext_of_below hb _ _ p0
      go_wp2_with fail
      go_quiet (fail)
      go_wp2
      go_roundw
      case rel => exact ⟨k9 + 1, by omega, by go_num, below_drewN hb _⟩
      case measure => simp [intOf]; omega
    · have j9c : ¬ (k9 : Int) < (s.mks.length : Int) := by omega
      go_upto_region 15 with (fail)
      clear x0 y0
      go_loopw [10] (fun i wx => ∃ k10 : Nat, k10 ≤ s.ovens.length ∧ i = .int .i64 k10 ∧ Below wt.heap.size wt wx) (fun i _ => s.ovens.length - (intOf i).toNat)
      case atStart => exact ⟨0, Nat.zero_le _, rfl, hb⟩
      case round =>
        obtain ⟨k10, hk10, rfl, hb⟩ := hrel
        have x2 := ext_of_below hb _ _ HX2.out
        by_cases hlt10 : k10 < s.ovens.length
        · have j10a : (0 : Int) ≤ (k10 : Int) := Int.natCast_nonneg _
          have j10b : (k10 : Int) < (s.ovens.length : Int) := by omega
          obtain ⟨b1, o1, b2, c2, he1, q0, -⟩ := rows_row HP.out HSP.out hlt10
          replace q0 := ext_of_below hb _ _ q0
          subst he1
          have x0 := ext_of_below hb _ _ HX0.out
          go_wp2_with fail
          go_quiet (fail)
          go_upto_region 20 with (fail)
          clear q0 x0 x2
          go_loopw [11] (fun i wx => ∃ k11 : Nat, k11 ≤ D ∧ i = .int .i64 k11 ∧ Below wt.heap.size wt wx) (fun i _ => D - (intOf i).toNat)
          case atStart => exact ⟨0, Nat.zero_le _, rfl, below_drewN hb _⟩
          case round =>
            obtain ⟨k11, hk11, rfl, hb⟩ := hrel
            have x0 := ext_of_below hb _ _ HX0.out
            by_cases hlt11 : k11 < D
            · have j11a : (0 : Int) ≤ (k11 : Int) := Int.natCast_nonneg _
              have j11b : (k11 : Int) < (D : Int) := by omega
              go_upto_region 24 with (fail)
              clear x0
              go_loopw [12, 13] (fun v i wx => ∃ k13 : Nat, k13 ≤ s.mks.length ∧ i = .int .i64 k13 ∧ v = .int .i64 (topK s x.plan M k10 k11 k13) ∧ Below wt.heap.size wt wx) (fun _ i _ => s.mks.length - (intOf i).toNat)
              case atStart => exact ⟨0, Nat.zero_le _, rfl, rfl, hb⟩
              case round =>
                obtain ⟨k13, hk13, rfl, rfl, hb⟩ := hrel
                have x3 := ext_of_below hb _ _ HX3.out
                have x1 := ext_of_below hb _ _ HX1.out
                have y0 := ext_of_below hb _ _ HY0.out
                by_cases hlt13 : k13 < s.mks.length
                · have j13a : (0 : Int) ≤ (k13 : Int) := Int.natCast_nonneg _
                  have j13b : (k13 : Int) < (s.mks.length : Int) := by omega
                  obtain ⟨b1, o1, b2, o2, c2, he1, q0, r0, -⟩ := rows_ent HM.out HSM.out hlt13 hlt11
                  obtain ⟨b8, o8, b9, o9, c9, he8, p0, r1, -⟩ := rows_ent HT.out HPL.out hlt13 hlt11
                  obtain ⟨b3, o3, he3, v5, ⟨q1, q2, q3, q4⟩, -⟩ := rsl_at HS6.out.mks hlt13
                  simp only at q1 q2 q3 q4
                  clear q2 q3 q4
                  replace q0 := ext_of_below hb _ _ q0
                  replace r0 := ext_of_below hb _ _ r0
                  replace p0 := ext_of_below hb _ _ p0
                  replace r1 := ext_of_below hb _ _ r1
                  replace q1 := ext_of_below hb _ _ q1
                  rw [he3] at x3
                  rw [he8] at y0
                  have hab := HTB.out k13 k11 hlt13 hlt11
                  have hst := topK_step s x.plan M k10 k11 k13
                  have hkb := HKB.out k10 k11 k13 hlt11 (by omega)
                  by_cases hov : (s.mks[k13]).oven = (k10 : Int)
                  · by_cases ha : ent x.plan k13 k11 < 0
                    · have HNX : Hid (Value.int .i64 (topK s x.plan M k10 k11 k13) = .int .i64 (topK s x.plan M k10 k11 (k13 + 1))) := Lib.hid (by rw [hst, topI_neg ha, Int.add_zero])
                      have hq : ((s.mks[k13]).oven == (k10 : Int)) = true := beq_iff_eq.2 hov
                      have n1 : ¬ (0 : Int) ≤ ent x.plan k13 k11 := by omega
                      clear hst hkb hab he1 q0 r0
                      generalize ent x.plan k13 k11 = av at *
                      generalize (s.mks[k13]).oven = ov at *
                      generalize topK s x.plan M k10 k11 k13 = sv at *
                      clear hov ha he3 he8
                      go_wp2
                      go_roundw
                      case rel => exact ⟨k13 + 1, by omega, by go_num, HNX.out, hb⟩
                      case measure => simp [intOf]; omega
                    · obtain ⟨an, han⟩ : ∃ an : Nat, ent x.plan k13 k11 = (an : Int) := ⟨(ent x.plan k13 k11).toNat, by omega⟩
                      have hal : an < s.arts.length := by omega
                      have hI := topI_yes (M := M) hlt13 hov han hal
                      have hIb := topI_bd HOK.out (o := k10) (HMB.out k13 k11 hlt13 hlt11)
                      have hmb := madP_bd HOK.out (HMB.out k13 k11 hlt13 hlt11)
                      have hq : ((s.mks[k13]).oven == (k10 : Int)) = true := beq_iff_eq.2 hov
                      rw [han] at r1
                      rw [hI] at hst hIb
                      obtain ⟨b7, o7, he7, ⟨-, -, s2⟩, -⟩ := rsl_at HS6.out.arts hal
                      simp only at s2
                      replace s2 := ext_of_below hb _ _ s2
                      rw [he7] at x1
                      have HNX : Hid (Value.int .i64 (topK s x.plan M k10 k11 k13 + ent M k13 k11 * (s.arts[an]).wt) = .int .i64 (topK s x.plan M k10 k11 (k13 + 1))) := Lib.hid (by rw [hst])
                      subst he1
                      clear hst hI hab he3 he8 he7
                      generalize ent M k13 k11 = mv at *
                      generalize (s.arts[an]).wt = wv at *
                      generalize (s.mks[k13]).oven = ov at *
                      generalize topK s x.plan M k10 k11 k13 = sv at *
                      have z1 := wrap_id (mv * wv) (by unfold I64; omega)
                      have z2 := wrap_id (sv + mv * wv) (by unfold I64; omega)
                      have a1 : (0 : Int) ≤ (an : Int) := Int.natCast_nonneg _
                      have a2 : (an : Int) < (s.arts.length : Int) := by omega
                      clear hov ha han hal hkb hIb hmb
                      go_wp2_with fail
                      go_quiet (fail)
                      go_wp2
                      go_roundw
                      case rel => exact ⟨k13 + 1, by omega, by go_num, by rw [z2]; exact HNX.out, below_drewN hb _⟩
                      case measure => simp [intOf]; omega
                  · have HNX : Hid (Value.int .i64 (topK s x.plan M k10 k11 k13) = .int .i64 (topK s x.plan M k10 k11 (k13 + 1))) := Lib.hid (by rw [hst, topI_off hlt13 hov, Int.add_zero])
                    have hq : ((s.mks[k13]).oven == (k10 : Int)) = false := by rw [beq_eq_false_iff_ne]; exact hov
                    clear hst hkb hab he1 q0 r0 p0 r1 he8 y0
                    generalize (s.mks[k13]).oven = ov at *
                    generalize topK s x.plan M k10 k11 k13 = sv at *
                    clear hov he3
                    go_wp2
                    go_roundw
                    case rel => exact ⟨k13 + 1, by omega, by go_num, HNX.out, hb⟩
                    case measure => simp [intOf]; omega
                · have j13c : ¬ (k13 : Int) < (s.mks.length : Int) := by omega
                  obtain ⟨b1, o1, b2, o2, c2, he1, q0, r0, -⟩ := rows_ent HP.out HSP.out hlt10 hlt11
                  simp only [Option.some.injEq, Addr.mk.injEq, and_true] at he1
                  obtain ⟨rfl, rfl⟩ := he1
                  replace q0 := ext_of_below hb _ _ q0
                  replace r0 := ext_of_below hb _ _ r0
                  have htp := HTP.out k10 k11 hlt10 hlt11
                  have hpb := HPB.out k10 hlt10 k11 hlt11
                  have hob := HOK.out.ov _ (List.getElem_mem hlt10)
                  obtain rfl : k13 = s.mks.length := by omega
                  generalize topK s x.plan M k10 k11 s.mks.length = sv at *
                  generalize ent P k10 k11 = pv at *
                  generalize s.ovens[k10] = ov at *
                  have z1 := wrap_id (pv + 1) (by unfold I64; omega)
                  have z2 := wrap_id (10000 * (pv + 1)) (by unfold I64; omega)
                  have n1 : ¬ 10000 * (pv + 1) ≤ sv := by omega
                  clear htp hpb hob y0 x1
                  go_wp2
                  go_roundw
                  case rel => exact ⟨k11 + 1, by omega, by go_num, hb⟩
                  case measure => simp [intOf]; omega
            · have j11c : ¬ (k11 : Int) < (D : Int) := by omega
              go_wp2
              go_roundw
              case rel => exact ⟨k10 + 1, by omega, by go_num, hb⟩
              case measure => simp [intOf]; omega
        · have j10c : ¬ (k10 : Int) < (s.ovens.length : Int) := by omega
          go_upto_region 30 with (fail)
          have HE0 := Lib.hid (HA.out.trans (hb.mono HA.out.size))
          clear x2 hb
          go_wp2_with fail
          refine (planned8_any _).mono ?_
          rintro e wl ⟨rfl, hbl⟩
          have HE := Lib.hid (HE0.out.trans (hbl.mono HE0.out.size))
          clear hbl
          go_wp2
          go_ret
          exact ⟨rfl, HE.out⟩
end Go.Proofs.Ytdffhkbncencgaa
