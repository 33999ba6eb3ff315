/- Whether a plan keeps a season: works.keeps; no statement is proved here. -/
import Derived.Test.YtdffhkbncencgaaPlCru
namespace Go.Proofs.Ytdffhkbncencgaa
open Go.RowKit Go.PlainAid
set_option linter.unusedVariables false
set_option linter.unusedSimpArgs false

/-- the crew of a furnace on a day; whether it is one of its shifts; whether a plan keeps a season. -/
def dayC (s : Sn) (T : List (List Int)) (day : Int) (o : Ovn) : List Int := crewS s T day o.ms idleC
def mayB (s : Sn) (T : List (List Int)) (day : Int) (o : Ovn) : Bool := o.sh.any (crEq (dayC s T day o))
def keepsB (s : Sn) (T : List (List Int)) : Bool := (List.range s.days.toNat).all fun (day : Nat) => (ovL s).all (mayB s T day)
/-- furnaces of a season. -/
def OvOk (s : Sn) (o : Ovn) : Prop := MsOk s o.ms ∧ o.ms.length ≤ 6
theorem ovL_ok {s : Sn} (ok : OkS s) : ∀ o ∈ ovL s, OvOk s o := fun o ho => by
  unfold ovL at ho
  simp only [List.mem_map, List.mem_range] at ho
  obtain ⟨k, -, rfl⟩ := ho
  exact ⟨mksAt_ok s k, Nat.le_trans (mksAt_len s k) ok.nm⟩
/-- plans that are as long as they shall be. -/
structure PlOk (s : Sn) (T : List (List Int)) : Prop where
  len : T.length = s.mks.length
  row : ∀ r ∈ T, (r.length : Int) = s.days ∧ ∀ x ∈ r, -1 ≤ x ∧ x < s.arts.length

set_option maxHeartbeats 4000000 in
set_option maxRecDepth 100000 in
theorem keeps_any (s : Sn) (d : SA) (v7 : Value) (T : List (List Int)) (vt : Value) (w : World) (h : SnD w s d) (ok : OkS s) (ho : ROvns w v7 (ovL s)) (hT : RRows w vt T) (pk : PlOk s T) :
    Calls Try.prog 37 #[.agg #[.int .i64 s.days, .slice d.a1 s.arts.length d.c1, .slice d.a2 s.ovens.length d.c2, .slice d.a3 s.mks.length d.c3, .slice d.a4 s.jobs.length d.c4, .slice d.a5 s.cols.length d.c5, .slice d.a6 s.ods.length d.c6, v7], vt] w fun e w' => e = .returned (.bool (keepsB s T)) ∧ Below w.heap.size w w' := by
  have hov := ovL_ok ok
  have HK0 : Hid (∀ b, (List.range s.days.toNat).all (fun (day : Nat) => (ovL s).all (mayB s T day)) = b → b = keepsB s T) := Lib.hid (fun b h => h.symm)
  have HOV := Lib.hid hov
  clear hov
  generalize ovL s = L at *
  obtain ⟨a7, c7, rfl, -, ⟨-, hm7⟩, hl7⟩ := ho
  obtain ⟨v7, hv7⟩ : ∃ v, Value.slice a7 L.length c7 = v := ⟨_, rfl⟩
  rw [hv7]
  have HV := Lib.hid hv7
  clear hv7
  have hA := below_box w (.cells #[.int .i64 s.days, .slice d.a1 s.arts.length d.c1, .slice d.a2 s.ovens.length d.c2, .slice d.a3 s.mks.length d.c3, .slice d.a4 s.jobs.length d.c4, .slice d.a5 s.cols.length d.c5, .slice d.a6 s.ods.length d.c6, v7] 63)
  have h0 := Blk.new w #[.int .i64 s.days, .slice d.a1 s.arts.length d.c1, .slice d.a2 s.ovens.length d.c2, .slice d.a3 s.mks.length d.c3, .slice d.a4 s.jobs.length d.c4, .slice d.a5 s.cols.length d.c5, .slice d.a6 s.ods.length d.c6, v7] 63
  have hd := ok.days
  have x0 := h0.cell 0 _ rfl
  go_enter Try.func37, Try.ntmps37
  go_wp2
  generalize w.alloc (.cells #[.int .i64 s.days, .slice d.a1 s.arts.length d.c1, .slice d.a2 s.ovens.length d.c2, .slice d.a3 s.mks.length d.c3, .slice d.a4 s.jobs.length d.c4, .slice d.a5 s.cols.length d.c5, .slice d.a6 s.ods.length d.c6, v7] 63) = W at *
  clear x0
  go_loopw [11] (fun i wr => ∃ k : Nat, (k : Int) ≤ s.days ∧ i = .int .i64 k ∧ Hid (∀ j : Nat, j < k → L.all (mayB s T j) = true) ∧ Blk wr w.heap.size #[.int .i64 s.days, .slice d.a1 s.arts.length d.c1, .slice d.a2 s.ovens.length d.c2, .slice d.a3 s.mks.length d.c3, .slice d.a4 s.jobs.length d.c4, .slice d.a5 s.cols.length d.c5, .slice d.a6 s.ods.length d.c6, v7] 63 ∧ Below w.heap.size w wr) (fun i _ => s.days.toNat - (intOf i).toNat)
  case atStart => exact ⟨0, by omega, rfl, Lib.hid (fun j h => absurd h (by omega)), h0, hA⟩
  case round =>
    obtain ⟨k, hk, rfl, hno, hX, hb⟩ := hrel
    by_cases hlt : (k : Int) < s.days
    · have x7 := hX.cell 7 _ rfl
      rw [← HV.out] at x7
      go_wp2
      go_loopw [17] (fun i wr => ∃ m : Nat, m ≤ L.length ∧ i = .int .i64 m ∧ Hid (∀ j (h : j < L.length), j < m → mayB s T k L[j] = true) ∧ Blk wr w.heap.size #[.int .i64 s.days, .slice d.a1 s.arts.length d.c1, .slice d.a2 s.ovens.length d.c2, .slice d.a3 s.mks.length d.c3, .slice d.a4 s.jobs.length d.c4, .slice d.a5 s.cols.length d.c5, .slice d.a6 s.ods.length d.c6, v7] 63 ∧ Below w.heap.size w wr) (fun i _ => L.length - (intOf i).toNat)
      case atStart => exact ⟨0, by omega, rfl, Lib.hid (fun j _ h => absurd h (by omega)), hX, hb⟩
      case round =>
        clear hX hb x7 h0 hA
        obtain ⟨m, hm, rfl, hno2, hX, hb⟩ := hrel
        by_cases hlt2 : m < L.length
        · obtain ⟨b1, o1, he1, v1, v2, ⟨q0, q1, q2, q3⟩, hri, hrc⟩ := hl7 m hlt2
          obtain ⟨hms, hl6⟩ := HOV.out _ (List.getElem_mem hlt2)
          have HN : Hid (∀ r, mayB s T k L[m] = r → r = true → ∀ j (h : j < L.length), j < m + 1 → mayB s T k L[j] = true) := Lib.hid (fun r h1 h2 j hj hjk => by
            by_cases e : j = m
            · subst e; rw [h1, h2]
            · exact hno2.out j hj (by omega))
          have HF : Hid (mayB s T k L[m] = false → keepsB s T = false) := Lib.hid (fun hp => by
            refine (HK0.out false ?_).symm
            rw [List.all_eq_false]
            refine ⟨k, List.mem_range.2 (by omega), ?_⟩
            rw [Bool.not_eq_true, List.all_eq_false]
            exact ⟨_, List.getElem_mem hlt2, by rw [hp]; decide⟩)
          obtain ⟨am, cm, rfl⟩ := hri.shape
          obtain ⟨a2, c2, rfl⟩ := hrc.shape
          have hE := ext_of_below hb
          have k0 := hE _ _ q0
          have k1 := hE _ _ q1
          have k2 := hE _ _ q2
          have k3 := hE _ _ q3
          simp only at k0 k1 k2 k3
          have j1 : (0 : Int) ≤ (m : Int) := Int.natCast_nonneg _
          have j2 : (m : Int) < (L.length : Int) := by omega
          rw [he1]
          clear q0 q1 q2 q3 he1 hno2
          generalize L[m] = o at *
          have hO := Blk.new wr #[.int .i64 o.x.lo, .int .i64 o.x.hi, .slice am o.ms.length cm, .slice a2 o.sh.length c2] 69
          have hXo := hX.alloc (.cells #[.int .i64 o.x.lo, .int .i64 o.x.hi, .slice am o.ms.length cm, .slice a2 o.sh.length c2] 69)
          have hbo := hb.alloc (Nat.le_trans hb.size (Nat.le_refl _)) (.cells #[.int .i64 o.x.lo, .int .i64 o.x.hi, .slice am o.ms.length cm, .slice a2 o.sh.length c2] 69)
          have hzb := hX.lt
          clear hX hb
          go_wp2_with fail
          generalize hB : wr.heap.size = B at *
          clear hB
          generalize wr.alloc (.cells #[.int .i64 o.x.lo, .int .i64 o.x.hi, .slice am o.ms.length cm, .slice a2 o.sh.length c2] 69) = wo at *
          clear k0 k1 k2 k3
          have D0 : Below wo.heap.size wo wo.drew := (Below.refl _ _).drew
          have HSV : Hid (∀ V, Below wo.heap.size wo V → (fun w' : World => (w'.cell? ⟨B, 0, none⟩ = some (.int .i64 o.x.lo) ∧ w'.cell? ⟨B, 1, none⟩ = some (.int .i64 o.x.hi) ∧ w'.cell? ⟨B, 2, none⟩ = some (.slice am o.ms.length cm) ∧ w'.cell? ⟨B, 3, none⟩ = some (.slice a2 o.sh.length c2)) ∧ w'.rangeAt w.heap.size 0 (#[.int .i64 s.days, .slice d.a1 s.arts.length d.c1, .slice d.a2 s.ovens.length d.c2, .slice d.a3 s.mks.length d.c3, .slice d.a4 s.jobs.length d.c4, .slice d.a5 s.cols.length d.c5, .slice d.a6 s.ods.length d.c6, v7]).toList) V) := Lib.hid (fun V hV => ⟨⟨(hO.below hV hO.lt).cell 0 _ rfl, (hO.below hV hO.lt).cell 1 _ rfl, (hO.below hV hO.lt).cell 2 _ rfl, (hO.below hV hO.lt).cell 3 _ rfl⟩, (hXo.below hV hXo.lt).range⟩)
          refine wp_region_till (fun w' : World => (w'.cell? ⟨B, 0, none⟩ = some (.int .i64 o.x.lo) ∧ w'.cell? ⟨B, 1, none⟩ = some (.int .i64 o.x.hi) ∧ w'.cell? ⟨B, 2, none⟩ = some (.slice am o.ms.length cm) ∧ w'.cell? ⟨B, 3, none⟩ = some (.slice a2 o.sh.length c2)) ∧ w'.rangeAt w.heap.size 0 (#[.int .i64 s.days, .slice d.a1 s.arts.length d.c1, .slice d.a2 s.ovens.length d.c2, .slice d.a3 s.mks.length d.c3, .slice d.a4 s.jobs.length d.c4, .slice d.a5 s.cols.length d.c5, .slice d.a6 s.ods.length d.c6, v7]).toList) 9 (by kernel_rfl) (HSV.out _ D0) (fun hHeld => ?_)
          have HD0 := Lib.hid D0
          clear D0
          generalize wo.drew = wd at *
          refine Till.take 0 (some 21) (v := ?_) rfl rfl (by kernel_rfl) (by kernel_rfl) (by kernel_rfl) (by kernel_rfl) (fun _ _ _ h => h) (Or.inl ⟨by rfl, ?_⟩) (by assumption) ?_
          rotate_left
          · (intro w hSw; (try dsimp only at hSw); go_simp; try with_reducible rfl)
          try simp only [Act.put, List.setIfInBounds_toArray, List.set_cons_zero, List.set_cons_succ]
          refine Till.take 1 (some 22) (v := ?_) rfl rfl (by kernel_rfl) (by kernel_rfl) (by kernel_rfl) (by kernel_rfl) (fun _ _ _ h => h) (Or.inl ⟨by rfl, ?_⟩) (by assumption) ?_
          rotate_left
          · (intro w hSw; (try dsimp only at hSw); go_simp; try with_reducible rfl)
          try simp only [Act.put, List.setIfInBounds_toArray, List.set_cons_zero, List.set_cons_succ]
          refine Till.take 2 (some 23) (v := .agg #[.int .i64 s.days, .slice d.a1 s.arts.length d.c1, .slice d.a2 s.ovens.length d.c2, .slice d.a3 s.mks.length d.c3, .slice d.a4 s.jobs.length d.c4, .slice d.a5 s.cols.length d.c5, .slice d.a6 s.ods.length d.c6, v7]) rfl rfl (by kernel_rfl) (by kernel_rfl) (by kernel_rfl) (by kernel_rfl) (fun _ _ _ h => h) (yieldsIf_load_mid rfl 63 (Operand.tmp 2) rfl w.heap.size 0 rfl (#[.int .i64 s.days, .slice d.a1 s.arts.length d.c1, .slice d.a2 s.ovens.length d.c2, .slice d.a3 s.mks.length d.c3, .slice d.a4 s.jobs.length d.c4, .slice d.a5 s.cols.length d.c5, .slice d.a6 s.ods.length d.c6, v7]).toList _ (fun _ h => h.2) Try.underlying63 rfl (by rw [sz_works]; rfl)) (by assumption) ?_
          try simp only [Act.put, List.setIfInBounds_toArray, List.set_cons_zero, List.set_cons_succ]
          refine Till.take 3 (some 24) (v := ?_) rfl rfl (by kernel_rfl) (by kernel_rfl) (by kernel_rfl) (by kernel_rfl) (fun _ _ _ h => h) (Or.inl ⟨by rfl, ?_⟩) (by assumption) ?_
          rotate_left
          · (intro w hSw; (try dsimp only at hSw); go_simp; try with_reducible rfl)
          try simp only [Act.put, List.setIfInBounds_toArray, List.set_cons_zero, List.set_cons_succ]
          refine Till.take 4 (some 25) (v := ?_) rfl rfl (by kernel_rfl) (by kernel_rfl) (by kernel_rfl) (by kernel_rfl) (fun _ _ _ h => h) (Or.inl ⟨by rfl, ?_⟩) (by assumption) ?_
          rotate_left
          · (intro w hSw; (try dsimp only at hSw); go_simp; try with_reducible rfl)
          try simp only [Act.put, List.setIfInBounds_toArray, List.set_cons_zero, List.set_cons_succ]
          refine Till.take 5 (some 26) (v := ?_) rfl rfl (by kernel_rfl) (by kernel_rfl) (by kernel_rfl) (by kernel_rfl) (fun _ _ _ h => h) (Or.inl ⟨by rfl, ?_⟩) (by assumption) ?_
          rotate_left
          · (intro w hSw; (try dsimp only at hSw); go_simp; try with_reducible rfl)
          try simp only [Act.put, List.setIfInBounds_toArray, List.set_cons_zero, List.set_cons_succ]
          refine Till.one 6 rfl (by kernel_rfl) (fun K hK => ?_)
          go_simp
          go_at_call 62
          have HDb := hbo.trans (HD0.out.mono hbo.size)
          have hEw := ext_of_below HDb
          refine (crew_any s d v7 o.x.lo o.x.hi am cm o.ms _ vt T k wd (h.mono hEw) ok (hri.mono hEw) hms hl6 (hT.mono hEw) pk.len (fun r hr => (pk.row r hr).1) (by omega) hlt).mono ?_
          rintro e W1 ⟨rfl, hb1⟩
          have hD1 := HD0.out.trans (hb1.mono HD0.out.size)
          have hh1 := HSV.out _ hD1
          refine hK.out _ _ (fun _ => hh1) (fun hHeld1 => ?_)
          clear hK K hb1
          try simp only [Act.put, List.setIfInBounds_toArray, List.set_cons_zero, List.set_cons_succ]
          refine Till.one 7 rfl (by kernel_rfl) (fun K hK => ?_)
          go_simp
          go_at_call 61
          have HDb1 := hbo.trans (hD1.mono hbo.size)
          refine (contCrew_any _ o.sh (crewS s T k o.ms idleC) W1 (hrc.mono (ext_of_below HDb1))).mono ?_
          rintro e W2 ⟨rfl, hb2⟩
          obtain ⟨bv, hbv⟩ : ∃ b, o.sh.any (crEq (crewS s T k o.ms idleC)) = b := ⟨_, rfl⟩
          rw [hbv]
          have HBV : Hid (mayB s T k o = bv) := Lib.hid hbv
          clear hbv
          have hD2 := hD1.trans (hb2.mono hD1.size)
          have hh2 := HSV.out _ hD2
          refine hK.out _ _ (fun _ => hh2) (fun hHeld2 => ?_)
          clear hK K hb2 hHeld hHeld1 hHeld2
          try simp only [Act.put, List.setIfInBounds_toArray, List.set_cons_zero, List.set_cons_succ]
          refine Till.take 8 (some 29) (v := ?_) rfl rfl (by kernel_rfl) (by kernel_rfl) (by kernel_rfl) (by kernel_rfl) (fun _ _ _ h => h) (Or.inl ⟨by rfl, ?_⟩) (by assumption) ?_
          rotate_left
          · (intro w hSw; (try dsimp only at hSw); go_simp; try with_reducible rfl)
          try simp only [Act.put, List.setIfInBounds_toArray, List.set_cons_zero, List.set_cons_succ]
          refine Till.done (by kernel_rfl) ?_ _
          have hX2 := hXo.below hD2 hXo.lt
          have HB2 := Lib.hid (hbo.trans (hD2.mono hbo.size))
          clear hh1 hh2 HD0 HDb hEw HSV hD1 hD2 HDb1 hXo hbo hO
          cases bv with
          | true =>
            have HN2 := Lib.hid (HN.out _ HBV.out rfl)
            clear HN HF HBV
            go_wp2
            go_roundw
            case rel => exact ⟨m + 1, by omega, by go_num, HN2, hX2, HB2.out⟩
            case measure => simp [intOf]; omega
          | false =>
            have HN2 := Lib.hid (HF.out HBV.out)
            clear HN HF HBV
            go_wp2
            go_ret
            exact ⟨ret_bool HN2.out.symm, HB2.out⟩
        · obtain rfl : m = L.length := by omega
          have HA2 : Hid (∀ j : Nat, j < k + 1 → L.all (mayB s T j) = true) := Lib.hid (fun j hj => by
            by_cases e : j = k
            · subst e
              rw [List.all_eq_true]
              intro x hx
              obtain ⟨i, hi, rfl⟩ := List.getElem_of_mem hx
              exact hno2.out i hi hi
            · exact hno.out j (by omega))
          clear hno hno2
          go_wp2
          go_roundw
          case rel => exact ⟨k + 1, by omega, by go_num, HA2, hX, hb⟩
          case measure => simp [intOf]; omega
    · have HA2 : Hid (true = keepsB s T) := Lib.hid (HK0.out true (by
        rw [List.all_eq_true]
        intro j hj
        exact hno.out j (by have := List.mem_range.1 hj; omega)))
      clear hno HK0
      go_wp2
      go_ret
      exact ⟨ret_bool HA2.out, hb⟩
end Go.Proofs.Ytdffhkbncencgaa
