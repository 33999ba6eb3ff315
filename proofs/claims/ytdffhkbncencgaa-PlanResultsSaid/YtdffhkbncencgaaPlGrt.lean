/- How great seasons and what is asked of them may be: culletlaw08's Great, Wide, far; no statement is proved here. -/
import Derived.Test.YtdffhkbncencgaaPlCost
namespace Go.Proofs.Ytdffhkbncencgaa
open Go.RowKit Go.PlainAid
set_option linter.unusedVariables false
set_option linter.unusedSimpArgs false

def SomeBool (w : World) (e : Ending) (w' : World) : Prop := (∃ b, e = .returned (.bool b)) ∧ Below w.heap.size w w'
set_option maxHeartbeats 4000000 in
set_option maxRecDepth 100000 in
theorem far_any (T : List (List Int)) (v : Value) (w : World) (hT : RRows w v T) : Calls Try.prog 30 #[v] w fun e w' => (∃ b, e = .returned (.bool b)) ∧ w' = w := by
  obtain ⟨a, c, rfl, -, ⟨-, hm⟩, hl⟩ := hT
  go_enter Try.func30, Try.ntmps30
  by_cases h20 : 20 < T.length
  · have h1 : (20 : Int) < T.length := by omega
    go_wp2
    go_ret
    exact ⟨⟨_, rfl⟩, rfl⟩
  have h1 : ¬ (20 : Int) < T.length := by omega
  go_upto_region 4 with (fail)
  clear h1
  go_loopw [3] (fun i wr => ∃ k : Nat, k ≤ T.length ∧ i = .int .i64 k ∧ wr = w) (fun i _ => T.length - (intOf i).toNat)
  case atStart => exact ⟨0, Nat.zero_le _, rfl, rfl⟩
  case round =>
    obtain ⟨k, hk, rfl, rfl⟩ := hrel
    by_cases hlt : k < T.length
    · obtain ⟨b1, o1, rfl, v1, q0, hri⟩ := hl k hlt
      obtain ⟨ar, cr, rfl⟩ := hri.shape
      simp only [Nat.mul_one] at q0
      have j1 : (0 : Int) ≤ (k : Int) := Int.natCast_nonneg _
      have j2 : (k : Int) < (T.length : Int) := by omega
      clear hl hri
      generalize (T[k]).length = tl at *
      by_cases h30 : 30 < tl
      · have h1 : (30 : Int) < tl := by omega
        go_wp2
        go_ret
        exact ⟨⟨_, rfl⟩, rfl⟩
      · have h1 : ¬ (30 : Int) < tl := by omega
        go_wp2
        go_roundw
        case rel => exact ⟨k + 1, by omega, by go_num, by trivial⟩
        case measure => simp [intOf]; omega
    · obtain rfl : k = T.length := by omega
      clear hl
      go_wp2
      go_ret
      exact ⟨⟨_, rfl⟩, rfl⟩

set_option maxHeartbeats 4000000 in
set_option maxRecDepth 100000 in
theorem Wide_any (x : Ask8) (v0 v1 v3 : Value) (w : World) (h : AskC w x v0 v1 v3) : Calls Try.prog 10 #[.agg #[v0, v1, .int .i64 x.oven, v3]] w (SomeBool w) := by
  have hp := h.plan
  have ho := h.other
  obtain ⟨a0, c0, rfl⟩ := hp.shape
  obtain ⟨a1, c1, rfl⟩ := ho.shape
  obtain ⟨a3, c3, rfl⟩ := h.prices.shape
  have hA := below_box w (.cells #[.slice a0 x.plan.length c0, .slice a1 x.other.length c1, .int .i64 x.oven, .slice a3 x.prices.length c3] 32)
  have hEx := ext_of_below hA
  have hF0 := far_any x.plan _ _ (hp.mono hEx)
  have hF1 := far_any x.other _ _ (ho.mono hEx)
  have HA := Lib.hid hA
  clear hA h hp ho hEx
  go_enter Try.func10, Try.ntmps10
  go_wp2_with fail
  refine hF0.mono ?_
  rintro e w1 ⟨⟨b, rfl⟩, rfl⟩
  cases b with
  | true =>
    clear hF0 hF1
    go_wp2
    go_ret
    exact ⟨⟨_, rfl⟩, HA.out⟩
  | false =>
    clear hF0
    go_wp2_with fail
    refine hF1.mono ?_
    rintro e w1 ⟨⟨b, rfl⟩, rfl⟩
    clear hF1
    cases b with
    | true =>
      go_wp2
      go_ret
      exact ⟨⟨_, rfl⟩, HA.out⟩
    | false =>
      by_cases h30 : (30 : Int) < x.prices.length
      · go_wp2
        go_ret
        exact ⟨⟨_, rfl⟩, HA.out⟩
      · go_wp2
        go_ret
        exact ⟨⟨_, rfl⟩, HA.out⟩

set_option maxHeartbeats 8000000 in
set_option maxRecDepth 100000 in
theorem Great8_any (s : Sn) (d : SA) (w : World) (h : SnD w s d) : Calls Try.prog 9 #[.agg #[.int .i64 s.days, .slice d.a1 s.arts.length d.c1, .slice d.a2 s.ovens.length d.c2, .slice d.a3 s.mks.length d.c3, .slice d.a4 s.jobs.length d.c4, .slice d.a5 s.cols.length d.c5, .slice d.a6 s.ods.length d.c6]] w (SomeBool w) := by
  have hA := below_box w (.cells #[.int .i64 s.days, .slice d.a1 s.arts.length d.c1, .slice d.a2 s.ovens.length d.c2, .slice d.a3 s.mks.length d.c3, .slice d.a4 s.jobs.length d.c4, .slice d.a5 s.cols.length d.c5, .slice d.a6 s.ods.length d.c6] 28)
  have h0 := Blk.new w #[.int .i64 s.days, .slice d.a1 s.arts.length d.c1, .slice d.a2 s.ovens.length d.c2, .slice d.a3 s.mks.length d.c3, .slice d.a4 s.jobs.length d.c4, .slice d.a5 s.cols.length d.c5, .slice d.a6 s.ods.length d.c6] 28
  have hEx := ext_of_below hA
  have hra := h.arts.mono hEx
  have hrm := h.mks.mono hEx
  have hrj := h.jobs.mono hEx
  have hrc := h.cols.mono hEx
  have x1 := h0.cell 1 _ rfl
  have x2 := h0.cell 2 _ rfl
  have x3 := h0.cell 3 _ rfl
  have x4 := h0.cell 4 _ rfl
  have x5 := h0.cell 5 _ rfl
  have x6 := h0.cell 6 _ rfl
  have HA := Lib.hid hA
  have l1 := h.arts.len
  have l3 := h.mks.len
  have l4 := h.jobs.len
  have l5 := h.cols.len
  clear hA h hEx
  go_enter Try.func9, Try.ntmps9
  go_upto_region 1 with (fail)
  generalize w.alloc (.cells #[.int .i64 s.days, .slice d.a1 s.arts.length d.c1, .slice d.a2 s.ovens.length d.c2, .slice d.a3 s.mks.length d.c3, .slice d.a4 s.jobs.length d.c4, .slice d.a5 s.cols.length d.c5, .slice d.a6 s.ods.length d.c6] 28) = W at *
  go_cut [65] (fun sv wx => ∃ b, sv = .bool b ∧ wx = W)
  case first =>
    have HX := Lib.hid hra
    have HY := Lib.hid hrm
    clear hra hrm hrj hrc h0 l1 l3 l4 l5
    obtain ⟨n1, hn1⟩ : ∃ n : Int, (s.arts.length : Int) = n := ⟨_, rfl⟩
    obtain ⟨n3, hn3⟩ : ∃ n : Int, (s.mks.length : Int) = n := ⟨_, rfl⟩
    -- tree
    by_cases carts1 : (4 : Int) < s.arts.length
    · by_cases carts2 : (s.arts.length : Int) ≤ 8
      · go_wp2_with fail
        go_meet
        exact ⟨_, rfl, rfl⟩
      · by_cases carts3 : (12 : Int) < s.arts.length
        · go_wp2_with fail
          go_meet
          exact ⟨_, rfl, rfl⟩
        · by_cases cmks1 : (3 : Int) < s.mks.length
          · by_cases cmks2 : (s.mks.length : Int) ≤ 6
            · go_wp2_with fail
              go_meet
              exact ⟨_, rfl, rfl⟩
            · by_cases cmks3 : (10 : Int) < s.mks.length
              · go_wp2_with fail
                go_meet
                exact ⟨_, rfl, rfl⟩
              · by_cases eovens : (4 : Int) < s.ovens.length
                · go_wp2_with fail
                  go_meet
                  exact ⟨_, rfl, rfl⟩
                · by_cases ejobs : (20 : Int) < s.jobs.length
                  · go_wp2_with fail
                    go_meet
                    exact ⟨_, rfl, rfl⟩
                  · by_cases ecols : (10 : Int) < s.cols.length
                    · go_wp2_with fail
                      go_meet
                      exact ⟨_, rfl, rfl⟩
                    · by_cases eods : (20 : Int) < s.ods.length
                      · go_wp2_with fail
                        go_meet
                        exact ⟨_, rfl, rfl⟩
                      · go_wp2_with fail
                        go_meet
                        exact ⟨_, rfl, rfl⟩
          · have cmks3 : ¬ (10 : Int) < s.mks.length := by omega
            by_cases eovens : (4 : Int) < s.ovens.length
            · go_wp2_with fail
              go_meet
              exact ⟨_, rfl, rfl⟩
            · by_cases ejobs : (20 : Int) < s.jobs.length
              · go_wp2_with fail
                go_meet
                exact ⟨_, rfl, rfl⟩
              · by_cases ecols : (10 : Int) < s.cols.length
                · go_wp2_with fail
                  go_meet
                  exact ⟨_, rfl, rfl⟩
                · by_cases eods : (20 : Int) < s.ods.length
                  · go_wp2_with fail
                    go_meet
                    exact ⟨_, rfl, rfl⟩
                  · go_wp2_with fail
                    go_meet
                    exact ⟨_, rfl, rfl⟩
    · have carts3 : ¬ (12 : Int) < s.arts.length := by omega
      by_cases cmks1 : (3 : Int) < s.mks.length
      · by_cases cmks2 : (s.mks.length : Int) ≤ 6
        · go_wp2_with fail
          go_meet
          exact ⟨_, rfl, rfl⟩
        · by_cases cmks3 : (10 : Int) < s.mks.length
          · go_wp2_with fail
            go_meet
            exact ⟨_, rfl, rfl⟩
          · by_cases eovens : (4 : Int) < s.ovens.length
            · go_wp2_with fail
              go_meet
              exact ⟨_, rfl, rfl⟩
            · by_cases ejobs : (20 : Int) < s.jobs.length
              · go_wp2_with fail
                go_meet
                exact ⟨_, rfl, rfl⟩
              · by_cases ecols : (10 : Int) < s.cols.length
                · go_wp2_with fail
                  go_meet
                  exact ⟨_, rfl, rfl⟩
                · by_cases eods : (20 : Int) < s.ods.length
                  · go_wp2_with fail
                    go_meet
                    exact ⟨_, rfl, rfl⟩
                  · go_wp2_with fail
                    go_meet
                    exact ⟨_, rfl, rfl⟩
      · have cmks3 : ¬ (10 : Int) < s.mks.length := by omega
        by_cases eovens : (4 : Int) < s.ovens.length
        · go_wp2_with fail
          go_meet
          exact ⟨_, rfl, rfl⟩
        · by_cases ejobs : (20 : Int) < s.jobs.length
          · go_wp2_with fail
            go_meet
            exact ⟨_, rfl, rfl⟩
          · by_cases ecols : (10 : Int) < s.cols.length
            · go_wp2_with fail
              go_meet
              exact ⟨_, rfl, rfl⟩
            · by_cases eods : (20 : Int) < s.ods.length
              · go_wp2_with fail
                go_meet
                exact ⟨_, rfl, rfl⟩
              · go_wp2_with fail
                go_meet
                exact ⟨_, rfl, rfl⟩
  case rest =>
    obtain ⟨b, rfl, rfl⟩ := hcut
    cases b with
    | true =>
      clear hra hrm hrj hrc
      go_wp2
      go_ret
      exact ⟨⟨_, rfl⟩, HA.out⟩
    | false =>
    clear x2 x6
    obtain ⟨aa, ca, hva, -, -, hla⟩ := hra
    obtain ⟨am, cm, hvm, -, -, hlm⟩ := hrm
    obtain ⟨aj, cj, hvj, -, -, hlj⟩ := hrj
    obtain ⟨ac, cc, hvc, -, -, hlc⟩ := hrc
    simp only [Value.slice.injEq, true_and] at hva hvm hvj hvc
    have HVA := Lib.hid hva.1
    have HVM := Lib.hid hvm.1
    have HVJ := Lib.hid hvj.1
    have HVC := Lib.hid hvc.1
    have HLA := Lib.hid hla
    have HLM := Lib.hid hlm
    have HLJ := Lib.hid hlj
    have HLC := Lib.hid hlc
    clear hva hvm hvj hvc hla hlm hlj hlc
    go_upto_region 5 with (fail)
    go_loopw [3, 4] (fun v i wr => ∃ (k : Nat) (n : Int), k ≤ s.arts.length ∧ i = .int .i64 k ∧ v = .int .i64 n ∧ wr = wc) (fun _ i _ => s.arts.length - (intOf i).toNat)
    case atStart => exact ⟨0, 0, Nat.zero_le _, rfl, rfl, rfl⟩
    case round =>
      obtain ⟨k, n, hk, rfl, rfl, rfl⟩ := hrel
      by_cases hlt : k < s.arts.length
      · obtain ⟨b1, o1, he1, ⟨q0, q1, q2⟩, q3, -⟩ := HLA.out k hlt
        have y1 : wr.cell? ⟨w.heap.size, 1, none⟩ = some (.slice (some ⟨b1, o1, none⟩) s.arts.length d.c1) := by rw [x1]; show some (Value.slice d.a1 s.arts.length d.c1) = _; rw [HVA.out, he1]
        have j1 : (0 : Int) ≤ (k : Int) := Int.natCast_nonneg _
        have j2 : (k : Int) < (s.arts.length : Int) := by omega
        clear he1 x1
        go_wp2
        go_roundw
        case rel => exact ⟨k + 1, _, by omega, by go_num, rfl, by trivial⟩
        case measure => simp [intOf]; omega
      · obtain rfl : k = s.arts.length := by omega
        go_upto_region 9 with (fail)
        go_loopw [5] (fun i wr' => ∃ k : Nat, k ≤ s.mks.length ∧ i = .int .i64 k ∧ wr' = wr) (fun i _ => s.mks.length - (intOf i).toNat)
        case atStart => exact ⟨0, Nat.zero_le _, rfl, rfl⟩
        case round =>
          obtain ⟨k, hk, rfl, rfl⟩ := hrel
          by_cases hlt : k < s.mks.length
          · obtain ⟨b1, o1, he1, v1, ⟨q0, q1, q2, q3⟩, -, hri, -⟩ := HLM.out k hlt
            obtain ⟨ar, cr, rfl⟩ := hri.shape
            have y1 : wr.cell? ⟨w.heap.size, 3, none⟩ = some (.slice (some ⟨b1, o1, none⟩) s.mks.length d.c3) := by rw [x3]; show some (Value.slice d.a3 s.mks.length d.c3) = _; rw [HVM.out, he1]
            have j1 : (0 : Int) ≤ (k : Int) := Int.natCast_nonneg _
            have j2 : (k : Int) < (s.mks.length : Int) := by omega
            clear he1 x3 hri
            generalize (s.mks[k]).rates.length = rl at *
            by_cases h20 : (20 : Int) < rl
            · go_wp2
              go_ret
              exact ⟨⟨_, rfl⟩, HA.out⟩
            · go_wp2
              go_roundw
              case rel => exact ⟨k + 1, by omega, by go_num, by trivial⟩
              case measure => simp [intOf]; omega
          · obtain rfl : k = s.mks.length := by omega
            go_upto_region 14 with (fail)
            go_loopw [6] (fun i wr' => ∃ k : Nat, k ≤ s.jobs.length ∧ i = .int .i64 k ∧ wr' = wr) (fun i _ => s.jobs.length - (intOf i).toNat)
            case atStart => exact ⟨0, Nat.zero_le _, rfl, rfl⟩
            case round =>
              obtain ⟨k, hk, rfl, rfl⟩ := hrel
              by_cases hlt : k < s.jobs.length
              · obtain ⟨b1, o1, he1, v1, q0, hri⟩ := HLJ.out k hlt
                obtain ⟨ar, cr, rfl⟩ := hri.shape
                simp only [Nat.mul_one] at q0
                have y1 : wr.cell? ⟨w.heap.size, 4, none⟩ = some (.slice (some ⟨b1, o1, none⟩) s.jobs.length d.c4) := by rw [x4]; show some (Value.slice d.a4 s.jobs.length d.c4) = _; rw [HVJ.out, he1]
                have j1 : (0 : Int) ≤ (k : Int) := Int.natCast_nonneg _
                have j2 : (k : Int) < (s.jobs.length : Int) := by omega
                clear he1 x4 hri
                generalize (s.jobs[k]).length = rl at *
                by_cases h20 : (20 : Int) < rl
                · go_wp2
                  go_ret
                  exact ⟨⟨_, rfl⟩, HA.out⟩
                · go_wp2
                  go_roundw
                  case rel => exact ⟨k + 1, by omega, by go_num, by trivial⟩
                  case measure => simp [intOf]; omega
              · obtain rfl : k = s.jobs.length := by omega
                go_upto_region 19 with (fail)
                go_loopw [7] (fun i wr' => ∃ k : Nat, k ≤ s.cols.length ∧ i = .int .i64 k ∧ wr' = wr) (fun i _ => s.cols.length - (intOf i).toNat)
                case atStart => exact ⟨0, Nat.zero_le _, rfl, rfl⟩
                case round =>
                  obtain ⟨k, hk, rfl, rfl⟩ := hrel
                  by_cases hlt : k < s.cols.length
                  · obtain ⟨b1, o1, he1, v1, q0, hri⟩ := HLC.out k hlt
                    obtain ⟨ar, cr, rfl⟩ := hri.shape
                    simp only [Nat.mul_one] at q0
                    have y1 : wr.cell? ⟨w.heap.size, 5, none⟩ = some (.slice (some ⟨b1, o1, none⟩) s.cols.length d.c5) := by rw [x5]; show some (Value.slice d.a5 s.cols.length d.c5) = _; rw [HVC.out, he1]
                    have j1 : (0 : Int) ≤ (k : Int) := Int.natCast_nonneg _
                    have j2 : (k : Int) < (s.cols.length : Int) := by omega
                    clear he1 x5 hri
                    generalize (s.cols[k]).length = rl at *
                    by_cases h20 : (20 : Int) < rl
                    · go_wp2
                      go_ret
                      exact ⟨⟨_, rfl⟩, HA.out⟩
                    · go_wp2
                      go_roundw
                      case rel => exact ⟨k + 1, by omega, by go_num, by trivial⟩
                      case measure => simp [intOf]; omega
                  · obtain rfl : k = s.cols.length := by omega
                    go_wp2
                    go_ret
                    exact ⟨⟨_, rfl⟩, HA.out⟩
end Go.Proofs.Ytdffhkbncencgaa
