/- The law StrengthThin: every input; no statement is proved here. -/
import Derived.Test.YtokgnbagegcnpaaDoorThinM
import Derived.Test.YtokgnbagegcnpaaDoorRealB
import Derived.Test.YtokgnbagegcnpaaDoorSCLaw
namespace Go.Proofs.YtokgnbagegcnpaaDoor
open Go.RowKit Go.PlainAid
set_option linter.unusedVariables false
set_option linter.unusedSimpArgs false
attribute [local go_sem ↓] exec_ask

set_option maxHeartbeats 8000000 in
set_option maxRecDepth 100000 in
theorem sThinLaw_any (vb vx : Value) (b : Bot) (x : Ask5) (w : World) (h : RBot w vb b) (hx : RAskC w vx x) (hC : Circ w) :
    Calls Tryd.prog 11 #[vb, vx] w (TrueB w) := by
  have h0 := h
  have hx0 := hx
  obtain ⟨v0, rfl, hr, hI⟩ := h
  obtain ⟨a, cap, rfl, -, -, -⟩ := hr
  obtain ⟨vt, vm, vr, pa, pk, cl, rfl, hx', -⟩ := hx
  obtain ⟨vt', vm', vr', pa', pk', he, hx1, hx2, hx3, -, hxi⟩ := hx'
  simp only [askCells, Value.agg.injEq, Array.mk.injEq, List.cons.injEq, and_true, true_and] at he
  obtain ⟨rfl, rfl, rfl, -⟩ := he
  have ht0 := hx1
  have hm0 := hx2
  have hc0 := hx3
  obtain ⟨at', kt, rfl, -, ⟨-, htm⟩, htl⟩ := hx1
  obtain ⟨am, km, rfl, -, ⟨-, hmm⟩, hml⟩ := hx2
  obtain ⟨ar, kr, rfl, -, -, -⟩ := hx3
  have hA : Below w.heap.size w ((w.alloc (.cells #[.slice a b.rings.length cap, .int .i64 b.flaw, .int .i64 b.tough] 24)).alloc (.cells (askCells x (.slice at' x.thick.length kt) (.slice am x.measured.length km) (.slice ar x.recipe.length kr) pa pk) 33)) := (below_boxS w _).alloc (by simp) _
  have hB := (Blk.new w #[.slice a b.rings.length cap, .int .i64 b.flaw, .int .i64 b.tough] 24).alloc (.cells (askCells x (.slice at' x.thick.length kt) (.slice am x.measured.length km) (.slice ar x.recipe.length kr) pa pk) 33)
  have hX := Blk.new (w.alloc (.cells #[.slice a b.rings.length cap, .int .i64 b.flaw, .int .i64 b.tough] 24)) (askCells x (.slice at' x.thick.length kt) (.slice am x.measured.length km) (.slice ar x.recipe.length kr) pa pk) 33
  rw [World.size_alloc] at hX
  have hz : ((w.alloc (.cells #[.slice a b.rings.length cap, .int .i64 b.flaw, .int .i64 b.tough] 24)).alloc (.cells (askCells x (.slice at' x.thick.length kt) (.slice am x.measured.length km) (.slice ar x.recipe.length kr) pa pk) 33)).heap.size = w.heap.size + 2 := by simp
  replace hz := And.intro (Nat.le_of_eq hz) (Nat.le_of_eq hz.symm)
  simp only [askCells] at hA hB hX hz ⊢
  go_enter Tryd.func11, Tryd.ntmps11
  go_wp2_with fail
  generalize (w.alloc (.cells #[.slice a b.rings.length cap, .int .i64 b.flaw, .int .i64 b.tough] 24)).alloc _ = W2 at *
  have HI := Lib.hid hxi
  have HR := Lib.hid (fun V (hV : Below w.heap.size w V) => h0.mono (ext_of_below hV))
  have HX := Lib.hid (fun V (hV : Below w.heap.size w V) => hx0.mono (ext_of_below hV))
  have HT := Lib.hid (fun V (hV : Below w.heap.size w V) => ht0.mono (ext_of_below hV))
  have HM := Lib.hid (fun V (hV : Below w.heap.size w V) => hm0.mono (ext_of_below hV))
  have HRC := Lib.hid (fun V (hV : Below w.heap.size w V) => hc0.mono (ext_of_below hV))
  have HTL := Lib.hid (fun V (hV : Below w.heap.size w V) i (h : i < x.thick.length) => (htl i h).elim fun b' h1 => h1.elim fun o' h2 => (⟨b', o', h2.1, h2.2.mono (ext_of_below hV)⟩ : ∃ b' o', at' = some ⟨b', o', none⟩ ∧ RSp V ⟨b', o' + i * 2, none⟩ x.thick[i]))
  have HML := Lib.hid hml
  have HC := Lib.hid (fun V (hV : Below w.heap.size w V) => hC.mono (ext_of_below hV))
  clear h0 hx0 ht0 htl hC hm0 hc0 hml hxi
  simp only [askCells] at HX
  refine (great5_any _ b _ (HR.out _ hA)).mono ?_
  rintro e w1 ⟨rfl, hb1⟩
  have hA1 := hA.trans (hb1.mono hA.size)
  have hB1 := hB.below hb1 hB.lt
  have hX1 := hX.below hb1 hX.lt
  have hz1 : w.heap.size + 2 ≤ w1.heap.size := by have := hb1.size; omega
  clear hA hB hX hb1 hz
  cases hg : decide (40 < b.rings.length) with
  | true =>
    clear hB1 hX1
    go_wp2_with fail
    refine (lives5_any _ (HC.out _ hA1)).mono ?_
    rintro e wl ⟨rfl, hbl⟩
    have hAl := hA1.trans (hbl.mono hA1.size)
    clear hbl hA1
    go_wp2
    go_ret
    exact ⟨rfl, hAl⟩

  | false =>
  have c0 := hB1.cell 0 _ rfl
  have c1 := hB1.cell 1 _ rfl
  have c2 := hB1.cell 2 _ rfl
  have hld := ld_ask hX1 rfl
  go_wp2_with fail
  refine (wide5_any _ x _ (HX.out _ hA1)).mono ?_
  rintro e w2 ⟨rw, rfl, hwd, hb2⟩
  have hA2 := hA1.trans (hb2.mono hA1.size)
  have hB2 := hB1.below hb2 hB1.lt
  have hX2 := hX1.below hb2 hX1.lt
  have hz2 : w.heap.size + 2 ≤ w2.heap.size := by have := hb2.size; omega
  clear hA1 hB1 hX1 hb2 hz1 c0 c1 c2 hld
  cases rw with
  | true =>
    clear hB2 hX2
    go_wp2_with fail
    refine (lives5_any _ (HC.out _ hA2)).mono ?_
    rintro e wl ⟨rfl, hbl⟩
    have hAl := hA2.trans (hbl.mono hA2.size)
    clear hbl hA2
    go_wp2
    go_ret
    exact ⟨rfl, hAl⟩

  | false =>
  have h40 := hwd rfl
  clear hwd
  have c0 := hB2.cell 0 _ rfl
  have c1 := hB2.cell 1 _ rfl
  have c2 := hB2.cell 2 _ rfl
  have x1 := hX2.cell 1 _ rfl
  have x2 := hX2.cell 2 _ rfl
  have x3 := hX2.cell 3 _ rfl
  have x4 := hX2.cell 4 _ rfl
  go_wp2_with fail
  refine (neededP_any _ b x.load _ (HR.out _ hA2) (HC.out _ hA2)).mono ?_
  rintro e w3 ⟨vn, rfl, hvn, hb3⟩
  have hA3 := hA2.trans (hb3.mono hA2.size)
  have hB3 := hB2.below hb3 hB2.lt
  have hX3 := hX2.below hb3 hX2.lt
  have hz3 : w.heap.size + 2 ≤ w3.heap.size := by have := hb3.size; omega
  clear hA2 hB2 hX2 hb3 hz2
  clear c0 c1 c2 x1 x2 x3 x4
  have HVN : Hid (∀ V, Below w3.heap.size w3 V → RInts V vn (needsS b x.load)) := Lib.hid (fun V hV => hvn.mono ((vis_ext _ _).trans (ext_of_below hV)))
  have hvn0 := hvn
  obtain ⟨an, kn, rfl, -, ⟨-, hnm⟩, hnl⟩ := hvn
  by_cases hw0 : bothS b x.load = 0
  case neg =>
    have hne : (bothS b x.load == 0) = false := by simpa using hw0
    have hln : (needsS b x.load).length = 0 := by rw [needsS, if_neg hw0]; rfl
    clear hB3 hX3 hvn0 hnl
    go_wp2_with fail
    refine (lives5_any _ (HC.out _ hA3)).mono ?_
    rintro e wl ⟨rfl, hbl⟩
    have hAl := hA3.trans (hbl.mono hA3.size)
    clear hbl hA3
    go_wp2
    go_ret
    exact ⟨rfl, hAl⟩

  have hns : needsS b x.load = needS b x.load := by rw [needsS, if_pos hw0]
  rw [hns] at HVN hnl hnm hvn0 ⊢
  have HW0 := Lib.hid hw0
  obtain ⟨hok, hl⟩ := both_ok hw0
  rw [hw0]
  have hlen := needS_len b x.load
  have hmo := hok.most
  have HLEN := Lib.hid hlen
  have hn24 : (needS b x.load).length ≤ 24 := by omega
  have HNL : Hid (∀ i (h : i < (needS b x.load).length), ∃ b' o', an = some ⟨b', o', none⟩ ∧ b' < w3.heap.size ∧ ∀ V, Below w3.heap.size w3 V → V.cell? ⟨b', o' + i, none⟩ = some (.int .i64 (needS b x.load)[i])) := Lib.hid (fun i hi => by
    obtain ⟨b', o', h1, h2, -⟩ := hnl i hi
    obtain ⟨-, h3⟩ := vis_cell.1 h2
    refine ⟨b', o', h1, cell_lt h3, fun V hV => ?_⟩
    have := ext_of_below hV _ _ h3
    simpa using this)
  clear hw0 hnl hlen hvn0 hns
  go_wp2_with fail
  have HOK := Lib.hid hok
  have HL := Lib.hid hl
  clear hok hl
  go_loopw [7] (fun i wr => ∃ k : Nat, k ≤ (needS b x.load).length ∧ i = .int .i64 k ∧ Below w3.heap.size w3 wr) (fun i _ => (needS b x.load).length - (intOf i).toNat)
  case atStart => exact ⟨0, Nat.zero_le _, rfl, Below.refl _ _⟩
  case round =>
    obtain ⟨k, hk, rfl, hb⟩ := hrel
    obtain ⟨w4, hw4⟩ : ∃ w4, w4 = wr := ⟨wr, rfl⟩
    subst hw4
    have hBr := hB3.below hb hB3.lt
    have hXr := hX3.below hb hX3.lt
    have hAr := hA3.trans (hb.mono hA3.size)
    by_cases hlt : k < (needS b x.load).length
    · have i1 : (0 : Int) ≤ (k : Int) := Int.natCast_nonneg _
      have i2 : (k : Int) < ((needS b x.load).length : Int) := by omega
      go_wp2_with fail
      go_loopw [8, 9] (fun v i w5 => ∃ (j : Nat) (us : List Sp), j ≤ (needS b x.load).length ∧ i = .int .i64 j ∧ Hid (us = (thinL b x.load).take j) ∧ w5.ownsRow w4.heap.size 29 2 v us.length (us.flatMap spCells) ∧ Below w4.heap.size w4 w5) (fun _ i _ => (needS b x.load).length - (intOf i).toNat)
      case atStart => exact ⟨0, [], Nat.zero_le _, rfl, rfl, World.ownsRow_nil _ _ _ _, Below.refl _ _⟩
      case round =>
        obtain ⟨j, us, hj, rfl, hus, hown, hb2⟩ := hrel
        have hA5 := hAr.trans (hb2.mono hAr.size)
        have hW5 := hb.trans (hb2.mono hb.size)
        by_cases hjl : j < (needS b x.load).length
        · obtain ⟨nb, no, rfl, hnb, hnc⟩ := HNL.out j hjl
          have nc := hnc _ hW5
          have j1 : (0 : Int) ≤ (j : Int) := Int.natCast_nonneg _
          have j2 : (j : Int) < ((needS b x.load).length : Int) := by omega
          have hul : us.length = j := by rw [hus.out, List.length_take, thinL_len]; omega
          have hjT : j < (thinL b x.load).length := by rw [thinL_len]; exact hjl
          have hnx : us ++ [⟨max (needS b x.load)[j] 1, max (needS b x.load)[j] 1⟩] = (thinL b x.load).take (j + 1) := by rw [hus.out, List.take_succ_eq_append_getElem hjT, thinL_at hjT hjl]
          have hbd := needS_bd HOK.out HL.out _ (List.getElem_mem hjl)
          have HNX := Lib.hid hnx
          have HUL := Lib.hid hul
          have mm := max_if5 (needS b x.load)[j] 1
          generalize (needS b x.load)[j] = q at *
          have hwb : ∀ g, u8.ownBlock = some g → w4.heap.size ≤ g := fun g hg => (hown.lt g hg).1
          have hex := fun V => exact_any (max q 1) V
          obtain ⟨M, hM⟩ : ∃ M, max q 1 = M := ⟨_, rfl⟩
          rw [hM] at mm hex HNX
          have hown0 := hown
          clear hus hul hnx hown hM hnc
          go_wp2_with fail
          refine (hex _).mono ?_
          rintro e w6 ⟨rfl, hb6⟩
          have hown6 := (own_below hown0 hb6 (own_lt hown0)).alloc (.cells #[.int .i64 M, .int .i64 M] 29)
          have hb7 := (hb2.trans (hb6.mono hb2.size)).alloc (Nat.le_trans hb2.size hb6.size) (.cells #[.int .i64 M, .int .i64 M] 29)
          have hnews : ∀ j u, [Value.int .i64 M, .int .i64 M][j]? = some u → (w6.alloc (.cells #[.int .i64 M, .int .i64 M] 29)).cell? ((⟨w6.heap.size, 0, none⟩ : Addr).add j) = some u := World.news_of_block (w := w6.alloc (.cells #[.int .i64 M, .int .i64 M] 29)) (Blk.new w6 #[.int .i64 M, .int .i64 M] 29)
          have hs6 := Nat.le_trans hb2.size hb6.size
          have hll := HUL.out
          obtain ⟨i0, hi, hzz⟩ := Option.map_eq_some_iff.1 info_span
          simp only [Prod.mk.injEq] at hzz
          obtain ⟨hz0, hz1, hz2⟩ := hzz
          clear hown0 hb2 hb6 hex nc
          go_wp2_with (at_builtin; refine wpList_append_lies _ rfl _ _ 25 rfl w4.heap.size 29 i0 _ 2 16 Tryd.underlying25 hi hz0 hz1 hz2 rfl (by omega) _ us.length _ rfl hown6 ⟨w6.heap.size, 0, none⟩ 1 1 [.int .i64 M, .int .i64 M] rfl rfl hnews (by simp [Value.oneCell']) (by omega) (by unfold maxLen; omega) (by omega) (by rw [World.size_alloc]; omega) _ rfl ?_; intro g8 k8 w8 hown8 hgrow8 hat8 hlt8)
          have hb8 : Below w4.heap.size w4 w8 := hb7.grown hgrow8 (by rw [World.size_alloc]; omega) (fun k e => hwb k e)
          have hownF : w8.ownsRow w4.heap.size 29 2 (.slice (some ⟨g8, 0, none⟩) (j + 1) k8) (us ++ [(⟨M, M⟩ : Sp)]).length ((us ++ [(⟨M, M⟩ : Sp)]).flatMap spCells) := by rw [← hll]; simpa [spCells] using hown8
          have HF := Lib.hid hownF
          have HF2 := Lib.hid hb8
          clear hown8 hgrow8 hat8 hlt8 hown6 hb7 hnews hi hz0 hz1 hz2 hll hb8 hownF hA5 hW5
          go_wp2
          go_roundw
          case rel => exact ⟨j + 1, us ++ [⟨M, M⟩], by omega, by go_num, HNX, HF.out, HF2.out⟩
          case measure => simp [intOf]; omega
        · obtain rfl : j = (needS b x.load).length := by omega
          obtain ⟨g, cp, rfl, hg1, hg2, hg3, hsp⟩ := spBlk_of_own (n := 0) hown (by rw [hus.out, List.length_take, thinL_len]; omega)
          have hfull : us = thinL b x.load := by rw [hus.out]; exact List.take_of_length_le (by rw [thinL_len]; omega)
          have hul : us.length = (needS b x.load).length := by rw [hfull, thinL_len]
          have hOT : ∀ y ∈ us, OkT y := by rw [hfull]; exact thinL_ok HOK.out HL.out
          have hub : us.length = b.rings.length := by rw [hul]; exact HLEN.out
          have hw1 := wallS_of HW0.out hub hOT
          have hrd := hsp.reads hg2 hg3 (by omega) (fun y hy => okT_I (hOT y hy))
          have hkr : k < b.rings.length := by omega
          have hku : k < us.length := by omega
          have huk : us[k] = ⟨max (needS b x.load)[k] 1, max (needS b x.load)[k] 1⟩ := by
            have : us[k] = (thinL b x.load)[k]'(by rw [thinL_len]; exact hlt) := by simp only [hfull]
            rw [this, thinL_at _ hlt]
          have hfo := needS_is HOK.out HL.out hlt hkr
          have hokr := HOK.out.rings k hkr
          have hsl := strS_len hw1
          have hsk := strS_at (k := k) hw1 (by rw [hsl]; exact hkr) hkr hku
          have hB5 := hBr.below hb2 hBr.lt
          have hX5 := hXr.below hb2 hXr.lt
          have HFO := Lib.hid hfo
          have HUS := Lib.hid hOT
          have HW1 := Lib.hid hw1
          have HUB := Lib.hid hub
          have HUL := Lib.hid hul
          have HSP := Lib.hid hsp
          obtain ⟨nb, no, rfl, hnb, hnc⟩ := HNL.out k hlt
          have HNC := Lib.hid hnc
          clear hus hown hfull hul hOT hfo hsp hnc hub
          rw [huk] at hsk
          have HSK := Lib.hid hsk
          have hqb := needS_bd HOK.out HL.out _ (List.getElem_mem hlt)
          clear hsk huk
          generalize (needS b x.load)[k] = q at *
          have c0 := hB5.cell 0 _ rfl
          have c1 := hB5.cell 1 _ rfl
          have c2 := hB5.cell 2 _ rfl
          have x1 := hX5.cell 1 _ rfl
          have x2 := hX5.cell 2 _ rfl
          have x3 := hX5.cell 3 _ rfl
          have x4 := hX5.cell 4 _ rfl
          go_wp2_with fail
          refine (stressP_any _ _ b us x.load _ (HR.out _ hA5) hrd (HC.out _ hA5)).mono ?_
          rintro e w6 ⟨vs, rfl, hvs, hb6⟩
          obtain ⟨as', ks, rfl, -, ⟨-, hsm⟩, hsl2⟩ := hvs
          have hks : k < (strS b us x.load).length := by rw [hsl]; exact hkr
          obtain ⟨sb, so, rfl, hsx⟩ := hsl2 k hks
          have hs1 := (vis_cell.1 hsx.2.1).2
          simp only at hs1
          rw [HSK.out] at hs1
          have hA6 := hA5.trans (hb6.mono hA5.size)
          have hB6 := hB5.below hb6 hB5.lt
          have hX6 := hX5.below hb6 hX5.lt
          have hW6 := hW5.trans (hb6.mono hW5.size)
          have hG6 := HSP.out.below hb6 HSP.out.lt
          have hb26 := hb2.trans (hb6.mono hb2.size)
          have hin := strR_in (t := ⟨max q 1, max q 1⟩) hokr ⟨by simp only; omega, by simp only; omega, by simp only; omega⟩ HL.out
          have nc := HNC.out _ hW6
          have c0' := hB6.cell 0 _ rfl
          have c1' := hB6.cell 1 _ rfl
          have c2' := hB6.cell 2 _ rfl
          have hqs : ((strS b us x.load).length : Int) = ((needS b x.load).length : Int) := by rw [hsl, HLEN.out]
          have hqn : (((strS b us x.load).length : Int) != ((needS b x.load).length : Int)) = false := by rw [bne_eq_false_iff_eq]; exact hqs
          have i3 : (k : Int) < ((strS b us x.load).length : Int) := by omega
          have hrw := HW1.out
          rw [hrw]
          obtain ⟨hin1, hin2, hin3⟩ := hin
          have HIF : Hid (1 ≤ q → (strR b.rings[k] ⟨max q 1, max q 1⟩ x.load).hi ≤ rootF (b.tough / b.flaw)) := Lib.hid (fun h1 => by
            have := (HFO.out.iff q h1 (by omega)).2 ⟨h1, Int.le_refl _⟩
            unfold needP at this
            rw [decide_eq_true_iff] at this
            rw [show max q 1 = q by omega]
            exact this)
          clear c0 c1 c2 x1 x2 x3 x4 hA5 hB5 hX5 hW5 hb6 hb2 hsx hsl2 hrd hqs hrw hin1
          have hg2' := hg2
          clear hg2
          generalize (strR b.rings[k] ⟨max q 1, max q 1⟩ x.load).hi = H at *
          have HSV : Hid (∀ V, Below w6.heap.size w6 V → (fun w' : World => w'.cell? ⟨nb, no + k, none⟩ = some (.int .i64 q) ∧ w'.cell? ⟨w.heap.size, 0, none⟩ = some (.slice a b.rings.length cap) ∧ w'.cell? ⟨w.heap.size, 1, none⟩ = some (.int .i64 b.flaw) ∧ w'.cell? ⟨w.heap.size, 2, none⟩ = some (.int .i64 b.tough) ∧ w'.cell? ⟨sb, so + k * 2 + 1, none⟩ = some (.int .i64 H)) V) := Lib.hid (fun V hV => ⟨ext_of_below hV _ _ nc, ext_of_below hV _ _ c0', ext_of_below hV _ _ c1', ext_of_below hV _ _ c2', ext_of_below hV _ _ hs1⟩)
          have D0 : Below w6.heap.size w6 w6.drew := (Below.refl _ _).drew
          clear nc c0' c1' c2' hs1
          go_wp2_with fail
          clear hqn
          by_cases hq1 : 0 < q
          · refine wp_region_till (fun w' : World => w'.cell? ⟨nb, no + k, none⟩ = some (.int .i64 q) ∧ w'.cell? ⟨w.heap.size, 0, none⟩ = some (.slice a b.rings.length cap) ∧ w'.cell? ⟨w.heap.size, 1, none⟩ = some (.int .i64 b.flaw) ∧ w'.cell? ⟨w.heap.size, 2, none⟩ = some (.int .i64 b.tough) ∧ w'.cell? ⟨sb, so + k * 2 + 1, none⟩ = some (.int .i64 H)) 99 (by kernel_rfl) (HSV.out _ D0) (fun hHeld => ?_)
            refine Till.take 0 (some 72) (v := ?_) rfl rfl (by kernel_rfl) (by kernel_rfl) (by kernel_rfl) (by kernel_rfl) (fun _ _ _ h => h) (Or.inl ⟨by rfl, ?_⟩) (by assumption) ?_
            rotate_left
            · (intro w hSw; (try dsimp only at hSw); go_simp; try with_reducible rfl)
            try simp only [Act.put, List.setIfInBounds_toArray, List.set_cons_zero, List.set_cons_succ]
            refine Till.take 1 (some 73) (v := ?_) rfl rfl (by kernel_rfl) (by kernel_rfl) (by kernel_rfl) (by kernel_rfl) (fun _ _ _ h => h) (Or.inl ⟨by rfl, ?_⟩) (by assumption) ?_
            rotate_left
            · (intro w hSw; (try dsimp only at hSw); go_simp; try with_reducible rfl)
            try simp only [Act.put, List.setIfInBounds_toArray, List.set_cons_zero, List.set_cons_succ]
            refine Till.take 2 (some 74) (v := ?_) rfl rfl (by kernel_rfl) (by kernel_rfl) (by kernel_rfl) (by kernel_rfl) (fun _ _ _ h => h) (Or.inl ⟨by rfl, ?_⟩) (by assumption) ?_
            rotate_left
            · (intro w hSw; (try dsimp only at hSw); go_simp; try with_reducible rfl)
            try simp only [Act.put, List.setIfInBounds_toArray, List.set_cons_zero, List.set_cons_succ]
            refine Till.take 3 (some 75) (v := ?_) rfl rfl (by kernel_rfl) (by kernel_rfl) (by kernel_rfl) (by kernel_rfl) (fun _ _ _ h => h) (Or.inl ⟨by rfl, ?_⟩) (by assumption) ?_
            rotate_left
            · (intro w hSw; (try dsimp only at hSw); go_simp; try with_reducible rfl)
            try simp only [Act.put, List.setIfInBounds_toArray, List.set_cons_zero, List.set_cons_succ]
            refine Till.take 4 (some 76) (v := ?_) rfl rfl (by kernel_rfl) (by kernel_rfl) (by kernel_rfl) (by kernel_rfl) (fun _ _ _ h => h) (Or.inl ⟨by rfl, ?_⟩) (by assumption) ?_
            rotate_left
            · (intro w hSw; (try dsimp only at hSw); go_simp; try with_reducible rfl)
            try simp only [Act.put, List.setIfInBounds_toArray, List.set_cons_zero, List.set_cons_succ]
            refine Till.take 5 (some 77) (v := ?_) rfl rfl (by kernel_rfl) (by kernel_rfl) (by kernel_rfl) (by kernel_rfl) (fun _ _ _ h => h) (Or.inl ⟨by rfl, ?_⟩) (by assumption) ?_
            rotate_left
            · (intro w hSw; (try dsimp only at hSw); go_simp; try with_reducible rfl)
            try simp only [Act.put, List.setIfInBounds_toArray, List.set_cons_zero, List.set_cons_succ]
            refine Till.take 6 (some 78) (v := ?_) rfl rfl (by kernel_rfl) (by kernel_rfl) (by kernel_rfl) (by kernel_rfl) (fun _ _ _ h => h) (Or.inl ⟨by rfl, ?_⟩) (by assumption) ?_
            rotate_left
            · (intro w hSw; (try dsimp only at hSw); go_simp; try with_reducible rfl)
            try simp only [Act.put, List.setIfInBounds_toArray, List.set_cons_zero, List.set_cons_succ]
            refine Till.take 7 (some 79) (v := ?_) rfl rfl (by kernel_rfl) (by kernel_rfl) (by kernel_rfl) (by kernel_rfl) (fun _ _ _ h => h) (Or.inl ⟨by rfl, ?_⟩) (by assumption) ?_
            rotate_left
            · (intro w hSw; (try dsimp only at hSw); go_simp; try with_reducible rfl)
            try simp only [Act.put, List.setIfInBounds_toArray, List.set_cons_zero, List.set_cons_succ]
            refine Till.take 8 (some 80) (v := ?_) rfl rfl (by kernel_rfl) (by kernel_rfl) (by kernel_rfl) (by kernel_rfl) (fun _ _ _ h => h) (Or.inl ⟨by rfl, ?_⟩) (by assumption) ?_
            rotate_left
            · (intro w hSw; (try dsimp only at hSw); go_simp; try with_reducible rfl)
            try simp only [Act.put, List.setIfInBounds_toArray, List.set_cons_zero, List.set_cons_succ]
            refine Till.take 9 (some 81) (v := ?_) rfl rfl (by kernel_rfl) (by kernel_rfl) (by kernel_rfl) (by kernel_rfl) (fun _ _ _ h => h) (Or.inl ⟨by rfl, ?_⟩) (by assumption) ?_
            rotate_left
            · (intro w hSw; (try dsimp only at hSw); go_simp; try with_reducible rfl)
            try simp only [Act.put, List.setIfInBounds_toArray, List.set_cons_zero, List.set_cons_succ]
            refine Till.take 10 (some 82) (v := ?_) rfl rfl (by kernel_rfl) (by kernel_rfl) (by kernel_rfl) (by kernel_rfl) (fun _ _ _ h => h) (Or.inl ⟨by rfl, ?_⟩) (by assumption) ?_
            rotate_left
            · (intro w hSw; (try dsimp only at hSw); go_simp; try with_reducible rfl)
            try simp only [Act.put, List.setIfInBounds_toArray, List.set_cons_zero, List.set_cons_succ]
            refine Till.take 11 (some 83) (v := ?_) rfl rfl (by kernel_rfl) (by kernel_rfl) (by kernel_rfl) (by kernel_rfl) (fun _ _ _ h => h) (Or.inl ⟨by rfl, ?_⟩) (by assumption) ?_
            rotate_left
            · (intro w hSw; (try dsimp only at hSw); go_simp; try with_reducible rfl)
            try simp only [Act.put, List.setIfInBounds_toArray, List.set_cons_zero, List.set_cons_succ]
            refine Till.one 12 rfl (by kernel_rfl) (fun K hK => ?_)
            go_simp
            go_at_call 50
            refine (bearsL_any _ b H _ (HR.out _ (hA6.trans (D0.mono hA6.size))) HOK.out (by omega)).mono ?_
            rintro e V ⟨r, rfl, hr, hbb⟩
            obtain rfl : r = true := hr.2 (HIF.out (by omega))
            have D1 := D0.trans (hbb.mono D0.size)
            have hh := HSV.out _ D1
            refine hK.out _ _ (fun _ => hh) (fun hHeld2 => ?_)
            clear hK K hbb hr
            try simp only [Act.put, List.setIfInBounds_toArray, List.set_cons_zero, List.set_cons_succ]
            refine Till.take 13 (some 85) (v := ?_) rfl rfl (by kernel_rfl) (by kernel_rfl) (by kernel_rfl) (by kernel_rfl) (fun _ _ _ h => h) (Or.inl ⟨by rfl, ?_⟩) (by assumption) ?_
            rotate_left
            · (intro w hSw; (try dsimp only at hSw); go_simp; try with_reducible rfl)
            try simp only [Act.put, List.setIfInBounds_toArray, List.set_cons_zero, List.set_cons_succ]
            refine Till.take 14 (some 86) (v := ?_) rfl rfl (by kernel_rfl) (by kernel_rfl) (by kernel_rfl) (by kernel_rfl) (fun _ _ _ h => h) (Or.inl ⟨by rfl, ?_⟩) (by assumption) ?_
            rotate_left
            · (intro w hSw; (try dsimp only at hSw); go_simp; try with_reducible rfl)
            try simp only [Act.put, List.setIfInBounds_toArray, List.set_cons_zero, List.set_cons_succ]
            refine Till.done (by kernel_rfl) ?_ _
            obtain ⟨nc, c0, c1, c2, -⟩ := HSV.out _ D1
            have hA7 := hA6.trans (D1.mono hA6.size)
            have hX7 := hX6.below D1 hX6.lt
            have hW7 := hW6.trans (D1.mono hW6.size)
            have hG7 := hG6.below D1 hG6.lt
            have hb7 := hb26.trans (D1.mono hb26.size)
            have hB7 := hB6.below D1 hB6.lt
            clear hh hHeld hHeld2 HSV D0 D1 hA6 hX6 hW6 hG6 hb26 hB6
            by_cases hq2 : q = 1
            · have hbN := hb.trans (hb7.mono hb.size)
              clear hA7 hX7 hW7 hG7 hb7 hB7 c0 c1 c2
              subst hq2
              go_wp2
              go_roundw
              case rel => exact ⟨k + 1, by omega, by go_num, hbN⟩
              case measure => simp [intOf]; omega
            · have HT9 : Hid (OkT ⟨q - 1, q - 1⟩) := Lib.hid ⟨by simp only; omega, by simp only; omega, by simp only; omega⟩
              have HNB : Hid (¬ (strR b.rings[k] ⟨q - 1, q - 1⟩ x.load).hi ≤ rootF (b.tough / b.flaw)) := Lib.hid (fun h => by
                have := (HFO.out.iff (q - 1) (by omega) (by omega)).1 (by unfold needP; rw [decide_eq_true_iff]; exact h)
                omega)
              have qw := wrap_id (q - 1) (by unfold I64; omega)
              have hq3 : ¬ q = 0 := by omega
              have nc := HNC.out _ hW7
              have hex := fun V => exact_any (q - 1) V
              go_wp2_with fail
              refine (hex _).mono ?_
              rintro e X7 ⟨rfl, hbb⟩
              clear hex nc
              have lg := hG7.lt
              have hG' := hG7.below hbb lg
              have z0 := hG'.cell0 (k := k) (by simpa using hku)
              have z1 := hG'.cell1 (k := k) (by simpa using hku)
              have f0 := hG'.frozen (k * 2)
              have f1 := hG'.frozen (k * 2 + 1)
              have lw4 := hb.size
              have hA' := hA7.trans (hbb.mono hA7.size)
              have hW' := hW7.trans (hbb.mono hW7.size)
              have hb' := hb7.trans (hbb.mono hb7.size)
              have hX' := hX7.below hbb hX7.lt
              have hB' := hB7.below hbb hB7.lt
              have HGN := Lib.hid (hG'.set (k := k) (by simpa using hku) ⟨q - 1, q - 1⟩)
              have HAN := Lib.hid ((hA'.setCell (p := ⟨g, k * 2, none⟩) (by simp only; omega) (.int .i64 (q - 1))).setCell (p := ⟨g, k * 2 + 1, none⟩) (by simp only; omega) (.int .i64 (q - 1)))
              have HWN := Lib.hid ((hW'.setCell (p := ⟨g, k * 2, none⟩) (by simp only; omega) (.int .i64 (q - 1))).setCell (p := ⟨g, k * 2 + 1, none⟩) (by simp only; omega) (.int .i64 (q - 1)))
              have HbN := Lib.hid ((hb'.setCell (p := ⟨g, k * 2, none⟩) (by simp only; omega) (.int .i64 (q - 1))).setCell (p := ⟨g, k * 2 + 1, none⟩) (by simp only; omega) (.int .i64 (q - 1)))
              have HXN := Lib.hid ((hX'.other ⟨g, k * 2, none⟩ (.int .i64 (q - 1)) (by simp only; omega)).other ⟨g, k * 2 + 1, none⟩ (.int .i64 (q - 1)) (by simp only; omega))
              have HBN := Lib.hid ((hB'.other ⟨g, k * 2, none⟩ (.int .i64 (q - 1)) (by simp only; omega)).other ⟨g, k * 2 + 1, none⟩ (.int .i64 (q - 1)) (by simp only; omega))
              have nc := HNC.out _ hW'
              have x1 := hX'.cell 1 _ rfl
              have x2 := hX'.cell 2 _ rfl
              have x3 := hX'.cell 3 _ rfl
              have x4 := hX'.cell 4 _ rfl
              have c0 := hB'.cell 0 _ rfl
              have c1 := hB'.cell 1 _ rfl
              have c2 := hB'.cell 2 _ rfl
              have n1 : ¬ w.heap.size = g := by omega
              have n2 : ¬ w.heap.size + 1 = g := by omega
              have n3 : ¬ nb = g := by omega
              have n4 : ¬ g = w.heap.size := by omega
              have n5 : ¬ g = w.heap.size + 1 := by omega
              have n6 : ¬ g = nb := by omega
              clear hG7 hA7 hW7 hb7 hX7 hB7 hG' hA' hW' hb' hX' hB' hbb
              go_wp2_with fail
              generalize (X7.setCell ⟨g, k * 2, none⟩ (.int .i64 (q - 1))).setCell ⟨g, k * 2 + 1, none⟩ (.int .i64 (q - 1)) = W8 at *
              have hG8 := HGN.out
              have hA8 := HAN.out
              have hW8 := HWN.out
              have hb8 := HbN.out
              have hX8 := HXN.out
              have hB8 := HBN.out
              clear HGN HAN HWN HbN HXN HBN nc x1 x2 x3 x4 c0 c1 c2 z0 z1 f0 f1 n1 n2 n3 n4 n5 n6
              have hlst : us.set k ⟨q - 1, q - 1⟩ = us.set k ⟨q - 1, q - 1⟩ := by simp only [List.set_set]
              rw [hlst] at hG8
              clear hlst
              have hl9 : (us.set k (⟨q - 1, q - 1⟩ : Sp)).length = us.length := List.length_set
              have hOT9 : ∀ y ∈ us.set k (⟨q - 1, q - 1⟩ : Sp), OkT y := fun y hy => by
                rcases List.mem_or_eq_of_mem_set hy with h | h
                · exact HUS.out y h
                · rw [h]; exact HT9.out
              have hw2 := wallS_of HW0.out (us := us.set k ⟨q - 1, q - 1⟩) (by rw [hl9]; exact HUB.out) hOT9
              have hrd9 := hG8.reads (cap := cp) (by rw [hl9]; exact hg2') hg3 (by rw [hl9, HUL.out]; omega) (fun y hy => okT_I (hOT9 y hy))
              rw [hl9] at hrd9
              have hsl9 := strS_len hw2
              have hsk9 := strS_at (k := k) hw2 (by rw [hsl9]; exact hkr) hkr (by rw [hl9]; exact hku)
              rw [List.getElem_set_self] at hsk9
              have hin9 := strR_in (t := ⟨q - 1, q - 1⟩) hokr HT9.out HL.out
              have HW2 := Lib.hid hw2
              have HSK9 := Lib.hid hsk9
              clear hw2 hsk9 hOT9
              refine (stressP_any _ _ b (us.set k ⟨q - 1, q - 1⟩) x.load _ (HR.out _ hA8) hrd9 (HC.out _ hA8)).mono ?_
              rintro e V1 ⟨vs2, rfl, hvs, hbb⟩
              obtain ⟨as2, ks2, rfl, -, ⟨-, hsm2⟩, hsl2⟩ := hvs
              have hks9 : k < (strS b (us.set k ⟨q - 1, q - 1⟩) x.load).length := by rw [hsl9]; exact hkr
              obtain ⟨sb2, so2, rfl, hsx⟩ := hsl2 k hks9
              have hs1 := (vis_cell.1 hsx.2.1).2
              simp only at hs1
              rw [HSK9.out] at hs1
              have hB1 := hB8.below hbb hB8.lt
              have hA1 := hA8.trans (hbb.mono hA8.size)
              have hb1 := hb8.trans (hbb.mono hb8.size)
              have c0 := hB1.cell 0 _ rfl
              have c1 := hB1.cell 1 _ rfl
              have c2 := hB1.cell 2 _ rfl
              have i3' : (k : Int) < ((strS b (us.set k ⟨q - 1, q - 1⟩) x.load).length : Int) := by rw [hsl9]; omega
              rw [HW2.out]
              obtain ⟨hin91, hin92, hin93⟩ := hin9
              clear hG8 hA8 hW8 hb8 hX8 hB8 hbb hsx hsl2 hrd9 hin91 hB1
              generalize (strR b.rings[k] ⟨q - 1, q - 1⟩ x.load).hi = H2 at *
              have HSV : Hid (∀ V, Below V1.heap.size V1 V → (fun w' : World => w'.cell? ⟨w.heap.size, 0, none⟩ = some (.slice a b.rings.length cap) ∧ w'.cell? ⟨w.heap.size, 1, none⟩ = some (.int .i64 b.flaw) ∧ w'.cell? ⟨w.heap.size, 2, none⟩ = some (.int .i64 b.tough) ∧ w'.cell? ⟨sb2, so2 + k * 2 + 1, none⟩ = some (.int .i64 H2)) V) := Lib.hid (fun V hV => ⟨ext_of_below hV _ _ c0, ext_of_below hV _ _ c1, ext_of_below hV _ _ c2, ext_of_below hV _ _ hs1⟩)
              have D0 : Below V1.heap.size V1 V1.drew := (Below.refl _ _).drew
              clear c0 c1 c2 hs1
              go_wp2_with fail
              refine wp_region_till (fun w' : World => w'.cell? ⟨w.heap.size, 0, none⟩ = some (.slice a b.rings.length cap) ∧ w'.cell? ⟨w.heap.size, 1, none⟩ = some (.int .i64 b.flaw) ∧ w'.cell? ⟨w.heap.size, 2, none⟩ = some (.int .i64 b.tough) ∧ w'.cell? ⟨sb2, so2 + k * 2 + 1, none⟩ = some (.int .i64 H2)) 99 (by kernel_rfl) (HSV.out _ D0) (fun hHeld => ?_)
              refine Till.take 0 (some 118) (v := ?_) rfl rfl (by kernel_rfl) (by kernel_rfl) (by kernel_rfl) (by kernel_rfl) (fun _ _ _ h => h) (Or.inl ⟨by rfl, ?_⟩) (by assumption) ?_
              rotate_left
              · (intro w hSw; (try dsimp only at hSw); go_simp; try with_reducible rfl)
              try simp only [Act.put, List.setIfInBounds_toArray, List.set_cons_zero, List.set_cons_succ]
              refine Till.take 1 (some 119) (v := ?_) rfl rfl (by kernel_rfl) (by kernel_rfl) (by kernel_rfl) (by kernel_rfl) (fun _ _ _ h => h) (Or.inl ⟨by rfl, ?_⟩) (by assumption) ?_
              rotate_left
              · (intro w hSw; (try dsimp only at hSw); go_simp; try with_reducible rfl)
              try simp only [Act.put, List.setIfInBounds_toArray, List.set_cons_zero, List.set_cons_succ]
              refine Till.take 2 (some 120) (v := ?_) rfl rfl (by kernel_rfl) (by kernel_rfl) (by kernel_rfl) (by kernel_rfl) (fun _ _ _ h => h) (Or.inl ⟨by rfl, ?_⟩) (by assumption) ?_
              rotate_left
              · (intro w hSw; (try dsimp only at hSw); go_simp; try with_reducible rfl)
              try simp only [Act.put, List.setIfInBounds_toArray, List.set_cons_zero, List.set_cons_succ]
              refine Till.take 3 (some 121) (v := ?_) rfl rfl (by kernel_rfl) (by kernel_rfl) (by kernel_rfl) (by kernel_rfl) (fun _ _ _ h => h) (Or.inl ⟨by rfl, ?_⟩) (by assumption) ?_
              rotate_left
              · (intro w hSw; (try dsimp only at hSw); go_simp; try with_reducible rfl)
              try simp only [Act.put, List.setIfInBounds_toArray, List.set_cons_zero, List.set_cons_succ]
              refine Till.take 4 (some 122) (v := ?_) rfl rfl (by kernel_rfl) (by kernel_rfl) (by kernel_rfl) (by kernel_rfl) (fun _ _ _ h => h) (Or.inl ⟨by rfl, ?_⟩) (by assumption) ?_
              rotate_left
              · (intro w hSw; (try dsimp only at hSw); go_simp; try with_reducible rfl)
              try simp only [Act.put, List.setIfInBounds_toArray, List.set_cons_zero, List.set_cons_succ]
              refine Till.take 5 (some 123) (v := ?_) rfl rfl (by kernel_rfl) (by kernel_rfl) (by kernel_rfl) (by kernel_rfl) (fun _ _ _ h => h) (Or.inl ⟨by rfl, ?_⟩) (by assumption) ?_
              rotate_left
              · (intro w hSw; (try dsimp only at hSw); go_simp; try with_reducible rfl)
              try simp only [Act.put, List.setIfInBounds_toArray, List.set_cons_zero, List.set_cons_succ]
              refine Till.take 6 (some 124) (v := ?_) rfl rfl (by kernel_rfl) (by kernel_rfl) (by kernel_rfl) (by kernel_rfl) (fun _ _ _ h => h) (Or.inl ⟨by rfl, ?_⟩) (by assumption) ?_
              rotate_left
              · (intro w hSw; (try dsimp only at hSw); go_simp; try with_reducible rfl)
              try simp only [Act.put, List.setIfInBounds_toArray, List.set_cons_zero, List.set_cons_succ]
              refine Till.take 7 (some 125) (v := ?_) rfl rfl (by kernel_rfl) (by kernel_rfl) (by kernel_rfl) (by kernel_rfl) (fun _ _ _ h => h) (Or.inl ⟨by rfl, ?_⟩) (by assumption) ?_
              rotate_left
              · (intro w hSw; (try dsimp only at hSw); go_simp; try with_reducible rfl)
              try simp only [Act.put, List.setIfInBounds_toArray, List.set_cons_zero, List.set_cons_succ]
              refine Till.take 8 (some 126) (v := ?_) rfl rfl (by kernel_rfl) (by kernel_rfl) (by kernel_rfl) (by kernel_rfl) (fun _ _ _ h => h) (Or.inl ⟨by rfl, ?_⟩) (by assumption) ?_
              rotate_left
              · (intro w hSw; (try dsimp only at hSw); go_simp; try with_reducible rfl)
              try simp only [Act.put, List.setIfInBounds_toArray, List.set_cons_zero, List.set_cons_succ]
              refine Till.one 9 rfl (by kernel_rfl) (fun K hK => ?_)
              go_simp
              go_at_call 50
              refine (bearsL_any _ b H2 _ (HR.out _ (hA1.trans (D0.mono hA1.size))) HOK.out (by omega)).mono ?_
              rintro e V2 ⟨r, rfl, hr, hbb⟩
              obtain rfl : r = false := by cases r with | false => rfl | true => exact absurd (hr.1 rfl) (by have := HNB.out; omega)
              have D1 := D0.trans (hbb.mono D0.size)
              have hh := HSV.out _ D1
              refine hK.out _ _ (fun _ => hh) (fun hHeld2 => ?_)
              clear hK K hbb hr
              try simp only [Act.put, List.setIfInBounds_toArray, List.set_cons_zero, List.set_cons_succ]
              refine Till.take 10 (some 128) (v := ?_) rfl rfl (by kernel_rfl) (by kernel_rfl) (by kernel_rfl) (by kernel_rfl) (fun _ _ _ h => h) (Or.inl ⟨by rfl, ?_⟩) (by assumption) ?_
              rotate_left
              · (intro w hSw; (try dsimp only at hSw); go_simp; try with_reducible rfl)
              try simp only [Act.put, List.setIfInBounds_toArray, List.set_cons_zero, List.set_cons_succ]
              refine Till.done (by kernel_rfl) ?_ _
              have hbN := hb.trans ((hb1.trans (D1.mono hb1.size)).mono hb.size)
              clear hh hHeld hHeld2 HSV D0 D1 hA1 hb1
              go_wp2
              go_roundw
              case rel => exact ⟨k + 1, by omega, by go_num, hbN⟩
              case measure => simp [intOf]; omega
          · obtain rfl : q = 0 := by omega
            have HT9 : Hid (OkT ⟨2000, 2000⟩) := Lib.hid ⟨by simp only; omega, by simp only; omega, by simp only; omega⟩
            have HNB : Hid (¬ (strR b.rings[k] ⟨2000, 2000⟩ x.load).hi ≤ rootF (b.tough / b.flaw)) := Lib.hid (fun h => by
              have := (HFO.out.iff 2000 (by omega) (by omega)).1 (by unfold needP; rw [decide_eq_true_iff]; exact h)
              omega)
            refine wp_region_till (fun w' : World => w'.cell? ⟨nb, no + k, none⟩ = some (.int .i64 0) ∧ w'.cell? ⟨w.heap.size, 0, none⟩ = some (.slice a b.rings.length cap) ∧ w'.cell? ⟨w.heap.size, 1, none⟩ = some (.int .i64 b.flaw) ∧ w'.cell? ⟨w.heap.size, 2, none⟩ = some (.int .i64 b.tough) ∧ w'.cell? ⟨sb, so + k * 2 + 1, none⟩ = some (.int .i64 H)) 99 (by kernel_rfl) (HSV.out _ D0) (fun hHeld => ?_)
            refine Till.take 0 (some 72) (v := ?_) rfl rfl (by kernel_rfl) (by kernel_rfl) (by kernel_rfl) (by kernel_rfl) (fun _ _ _ h => h) (Or.inl ⟨by rfl, ?_⟩) (by assumption) ?_
            rotate_left
            · (intro w hSw; (try dsimp only at hSw); go_simp; try with_reducible rfl)
            try simp only [Act.put, List.setIfInBounds_toArray, List.set_cons_zero, List.set_cons_succ]
            refine Till.take 1 (some 73) (v := ?_) rfl rfl (by kernel_rfl) (by kernel_rfl) (by kernel_rfl) (by kernel_rfl) (fun _ _ _ h => h) (Or.inl ⟨by rfl, ?_⟩) (by assumption) ?_
            rotate_left
            · (intro w hSw; (try dsimp only at hSw); go_simp; try with_reducible rfl)
            try simp only [Act.put, List.setIfInBounds_toArray, List.set_cons_zero, List.set_cons_succ]
            refine Till.take 2 (some 74) (v := ?_) rfl rfl (by kernel_rfl) (by kernel_rfl) (by kernel_rfl) (by kernel_rfl) (fun _ _ _ h => h) (Or.inl ⟨by rfl, ?_⟩) (by assumption) ?_
            rotate_left
            · (intro w hSw; (try dsimp only at hSw); go_simp; try with_reducible rfl)
            try simp only [Act.put, List.setIfInBounds_toArray, List.set_cons_zero, List.set_cons_succ]
            refine Till.take 3 (some 75) (v := ?_) rfl rfl (by kernel_rfl) (by kernel_rfl) (by kernel_rfl) (by kernel_rfl) (fun _ _ _ h => h) (Or.inl ⟨by rfl, ?_⟩) (by assumption) ?_
            rotate_left
            · (intro w hSw; (try dsimp only at hSw); go_simp; try with_reducible rfl)
            try simp only [Act.put, List.setIfInBounds_toArray, List.set_cons_zero, List.set_cons_succ]
            refine Till.take 4 (some 76) (v := ?_) rfl rfl (by kernel_rfl) (by kernel_rfl) (by kernel_rfl) (by kernel_rfl) (fun _ _ _ h => h) (Or.inl ⟨by rfl, ?_⟩) (by assumption) ?_
            rotate_left
            · (intro w hSw; (try dsimp only at hSw); go_simp; try with_reducible rfl)
            try simp only [Act.put, List.setIfInBounds_toArray, List.set_cons_zero, List.set_cons_succ]
            refine Till.take 5 (some 77) (v := ?_) rfl rfl (by kernel_rfl) (by kernel_rfl) (by kernel_rfl) (by kernel_rfl) (fun _ _ _ h => h) (Or.inl ⟨by rfl, ?_⟩) (by assumption) ?_
            rotate_left
            · (intro w hSw; (try dsimp only at hSw); go_simp; try with_reducible rfl)
            try simp only [Act.put, List.setIfInBounds_toArray, List.set_cons_zero, List.set_cons_succ]
            refine Till.take 6 (some 78) (v := undef) rfl rfl (by kernel_rfl) (by kernel_rfl) (by kernel_rfl) (by kernel_rfl) (fun _ _ _ h => h) (Or.inr ⟨by rfl, rfl⟩) (by assumption) ?_
            try simp only [Act.put, List.setIfInBounds_toArray, List.set_cons_zero, List.set_cons_succ]
            refine Till.take 7 (some 79) (v := undef) rfl rfl (by kernel_rfl) (by kernel_rfl) (by kernel_rfl) (by kernel_rfl) (fun _ _ _ h => h) (Or.inr ⟨by rfl, rfl⟩) (by assumption) ?_
            try simp only [Act.put, List.setIfInBounds_toArray, List.set_cons_zero, List.set_cons_succ]
            refine Till.take 8 (some 80) (v := undef) rfl rfl (by kernel_rfl) (by kernel_rfl) (by kernel_rfl) (by kernel_rfl) (fun _ _ _ h => h) (Or.inr ⟨by rfl, rfl⟩) (by assumption) ?_
            try simp only [Act.put, List.setIfInBounds_toArray, List.set_cons_zero, List.set_cons_succ]
            refine Till.take 9 (some 81) (v := undef) rfl rfl (by kernel_rfl) (by kernel_rfl) (by kernel_rfl) (by kernel_rfl) (fun _ _ _ h => h) (Or.inr ⟨by rfl, rfl⟩) (by assumption) ?_
            try simp only [Act.put, List.setIfInBounds_toArray, List.set_cons_zero, List.set_cons_succ]
            refine Till.take 10 (some 82) (v := undef) rfl rfl (by kernel_rfl) (by kernel_rfl) (by kernel_rfl) (by kernel_rfl) (fun _ _ _ h => h) (Or.inr ⟨by rfl, rfl⟩) (by assumption) ?_
            try simp only [Act.put, List.setIfInBounds_toArray, List.set_cons_zero, List.set_cons_succ]
            refine Till.take 11 (some 83) (v := undef) rfl rfl (by kernel_rfl) (by kernel_rfl) (by kernel_rfl) (by kernel_rfl) (fun _ _ _ h => h) (Or.inr ⟨by rfl, rfl⟩) (by assumption) ?_
            try simp only [Act.put, List.setIfInBounds_toArray, List.set_cons_zero, List.set_cons_succ]
            refine Till.take 12 (some 84) (v := undef) rfl rfl (by kernel_rfl) (by kernel_rfl) (by kernel_rfl) (by kernel_rfl) (fun _ _ _ h => h) (Or.inr ⟨by rfl, rfl⟩) (by assumption) ?_
            try simp only [Act.put, List.setIfInBounds_toArray, List.set_cons_zero, List.set_cons_succ]
            refine Till.take 13 (some 85) (v := undef) rfl rfl (by kernel_rfl) (by kernel_rfl) (by kernel_rfl) (by kernel_rfl) (fun _ _ _ h => h) (Or.inr ⟨by rfl, rfl⟩) (by assumption) ?_
            try simp only [Act.put, List.setIfInBounds_toArray, List.set_cons_zero, List.set_cons_succ]
            refine Till.take 14 (some 86) (v := ?_) rfl rfl (by kernel_rfl) (by kernel_rfl) (by kernel_rfl) (by kernel_rfl) (fun _ _ _ h => h) (Or.inl ⟨by rfl, ?_⟩) (by assumption) ?_
            rotate_left
            · (intro w hSw; (try dsimp only at hSw); go_simp; try with_reducible rfl)
            try simp only [Act.put, List.setIfInBounds_toArray, List.set_cons_zero, List.set_cons_succ]
            refine Till.done (by kernel_rfl) ?_ _
            have hA7 := hA6.trans (D0.mono hA6.size)
            have hX7 := hX6.below D0 hX6.lt
            have hW7 := hW6.trans (D0.mono hW6.size)
            have hG7 := hG6.below D0 hG6.lt
            have hb7 := hb26.trans (D0.mono hb26.size)
            have hB7 := hB6.below D0 hB6.lt
            clear hHeld HSV D0 hA6 hX6 hW6 hG6 hb26 hB6
            generalize w6.drew = w7 at *
            have nc := HNC.out _ hW7
            have hex := fun V => exact_any (-1) V
            go_wp2_with fail
            refine (hex _).mono ?_
            rintro e X7 ⟨rfl, hbb⟩
            clear hex nc
            have lg := hG7.lt
            have hG' := hG7.below hbb lg
            have z0 := hG'.cell0 (k := k) (by simpa using hku)
            have z1 := hG'.cell1 (k := k) (by simpa using hku)
            have f0 := hG'.frozen (k * 2)
            have f1 := hG'.frozen (k * 2 + 1)
            have lw4 := hb.size
            have hA' := hA7.trans (hbb.mono hA7.size)
            have hW' := hW7.trans (hbb.mono hW7.size)
            have hb' := hb7.trans (hbb.mono hb7.size)
            have hX' := hX7.below hbb hX7.lt
            have hB' := hB7.below hbb hB7.lt
            have HGN := Lib.hid (hG'.set (k := k) (by simpa using hku) ⟨-1, -1⟩)
            have HAN := Lib.hid ((hA'.setCell (p := ⟨g, k * 2, none⟩) (by simp only; omega) (.int .i64 (-1))).setCell (p := ⟨g, k * 2 + 1, none⟩) (by simp only; omega) (.int .i64 (-1)))
            have HWN := Lib.hid ((hW'.setCell (p := ⟨g, k * 2, none⟩) (by simp only; omega) (.int .i64 (-1))).setCell (p := ⟨g, k * 2 + 1, none⟩) (by simp only; omega) (.int .i64 (-1)))
            have HbN := Lib.hid ((hb'.setCell (p := ⟨g, k * 2, none⟩) (by simp only; omega) (.int .i64 (-1))).setCell (p := ⟨g, k * 2 + 1, none⟩) (by simp only; omega) (.int .i64 (-1)))
            have HXN := Lib.hid ((hX'.other ⟨g, k * 2, none⟩ (.int .i64 (-1)) (by simp only; omega)).other ⟨g, k * 2 + 1, none⟩ (.int .i64 (-1)) (by simp only; omega))
            have HBN := Lib.hid ((hB'.other ⟨g, k * 2, none⟩ (.int .i64 (-1)) (by simp only; omega)).other ⟨g, k * 2 + 1, none⟩ (.int .i64 (-1)) (by simp only; omega))
            have nc := HNC.out _ hW'
            have x1 := hX'.cell 1 _ rfl
            have x2 := hX'.cell 2 _ rfl
            have x3 := hX'.cell 3 _ rfl
            have x4 := hX'.cell 4 _ rfl
            have c0 := hB'.cell 0 _ rfl
            have c1 := hB'.cell 1 _ rfl
            have c2 := hB'.cell 2 _ rfl
            have n1 : ¬ w.heap.size = g := by omega
            have n2 : ¬ w.heap.size + 1 = g := by omega
            have n3 : ¬ nb = g := by omega
            have n4 : ¬ g = w.heap.size := by omega
            have n5 : ¬ g = w.heap.size + 1 := by omega
            have n6 : ¬ g = nb := by omega
            clear hG7 hA7 hW7 hb7 hX7 hB7 hG' hA' hW' hb' hX' hB' hbb
            go_wp2_with fail
            generalize (X7.setCell ⟨g, k * 2, none⟩ (.int .i64 (-1))).setCell ⟨g, k * 2 + 1, none⟩ (.int .i64 (-1)) = W8 at *
            have hG8 := HGN.out
            have hA8 := HAN.out
            have hW8 := HWN.out
            have hb8 := HbN.out
            have hX8 := HXN.out
            have hB8 := HBN.out
            clear HGN HAN HWN HbN HXN HBN nc x1 x2 x3 x4 c0 c1 c2 z0 z1 f0 f1 n1 n2 n3 n4 n5 n6
            have nc := HNC.out _ hW8
            have hex := fun V => exact_any (2000) V
            go_wp2_with fail
            refine (hex _).mono ?_
            rintro e X8 ⟨rfl, hbb⟩
            clear hex nc
            have lg := hG8.lt
            have hG' := hG8.below hbb lg
            have z0 := hG'.cell0 (k := k) (by simpa using hku)
            have z1 := hG'.cell1 (k := k) (by simpa using hku)
            have f0 := hG'.frozen (k * 2)
            have f1 := hG'.frozen (k * 2 + 1)
            have lw4 := hb.size
            have hA' := hA8.trans (hbb.mono hA8.size)
            have hW' := hW8.trans (hbb.mono hW8.size)
            have hb' := hb8.trans (hbb.mono hb8.size)
            have hX' := hX8.below hbb hX8.lt
            have hB' := hB8.below hbb hB8.lt
            have HGN := Lib.hid (hG'.set (k := k) (by simpa using hku) ⟨2000, 2000⟩)
            have HAN := Lib.hid ((hA'.setCell (p := ⟨g, k * 2, none⟩) (by simp only; omega) (.int .i64 (2000))).setCell (p := ⟨g, k * 2 + 1, none⟩) (by simp only; omega) (.int .i64 (2000)))
            have HWN := Lib.hid ((hW'.setCell (p := ⟨g, k * 2, none⟩) (by simp only; omega) (.int .i64 (2000))).setCell (p := ⟨g, k * 2 + 1, none⟩) (by simp only; omega) (.int .i64 (2000)))
            have HbN := Lib.hid ((hb'.setCell (p := ⟨g, k * 2, none⟩) (by simp only; omega) (.int .i64 (2000))).setCell (p := ⟨g, k * 2 + 1, none⟩) (by simp only; omega) (.int .i64 (2000)))
            have HXN := Lib.hid ((hX'.other ⟨g, k * 2, none⟩ (.int .i64 (2000)) (by simp only; omega)).other ⟨g, k * 2 + 1, none⟩ (.int .i64 (2000)) (by simp only; omega))
            have HBN := Lib.hid ((hB'.other ⟨g, k * 2, none⟩ (.int .i64 (2000)) (by simp only; omega)).other ⟨g, k * 2 + 1, none⟩ (.int .i64 (2000)) (by simp only; omega))
            have nc := HNC.out _ hW'
            have x1 := hX'.cell 1 _ rfl
            have x2 := hX'.cell 2 _ rfl
            have x3 := hX'.cell 3 _ rfl
            have x4 := hX'.cell 4 _ rfl
            have c0 := hB'.cell 0 _ rfl
            have c1 := hB'.cell 1 _ rfl
            have c2 := hB'.cell 2 _ rfl
            have n1 : ¬ w.heap.size = g := by omega
            have n2 : ¬ w.heap.size + 1 = g := by omega
            have n3 : ¬ nb = g := by omega
            have n4 : ¬ g = w.heap.size := by omega
            have n5 : ¬ g = w.heap.size + 1 := by omega
            have n6 : ¬ g = nb := by omega
            clear hG8 hA8 hW8 hb8 hX8 hB8 hG' hA' hW' hb' hX' hB' hbb
            go_wp2_with fail
            generalize (X8.setCell ⟨g, k * 2, none⟩ (.int .i64 (2000))).setCell ⟨g, k * 2 + 1, none⟩ (.int .i64 (2000)) = W9 at *
            have hG9 := HGN.out
            have hA9 := HAN.out
            have hW9 := HWN.out
            have hb9 := HbN.out
            have hX9 := HXN.out
            have hB9 := HBN.out
            clear HGN HAN HWN HbN HXN HBN nc x1 x2 x3 x4 c0 c1 c2 z0 z1 f0 f1 n1 n2 n3 n4 n5 n6
            have hlst : (us.set k ⟨-1, -1⟩).set k ⟨2000, 2000⟩ = us.set k ⟨2000, 2000⟩ := by simp only [List.set_set]
            rw [hlst] at hG9
            clear hlst
            have hl9 : (us.set k (⟨2000, 2000⟩ : Sp)).length = us.length := List.length_set
            have hOT9 : ∀ y ∈ us.set k (⟨2000, 2000⟩ : Sp), OkT y := fun y hy => by
              rcases List.mem_or_eq_of_mem_set hy with h | h
              · exact HUS.out y h
              · rw [h]; exact HT9.out
            have hw2 := wallS_of HW0.out (us := us.set k ⟨2000, 2000⟩) (by rw [hl9]; exact HUB.out) hOT9
            have hrd9 := hG9.reads (cap := cp) (by rw [hl9]; exact hg2') hg3 (by rw [hl9, HUL.out]; omega) (fun y hy => okT_I (hOT9 y hy))
            rw [hl9] at hrd9
            have hsl9 := strS_len hw2
            have hsk9 := strS_at (k := k) hw2 (by rw [hsl9]; exact hkr) hkr (by rw [hl9]; exact hku)
            rw [List.getElem_set_self] at hsk9
            have hin9 := strR_in (t := ⟨2000, 2000⟩) hokr HT9.out HL.out
            have HW2 := Lib.hid hw2
            have HSK9 := Lib.hid hsk9
            clear hw2 hsk9 hOT9
            refine (stressP_any _ _ b (us.set k ⟨2000, 2000⟩) x.load _ (HR.out _ hA9) hrd9 (HC.out _ hA9)).mono ?_
            rintro e V1 ⟨vs2, rfl, hvs, hbb⟩
            obtain ⟨as2, ks2, rfl, -, ⟨-, hsm2⟩, hsl2⟩ := hvs
            have hks9 : k < (strS b (us.set k ⟨2000, 2000⟩) x.load).length := by rw [hsl9]; exact hkr
            obtain ⟨sb2, so2, rfl, hsx⟩ := hsl2 k hks9
            have hs1 := (vis_cell.1 hsx.2.1).2
            simp only at hs1
            rw [HSK9.out] at hs1
            have hB1 := hB9.below hbb hB9.lt
            have hA1 := hA9.trans (hbb.mono hA9.size)
            have hb1 := hb9.trans (hbb.mono hb9.size)
            have c0 := hB1.cell 0 _ rfl
            have c1 := hB1.cell 1 _ rfl
            have c2 := hB1.cell 2 _ rfl
            have i3' : (k : Int) < ((strS b (us.set k ⟨2000, 2000⟩) x.load).length : Int) := by rw [hsl9]; omega
            rw [HW2.out]
            obtain ⟨hin91, hin92, hin93⟩ := hin9
            clear hG9 hA9 hW9 hb9 hX9 hB9 hbb hsx hsl2 hrd9 hin91 hB1
            generalize (strR b.rings[k] ⟨2000, 2000⟩ x.load).hi = H2 at *
            have HSV : Hid (∀ V, Below V1.heap.size V1 V → (fun w' : World => w'.cell? ⟨w.heap.size, 0, none⟩ = some (.slice a b.rings.length cap) ∧ w'.cell? ⟨w.heap.size, 1, none⟩ = some (.int .i64 b.flaw) ∧ w'.cell? ⟨w.heap.size, 2, none⟩ = some (.int .i64 b.tough) ∧ w'.cell? ⟨sb2, so2 + k * 2 + 1, none⟩ = some (.int .i64 H2)) V) := Lib.hid (fun V hV => ⟨ext_of_below hV _ _ c0, ext_of_below hV _ _ c1, ext_of_below hV _ _ c2, ext_of_below hV _ _ hs1⟩)
            have D0 : Below V1.heap.size V1 V1.drew := (Below.refl _ _).drew
            clear c0 c1 c2 hs1
            go_wp2_with fail
            refine wp_region_till (fun w' : World => w'.cell? ⟨w.heap.size, 0, none⟩ = some (.slice a b.rings.length cap) ∧ w'.cell? ⟨w.heap.size, 1, none⟩ = some (.int .i64 b.flaw) ∧ w'.cell? ⟨w.heap.size, 2, none⟩ = some (.int .i64 b.tough) ∧ w'.cell? ⟨sb2, so2 + k * 2 + 1, none⟩ = some (.int .i64 H2)) 99 (by kernel_rfl) (HSV.out _ D0) (fun hHeld => ?_)
            refine Till.take 0 (some 118) (v := ?_) rfl rfl (by kernel_rfl) (by kernel_rfl) (by kernel_rfl) (by kernel_rfl) (fun _ _ _ h => h) (Or.inl ⟨by rfl, ?_⟩) (by assumption) ?_
            rotate_left
            · (intro w hSw; (try dsimp only at hSw); go_simp; try with_reducible rfl)
            try simp only [Act.put, List.setIfInBounds_toArray, List.set_cons_zero, List.set_cons_succ]
            refine Till.take 1 (some 119) (v := ?_) rfl rfl (by kernel_rfl) (by kernel_rfl) (by kernel_rfl) (by kernel_rfl) (fun _ _ _ h => h) (Or.inl ⟨by rfl, ?_⟩) (by assumption) ?_
            rotate_left
            · (intro w hSw; (try dsimp only at hSw); go_simp; try with_reducible rfl)
            try simp only [Act.put, List.setIfInBounds_toArray, List.set_cons_zero, List.set_cons_succ]
            refine Till.take 2 (some 120) (v := ?_) rfl rfl (by kernel_rfl) (by kernel_rfl) (by kernel_rfl) (by kernel_rfl) (fun _ _ _ h => h) (Or.inl ⟨by rfl, ?_⟩) (by assumption) ?_
            rotate_left
            · (intro w hSw; (try dsimp only at hSw); go_simp; try with_reducible rfl)
            try simp only [Act.put, List.setIfInBounds_toArray, List.set_cons_zero, List.set_cons_succ]
            refine Till.take 3 (some 121) (v := ?_) rfl rfl (by kernel_rfl) (by kernel_rfl) (by kernel_rfl) (by kernel_rfl) (fun _ _ _ h => h) (Or.inl ⟨by rfl, ?_⟩) (by assumption) ?_
            rotate_left
            · (intro w hSw; (try dsimp only at hSw); go_simp; try with_reducible rfl)
            try simp only [Act.put, List.setIfInBounds_toArray, List.set_cons_zero, List.set_cons_succ]
            refine Till.take 4 (some 122) (v := ?_) rfl rfl (by kernel_rfl) (by kernel_rfl) (by kernel_rfl) (by kernel_rfl) (fun _ _ _ h => h) (Or.inl ⟨by rfl, ?_⟩) (by assumption) ?_
            rotate_left
            · (intro w hSw; (try dsimp only at hSw); go_simp; try with_reducible rfl)
            try simp only [Act.put, List.setIfInBounds_toArray, List.set_cons_zero, List.set_cons_succ]
            refine Till.take 5 (some 123) (v := ?_) rfl rfl (by kernel_rfl) (by kernel_rfl) (by kernel_rfl) (by kernel_rfl) (fun _ _ _ h => h) (Or.inl ⟨by rfl, ?_⟩) (by assumption) ?_
            rotate_left
            · (intro w hSw; (try dsimp only at hSw); go_simp; try with_reducible rfl)
            try simp only [Act.put, List.setIfInBounds_toArray, List.set_cons_zero, List.set_cons_succ]
            refine Till.take 6 (some 124) (v := ?_) rfl rfl (by kernel_rfl) (by kernel_rfl) (by kernel_rfl) (by kernel_rfl) (fun _ _ _ h => h) (Or.inl ⟨by rfl, ?_⟩) (by assumption) ?_
            rotate_left
            · (intro w hSw; (try dsimp only at hSw); go_simp; try with_reducible rfl)
            try simp only [Act.put, List.setIfInBounds_toArray, List.set_cons_zero, List.set_cons_succ]
            refine Till.take 7 (some 125) (v := ?_) rfl rfl (by kernel_rfl) (by kernel_rfl) (by kernel_rfl) (by kernel_rfl) (fun _ _ _ h => h) (Or.inl ⟨by rfl, ?_⟩) (by assumption) ?_
            rotate_left
            · (intro w hSw; (try dsimp only at hSw); go_simp; try with_reducible rfl)
            try simp only [Act.put, List.setIfInBounds_toArray, List.set_cons_zero, List.set_cons_succ]
            refine Till.take 8 (some 126) (v := ?_) rfl rfl (by kernel_rfl) (by kernel_rfl) (by kernel_rfl) (by kernel_rfl) (fun _ _ _ h => h) (Or.inl ⟨by rfl, ?_⟩) (by assumption) ?_
            rotate_left
            · (intro w hSw; (try dsimp only at hSw); go_simp; try with_reducible rfl)
            try simp only [Act.put, List.setIfInBounds_toArray, List.set_cons_zero, List.set_cons_succ]
            refine Till.one 9 rfl (by kernel_rfl) (fun K hK => ?_)
            go_simp
            go_at_call 50
            refine (bearsL_any _ b H2 _ (HR.out _ (hA1.trans (D0.mono hA1.size))) HOK.out (by omega)).mono ?_
            rintro e V2 ⟨r, rfl, hr, hbb⟩
            obtain rfl : r = false := by cases r with | false => rfl | true => exact absurd (hr.1 rfl) (by have := HNB.out; omega)
            have D1 := D0.trans (hbb.mono D0.size)
            have hh := HSV.out _ D1
            refine hK.out _ _ (fun _ => hh) (fun hHeld2 => ?_)
            clear hK K hbb hr
            try simp only [Act.put, List.setIfInBounds_toArray, List.set_cons_zero, List.set_cons_succ]
            refine Till.take 10 (some 128) (v := ?_) rfl rfl (by kernel_rfl) (by kernel_rfl) (by kernel_rfl) (by kernel_rfl) (fun _ _ _ h => h) (Or.inl ⟨by rfl, ?_⟩) (by assumption) ?_
            rotate_left
            · (intro w hSw; (try dsimp only at hSw); go_simp; try with_reducible rfl)
            try simp only [Act.put, List.setIfInBounds_toArray, List.set_cons_zero, List.set_cons_succ]
            refine Till.done (by kernel_rfl) ?_ _
            have hbN := hb.trans ((hb1.trans (D1.mono hb1.size)).mono hb.size)
            clear hh hHeld hHeld2 HSV D0 D1 hA1 hb1
            go_wp2
            go_roundw
            case rel => exact ⟨k + 1, by omega, by go_num, hbN⟩
            case measure => simp [intOf]; omega
    · obtain rfl : k = (needS b x.load).length := by omega
      clear hB3 hX3 hA3 hBr hXr hb
      go_wp2_with fail
      refine (lives5_any _ (HC.out _ hAr)).mono ?_
      rintro e wl ⟨rfl, hbl⟩
      have hAl := hAr.trans (hbl.mono hAr.size)
      clear hbl hAr
      go_wp2
      go_ret
      exact ⟨rfl, hAl⟩

end Go.Proofs.YtokgnbagegcnpaaDoor
