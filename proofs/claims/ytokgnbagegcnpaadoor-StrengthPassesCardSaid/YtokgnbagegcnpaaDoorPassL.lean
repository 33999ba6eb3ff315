/- The law StrengthPasses: every input; no statement is proved here. -/
import Derived.Test.YtokgnbagegcnpaaDoorThinM
import Derived.Test.YtokgnbagegcnpaaDoorPassP
import Derived.Test.YtokgnbagegcnpaaDoorRealB
import Derived.Test.YtokgnbagegcnpaaDoorSCLaw
namespace Go.Proofs.YtokgnbagegcnpaaDoor
open Go.RowKit Go.PlainAid
set_option linter.unusedVariables false
set_option linter.unusedSimpArgs false
attribute [local go_sem ↓] exec_ask

theorem passE_ok {b : Bot} {l : Ld} {ms : List Int} {acc : Int} (h : passE b l ms acc = 0) : bothS b l = 0 ∧ ms.length = b.rings.length ∧ (∀ x ∈ ms, 0 ≤ x ∧ x ≤ 4000) ∧ 0 ≤ acc ∧ acc ≤ 2000 := by
  unfold passE at h
  split at h
  · rename_i h1
    split at h
    · rename_i h2
      split at h
      · rename_i h3
        obtain ⟨a1, a2⟩ := allB_true.1 h2
        exact ⟨h1, by omega, a2, btw_true.1 h3⟩
      · cases h
    · cases h
  · rename_i h1; exact absurd h h1

def GoodM (ms : List Int) (acc : Int) (us : List Sp) : Prop := ∀ j (h : j < us.length), us[j] = ⟨ms.getD j 0 - acc, min (ms.getD j 0 + acc) 2000⟩
theorem goodM_nil (ms : List Int) (acc : Int) : GoodM ms acc [] := fun j h => absurd h (by simp)
theorem goodM_snoc {ms : List Int} {acc : Int} {us : List Sp} (h : GoodM ms acc us) : GoodM ms acc (us ++ [⟨ms.getD us.length 0 - acc, min (ms.getD us.length 0 + acc) 2000⟩]) := fun j h1 => by
  by_cases e : j < us.length
  · rw [List.getElem_append_left e]; exact h j e
  · have : j = us.length := by rw [List.length_append, List.length_singleton] at h1; omega
    subst this
    simp
theorem pass_holds {b : Bot} {l : Ld} {ms : List Int} {acc : Int} {us : List Sp} (h : passE b l ms acc = 0) (hp : AllPass b l ms acc b.rings.length) (hg : GoodM ms acc us) (hl : us.length = ms.length) :
    wallS b us l = 0 ∧ HoldsB b us l ∧ ¬ BreaksB b us l := by
  obtain ⟨hb, hml, hmb, ha1, ha2⟩ := passE_ok h
  obtain ⟨hok, hld⟩ := both_ok hb
  have hOT : ∀ i (h : i < us.length), OkT us[i] ∧ (needS b l).getD i 0 ≤ us[i].lo ∧ 1 ≤ (needS b l).getD i 0 := fun i hi => by
    have h1 := hg i hi
    obtain ⟨p1, p2, p3⟩ := hp i (by omega)
    have hi2 : i < (needS b l).length := by rw [needS_len]; omega
    have h2 := needS_bd hok hld _ (List.getElem_mem hi2)
    have h3 : (needS b l).getD i 0 = (needS b l)[i] := by rw [List.getD_eq_getElem?_getD, List.getElem?_eq_getElem hi2]; rfl
    rw [← h3] at h2
    rw [h1]
    exact ⟨⟨by simp only; omega, by simp only; omega, by simp only; omega⟩, by simp only; omega, by omega⟩
  have hw : wallS b us l = 0 := wallS_of hb (by omega) (fun x hx => by
    obtain ⟨i, hi, rfl⟩ := List.getElem_of_mem hx
    exact (hOT i hi).1)
  have key : ∀ i, i < b.rings.length → (strAt b us l i).hi ≤ rootF (b.tough / b.flaw) ∧ (strAt b us l i).lo ≤ rootF (b.tough / b.flaw) := fun i hi => by
    have hiu : i < us.length := by omega
    obtain ⟨o1, o2, o3⟩ := hOT i hiu
    have hi2 : i < (needS b l).length := by rw [needS_len]; exact hi
    have h3 : (needS b l).getD i 0 = (needS b l)[i] := by rw [List.getD_eq_getElem?_getD, List.getElem?_eq_getElem hi2]; rfl
    have hfo := needS_is hok hld hi2 hi
    rw [h3] at o2 o3
    have h4 := (hfo.iff (needS b l)[i] o3 hfo.le).2 ⟨o3, Int.le_refl _⟩
    unfold needP at h4
    rw [decide_eq_true_iff] at h4
    rw [strAt_eq hi hiu]
    have h5 := strR_mono (t := ⟨(needS b l)[i], (needS b l)[i]⟩) (t' := us[i]) (hok.rings i hi) ⟨o3, Int.le_refl _, hfo.le⟩ o2 hld.less
    have h6 := strR_le (hok.rings i hi) o1 hld
    omega
  refine ⟨hw, ⟨_, hok.root, fun i hi => (key i hi).1⟩, fun hB => ?_⟩
  obtain ⟨i, hi, hlt⟩ := (breaksB_iff hok.root).1 hB
  have := (key i hi).2
  omega

set_option maxHeartbeats 8000000 in
set_option maxRecDepth 100000 in
theorem sPassesLaw_any (vb vx : Value) (b : Bot) (x : Ask5) (w : World) (h : RBot w vb b) (hx : RAskC w vx x) (hC : Circ w) :
    Calls Tryd.prog 10 #[vb, vx] w (TrueB w) := by
  have h0 := h
  have hx0 := hx
  obtain ⟨v0, rfl, hr, hI⟩ := h
  obtain ⟨a, cap, rfl, -, -, -⟩ := hr
  obtain ⟨vt, vm, vr, pa, pk, cl, rfl, hx', -⟩ := hx
  obtain ⟨vt', vm', vr', pa', pk', he, hx1, hx2, hx3, -, hxi⟩ := hx'
  simp only [askCells, Value.agg.injEq, Array.mk.injEq, List.cons.injEq, and_true, true_and] at he
  obtain ⟨rfl, rfl, rfl, -⟩ := he
  have ht0 := hx1
  have hm0 := hx2
  have hc0 := hx3
  obtain ⟨at', kt, rfl, -, ⟨-, htm⟩, htl⟩ := hx1
  obtain ⟨am, km, rfl, -, ⟨-, hmm⟩, hml⟩ := hx2
  obtain ⟨ar, kr, rfl, -, -, -⟩ := hx3
  have hA : Below w.heap.size w ((w.alloc (.cells #[.slice a b.rings.length cap, .int .i64 b.flaw, .int .i64 b.tough] 24)).alloc (.cells (askCells x (.slice at' x.thick.length kt) (.slice am x.measured.length km) (.slice ar x.recipe.length kr) pa pk) 33)) := (below_boxS w _).alloc (by simp) _
  have hB := (Blk.new w #[.slice a b.rings.length cap, .int .i64 b.flaw, .int .i64 b.tough] 24).alloc (.cells (askCells x (.slice at' x.thick.length kt) (.slice am x.measured.length km) (.slice ar x.recipe.length kr) pa pk) 33)
  have hX := Blk.new (w.alloc (.cells #[.slice a b.rings.length cap, .int .i64 b.flaw, .int .i64 b.tough] 24)) (askCells x (.slice at' x.thick.length kt) (.slice am x.measured.length km) (.slice ar x.recipe.length kr) pa pk) 33
  rw [World.size_alloc] at hX
  have hz : ((w.alloc (.cells #[.slice a b.rings.length cap, .int .i64 b.flaw, .int .i64 b.tough] 24)).alloc (.cells (askCells x (.slice at' x.thick.length kt) (.slice am x.measured.length km) (.slice ar x.recipe.length kr) pa pk) 33)).heap.size = w.heap.size + 2 := by simp
  replace hz := And.intro (Nat.le_of_eq hz) (Nat.le_of_eq hz.symm)
  simp only [askCells] at hA hB hX hz ⊢
  go_enter Tryd.func10, Tryd.ntmps10
  go_wp2_with fail
  generalize (w.alloc (.cells #[.slice a b.rings.length cap, .int .i64 b.flaw, .int .i64 b.tough] 24)).alloc _ = W2 at *
  have HI := Lib.hid hxi
  have HR := Lib.hid (fun V (hV : Below w.heap.size w V) => h0.mono (ext_of_below hV))
  have HX := Lib.hid (fun V (hV : Below w.heap.size w V) => hx0.mono (ext_of_below hV))
  have HT := Lib.hid (fun V (hV : Below w.heap.size w V) => ht0.mono (ext_of_below hV))
  have HM := Lib.hid (fun V (hV : Below w.heap.size w V) => hm0.mono (ext_of_below hV))
  have HRC := Lib.hid (fun V (hV : Below w.heap.size w V) => hc0.mono (ext_of_below hV))
  have HTL := Lib.hid (fun V (hV : Below w.heap.size w V) i (h : i < x.thick.length) => (htl i h).elim fun b' h1 => h1.elim fun o' h2 => (⟨b', o', h2.1, h2.2.mono (ext_of_below hV)⟩ : ∃ b' o', at' = some ⟨b', o', none⟩ ∧ RSp V ⟨b', o' + i * 2, none⟩ x.thick[i]))
  have HML := Lib.hid hml
  have HC := Lib.hid (fun V (hV : Below w.heap.size w V) => hC.mono (ext_of_below hV))
  clear h0 hx0 ht0 htl hC hm0 hc0 hml hxi
  simp only [askCells] at HX
  refine (great5_any _ b _ (HR.out _ hA)).mono ?_
  rintro e w1 ⟨rfl, hb1⟩
  have hA1 := hA.trans (hb1.mono hA.size)
  have hB1 := hB.below hb1 hB.lt
  have hX1 := hX.below hb1 hX.lt
  have hz1 : w.heap.size + 2 ≤ w1.heap.size := by have := hb1.size; omega
  clear hA hB hX hb1 hz
  cases hg : decide (40 < b.rings.length) with
  | true =>
    clear hB1 hX1
    go_wp2_with fail
    refine (lives5_any _ (HC.out _ hA1)).mono ?_
    rintro e wl ⟨rfl, hbl⟩
    have hAl := hA1.trans (hbl.mono hA1.size)
    clear hbl hA1
    go_wp2
    go_ret
    exact ⟨rfl, hAl⟩

  | false =>
  have c0 := hB1.cell 0 _ rfl
  have c1 := hB1.cell 1 _ rfl
  have c2 := hB1.cell 2 _ rfl
  have hld := ld_ask hX1 rfl
  go_wp2_with fail
  refine (wide5_any _ x _ (HX.out _ hA1)).mono ?_
  rintro e w2 ⟨rw, rfl, hwd, hb2⟩
  have hA2 := hA1.trans (hb2.mono hA1.size)
  have hB2 := hB1.below hb2 hB1.lt
  have hX2 := hX1.below hb2 hX1.lt
  have hz2 : w.heap.size + 2 ≤ w2.heap.size := by have := hb2.size; omega
  clear hA1 hB1 hX1 hb2 hz1 c0 c1 c2 hld
  cases rw with
  | true =>
    clear hB2 hX2
    go_wp2_with fail
    refine (lives5_any _ (HC.out _ hA2)).mono ?_
    rintro e wl ⟨rfl, hbl⟩
    have hAl := hA2.trans (hbl.mono hA2.size)
    clear hbl hA2
    go_wp2
    go_ret
    exact ⟨rfl, hAl⟩

  | false =>
  have h40 := hwd rfl
  clear hwd
  have c0 := hB2.cell 0 _ rfl
  have c1 := hB2.cell 1 _ rfl
  have c2 := hB2.cell 2 _ rfl
  have x1 := hX2.cell 1 _ rfl
  have x2 := hX2.cell 2 _ rfl
  have x3 := hX2.cell 3 _ rfl
  have x4 := hX2.cell 4 _ rfl
  have x9 := hX2.cell 9 _ rfl
  have x10 := hX2.cell 10 _ rfl
  go_wp2_with fail
  refine (passesP_any _ _ b x.load x.measured x.acc _ (HR.out _ hA2) (HM.out _ hA2) (HC.out _ hA2)).mono ?_
  rintro e w3 ⟨is, rfl, hp1, hp2, hb3⟩
  have hA3 := hA2.trans (hb3.mono hA2.size)
  have hB3 := hB2.below hb3 hB2.lt
  have hX3 := hX2.below hb3 hX2.lt
  have hz3 : w.heap.size + 2 ≤ w3.heap.size := by have := hb3.size; omega
  clear hA2 hB2 hX2 hb3 hz2
  clear c0 c1 c2 x1 x2 x3 x4 x9 x10
  by_cases hw0 : passE b x.load x.measured x.acc = 0
  case neg =>
    obtain rfl := hp2 hw0
    have hne : (passE b x.load x.measured x.acc == 0) = false := by simpa using hw0
    clear hB3 hX3 hp1 hp2
    go_wp2_with fail
    refine (lives5_any _ (HC.out _ hA3)).mono ?_
    rintro e wl ⟨rfl, hbl⟩
    have hAl := hA3.trans (hbl.mono hA3.size)
    clear hbl hA3
    go_wp2
    go_ret
    exact ⟨rfl, hAl⟩

  have HPQ := Lib.hid (hp1 hw0)
  have HW0 := Lib.hid hw0
  rw [hw0]
  clear hp1 hp2 hw0
  have c0 := hB3.cell 0 _ rfl
  have c1 := hB3.cell 1 _ rfl
  have c2 := hB3.cell 2 _ rfl
  have x1 := hX3.cell 1 _ rfl
  have x2 := hX3.cell 2 _ rfl
  have x3 := hX3.cell 3 _ rfl
  have x4 := hX3.cell 4 _ rfl
  go_wp2_with fail
  refine (neededP_any _ b x.load _ (HR.out _ hA3) (HC.out _ hA3)).mono ?_
  rintro e w4 ⟨vn, rfl, hvn, hb4⟩
  have hA4 := hA3.trans (hb4.mono hA3.size)
  have hB4 := hB3.below hb4 hB3.lt
  have hX4 := hX3.below hb4 hX3.lt
  have hz4 : w.heap.size + 2 ≤ w4.heap.size := by have := hb4.size; omega
  clear hA3 hB3 hX3 hb4 hz3
  clear c0 c1 c2 x1 x2 x3 x4
  have HPE := Lib.hid (passE_ok HW0.out)
  have hns : needsS b x.load = needS b x.load := by rw [needsS, if_pos HPE.out.1]
  rw [hns] at hvn
  obtain ⟨an, kn, rfl, -, ⟨-, hnm⟩, hnl⟩ := hvn
  rw [HPE.out.1]
  have hlen := needS_len b x.load
  obtain ⟨hok, hl⟩ := both_ok HPE.out.1
  have hmo := hok.most
  have HOK := Lib.hid hok
  have HL := Lib.hid hl
  have HLEN := Lib.hid hlen
  have hn24 : (needS b x.load).length ≤ 24 := by omega
  have hme : x.measured.length = (needS b x.load).length := by rw [HPE.out.2.1, hlen]
  have HME := Lib.hid hme
  have hm24 : x.measured.length ≤ 24 := by omega
  have hqn : (((needS b x.load).length : Int) != (x.measured.length : Int)) = false := by rw [bne_eq_false_iff_eq]; omega
  have HNL : Hid (∀ i (h : i < (needS b x.load).length), ∃ b' o', an = some ⟨b', o', none⟩ ∧ b' < w4.heap.size ∧ ∀ V, Below w4.heap.size w4 V → V.cell? ⟨b', o' + i, none⟩ = some (.int .i64 (needS b x.load)[i])) := Lib.hid (fun i hi => by
    obtain ⟨b', o', h1, h2, -⟩ := hnl i hi
    obtain ⟨-, h3⟩ := vis_cell.1 h2
    refine ⟨b', o', h1, cell_lt h3, fun V hV => ?_⟩
    have := ext_of_below hV _ _ h3
    simpa using this)
  have x9 := hX4.cell 9 _ rfl
  clear hnl hlen hok hl hme
  go_wp2_with fail
  clear hqn x9
  go_loopw [8, 9] (fun v i wr => ∃ (k : Nat) (us : List Sp), k ≤ x.measured.length ∧ i = .int .i64 k ∧ Hid (us.length = k ∧ GoodM x.measured x.acc us) ∧ wr.ownsRow w4.heap.size 29 2 v us.length (us.flatMap spCells) ∧ Below w4.heap.size w4 wr) (fun _ i _ => x.measured.length - (intOf i).toNat)
  case atStart => exact ⟨0, [], Nat.zero_le _, rfl, ⟨rfl, goodM_nil _ _⟩, World.ownsRow_nil _ _ _ _, Below.refl _ _⟩
  case round =>
    obtain ⟨k, us, hk, rfl, hgd, hown, hb⟩ := hrel
    have hXr := hX4.below hb hX4.lt
    have hAr := hA4.trans (hb.mono hA4.size)
    have x9 := hXr.cell 9 _ rfl
    by_cases hkl : k < x.measured.length
    · have i3 : (0 : Int) ≤ (k : Int) := Int.natCast_nonneg _
      have i4 : (k : Int) < (x.measured.length : Int) := by omega
      have hkn : k < (needS b x.load).length := by rw [← HME.out]; exact hkl
      have i5 : (k : Int) < ((needS b x.load).length : Int) := by omega
      obtain ⟨mb, mo, rfl, hm1, -⟩ := HML.out k hkl
      have hmb := cell_lt hm1
      obtain ⟨nb, no, rfl, hnb, hnc⟩ := HNL.out k hkn
      have x10 := hXr.cell 10 _ rfl
      have m1 := ext_of_below hAr _ _ hm1
      have n1 := hnc _ hb
      simp only [Nat.mul_one, List.getElem_toArray, List.getElem_cons_zero, List.getElem_cons_succ] at m1 x9 x10
      have hmr := HPE.out.2.2.1 _ (List.getElem_mem hkl)
      have har := HPE.out.2.2.2
      have hnr := needS_bd HOK.out HL.out _ (List.getElem_mem hkn)
      have HGM : Hid (x.measured.getD k 0 = x.measured[k]) := Lib.hid (by rw [List.getD_eq_getElem?_getD, List.getElem?_eq_getElem hkl]; rfl)
      have HGN : Hid ((needS b x.load).getD k 0 = (needS b x.load)[k]) := Lib.hid (by rw [List.getD_eq_getElem?_getD, List.getElem?_eq_getElem hkn]; rfl)
      have hul := hgd.out.1
      have HG2 := Lib.hid (goodM_snoc hgd.out.2)
      rw [hul, HGM.out] at HG2
      have HUL := Lib.hid hul
      have HPA : Hid (is = true → 1 ≤ (needS b x.load)[k] ∧ (needS b x.load)[k] ≤ x.measured[k] - x.acc) := Lib.hid (fun h => by
        obtain ⟨p1, p2, p3⟩ := HPQ.out.1 h k (by rw [← HLEN.out]; exact hkn)
        rw [HGN.out] at p1 p2
        rw [HGM.out] at p2
        exact ⟨by omega, p2⟩)
      clear hgd hul hm1 hnc
      generalize x.measured[k] = m at *
      generalize (needS b x.load)[k] = q at *
      obtain ⟨T, hT⟩ : ∃ T : Sp, T = ⟨m - x.acc, min (m + x.acc) 2000⟩ := ⟨_, rfl⟩
      have t1 : IntKind.i64.wrap (m - x.acc) = T.lo := by rw [hT]; exact (IntWalk.i64_left _).trans (wrap_id _ (by unfold I64; omega))
      have t2 : IntKind.i64.wrap (m + x.acc) = m + x.acc := (IntWalk.i64_left _).trans (wrap_id _ (by unfold I64; omega))
      have t3 : (if 2000 < m + x.acc then 2000 else m + x.acc) = T.hi := by rw [min_if5, hT]
      have HTL2 : Hid (T.lo = m - x.acc) := Lib.hid (by rw [hT])
      rw [← hT] at HG2
      clear hT
      have hwb : ∀ g, u8.ownBlock = some g → w4.heap.size ≤ g := fun g hg => (hown.lt g hg).1
      have lX : w.heap.size + 1 < w4.heap.size := hX4.lt
      have lA := hA4.size
      have hmb' : mb < w.heap.size := hmb
      have hn1 : u8.ownBlock ≠ some (w.heap.size + 1) := fun e => by have := hwb _ e; omega
      have hn2 : u8.ownBlock ≠ some mb := fun e => by have := hwb _ e; omega
      have hn3 : u8.ownBlock ≠ some nb := fun e => by have := hwb _ e; omega
      have HSV : Hid (∀ V, Below wr.heap.size wr V → (fun w' : World => w'.cell? ⟨w.heap.size + 1, 9, none⟩ = some (.slice (some ⟨mb, mo, none⟩) x.measured.length km) ∧ w'.cell? ⟨w.heap.size + 1, 10, none⟩ = some (.int .i64 x.acc) ∧ w'.cell? ⟨mb, mo + k, none⟩ = some (.int .i64 m) ∧ w'.cell? ⟨nb, no + k, none⟩ = some (.int .i64 q)) V) := Lib.hid (fun V hV => ⟨ext_of_below hV _ _ x9, ext_of_below hV _ _ x10, ext_of_below hV _ _ m1, ext_of_below hV _ _ n1⟩)
      have D0 : Below wr.heap.size wr wr.drew := (Below.refl _ _).drew
      have hlt1 : is = true → decide (q < 1) = false := fun h => decide_eq_false (by have := HPA.out h; omega)
      have hlt2 : is = true → decide (T.lo < q) = false := fun h => decide_eq_false (by have := HPA.out h; have := HTL2.out; omega)
      have HF1 := Lib.hid hlt1
      have HF2 := Lib.hid hlt2
      have HB0 := Lib.hid hb
      have HO0 := Lib.hid hown
      clear hlt1 hlt2 hb hown hmb hXr hAr
      clear x10 m1 n1
      cases his : is with
      | true =>
        have hd1 := HF1.out his
        have hd2 := HF2.out his
        have HIS := Lib.hid his
        subst his
        go_wp2_with fail
        refine wp_region_till (fun w' : World => w'.cell? ⟨w.heap.size + 1, 9, none⟩ = some (.slice (some ⟨mb, mo, none⟩) x.measured.length km) ∧ w'.cell? ⟨w.heap.size + 1, 10, none⟩ = some (.int .i64 x.acc) ∧ w'.cell? ⟨mb, mo + k, none⟩ = some (.int .i64 m) ∧ w'.cell? ⟨nb, no + k, none⟩ = some (.int .i64 q)) 99 (by kernel_rfl) (HSV.out _ D0) (fun hHeld => ?_)
        refine Till.take 0 (some 61) (v := ?_) rfl rfl (by kernel_rfl) (by kernel_rfl) (by kernel_rfl) (by kernel_rfl) (fun _ _ _ h => h) (Or.inl ⟨by rfl, ?_⟩) (by assumption) ?_
        rotate_left
        · (intro w hSw; (try dsimp only at hSw); go_simp; try with_reducible rfl)
        try simp only [Act.put, List.setIfInBounds_toArray, List.set_cons_zero, List.set_cons_succ]
        refine Till.take 1 (some 62) (v := ?_) rfl rfl (by kernel_rfl) (by kernel_rfl) (by kernel_rfl) (by kernel_rfl) (fun _ _ _ h => h) (Or.inl ⟨by rfl, ?_⟩) (by assumption) ?_
        rotate_left
        · (intro w hSw; (try dsimp only at hSw); go_simp; try with_reducible rfl)
        try simp only [Act.put, List.setIfInBounds_toArray, List.set_cons_zero, List.set_cons_succ]
        refine Till.take 2 (some 63) (v := ?_) rfl rfl (by kernel_rfl) (by kernel_rfl) (by kernel_rfl) (by kernel_rfl) (fun _ _ _ h => h) (Or.inl ⟨by rfl, ?_⟩) (by assumption) ?_
        rotate_left
        · (intro w hSw; (try dsimp only at hSw); go_simp; try with_reducible rfl)
        try simp only [Act.put, List.setIfInBounds_toArray, List.set_cons_zero, List.set_cons_succ]
        refine Till.take 3 (some 64) (v := ?_) rfl rfl (by kernel_rfl) (by kernel_rfl) (by kernel_rfl) (by kernel_rfl) (fun _ _ _ h => h) (Or.inl ⟨by rfl, ?_⟩) (by assumption) ?_
        rotate_left
        · (intro w hSw; (try dsimp only at hSw); go_simp; try with_reducible rfl)
        try simp only [Act.put, List.setIfInBounds_toArray, List.set_cons_zero, List.set_cons_succ]
        refine Till.take 4 (some 65) (v := ?_) rfl rfl (by kernel_rfl) (by kernel_rfl) (by kernel_rfl) (by kernel_rfl) (fun _ _ _ h => h) (Or.inl ⟨by rfl, ?_⟩) (by assumption) ?_
        rotate_left
        · (intro w hSw; (try dsimp only at hSw); go_simp; try with_reducible rfl)
        try simp only [Act.put, List.setIfInBounds_toArray, List.set_cons_zero, List.set_cons_succ]
        refine Till.take 5 (some 66) (v := ?_) rfl rfl (by kernel_rfl) (by kernel_rfl) (by kernel_rfl) (by kernel_rfl) (fun _ _ _ h => h) (Or.inl ⟨by rfl, ?_⟩) (by assumption) ?_
        rotate_left
        · (intro w hSw; (try dsimp only at hSw); go_simp; try with_reducible rfl)
        try simp only [Act.put, List.setIfInBounds_toArray, List.set_cons_zero, List.set_cons_succ]
        refine Till.take 6 (some 67) (v := ?_) rfl rfl (by kernel_rfl) (by kernel_rfl) (by kernel_rfl) (by kernel_rfl) (fun _ _ _ h => h) (Or.inl ⟨by rfl, ?_⟩) (by assumption) ?_
        rotate_left
        · (intro w hSw; (try dsimp only at hSw); go_simp; try with_reducible rfl)
        try simp only [Act.put, List.setIfInBounds_toArray, List.set_cons_zero, List.set_cons_succ]
        refine Till.take 7 (some 68) (v := ?_) rfl rfl (by kernel_rfl) (by kernel_rfl) (by kernel_rfl) (by kernel_rfl) (fun _ _ _ h => h) (Or.inl ⟨by rfl, ?_⟩) (by assumption) ?_
        rotate_left
        · (intro w hSw; (try dsimp only at hSw); go_simp; try with_reducible rfl)
        try simp only [Act.put, List.setIfInBounds_toArray, List.set_cons_zero, List.set_cons_succ]
        try simp only [hd1]
        refine Till.take 8 (some 69) (v := ?_) rfl rfl (by kernel_rfl) (by kernel_rfl) (by kernel_rfl) (by kernel_rfl) (fun _ _ _ h => h) (Or.inl ⟨by rfl, ?_⟩) (by assumption) ?_
        rotate_left
        · (intro w hSw; (try dsimp only at hSw); go_simp; try with_reducible rfl)
        try simp only [Act.put, List.setIfInBounds_toArray, List.set_cons_zero, List.set_cons_succ]
        refine Till.take 9 (some 70) (v := ?_) rfl rfl (by kernel_rfl) (by kernel_rfl) (by kernel_rfl) (by kernel_rfl) (fun _ _ _ h => h) (Or.inl ⟨by rfl, ?_⟩) (by assumption) ?_
        rotate_left
        · (intro w hSw; (try dsimp only at hSw); go_simp; try with_reducible rfl)
        try simp only [Act.put, List.setIfInBounds_toArray, List.set_cons_zero, List.set_cons_succ]
        refine Till.take 10 (some 71) (v := ?_) rfl rfl (by kernel_rfl) (by kernel_rfl) (by kernel_rfl) (by kernel_rfl) (fun _ _ _ h => h) (Or.inl ⟨by rfl, ?_⟩) (by assumption) ?_
        rotate_left
        · (intro w hSw; (try dsimp only at hSw); go_simp; try with_reducible rfl)
        try simp only [Act.put, List.setIfInBounds_toArray, List.set_cons_zero, List.set_cons_succ]
        refine Till.take 11 (some 72) (v := ?_) rfl rfl (by kernel_rfl) (by kernel_rfl) (by kernel_rfl) (by kernel_rfl) (fun _ _ _ h => h) (Or.inl ⟨by rfl, ?_⟩) (by assumption) ?_
        rotate_left
        · (intro w hSw; (try dsimp only at hSw); go_simp; try with_reducible rfl)
        try simp only [Act.put, List.setIfInBounds_toArray, List.set_cons_zero, List.set_cons_succ]
        refine Till.take 12 (some 73) (v := ?_) rfl rfl (by kernel_rfl) (by kernel_rfl) (by kernel_rfl) (by kernel_rfl) (fun _ _ _ h => h) (Or.inl ⟨by rfl, ?_⟩) (by assumption) ?_
        rotate_left
        · (intro w hSw; (try dsimp only at hSw); go_simp; try with_reducible rfl)
        try simp only [Act.put, List.setIfInBounds_toArray, List.set_cons_zero, List.set_cons_succ]
        refine Till.take 13 (some 74) (v := ?_) rfl rfl (by kernel_rfl) (by kernel_rfl) (by kernel_rfl) (by kernel_rfl) (fun _ _ _ h => h) (Or.inl ⟨by rfl, ?_⟩) (by assumption) ?_
        rotate_left
        · (intro w hSw; (try dsimp only at hSw); go_simp; try with_reducible rfl)
        try simp only [Act.put, List.setIfInBounds_toArray, List.set_cons_zero, List.set_cons_succ]
        refine Till.take 14 (some 75) (v := ?_) rfl rfl (by kernel_rfl) (by kernel_rfl) (by kernel_rfl) (by kernel_rfl) (fun _ _ _ h => h) (Or.inl ⟨by rfl, ?_⟩) (by assumption) ?_
        rotate_left
        · (intro w hSw; (try dsimp only at hSw); go_simp; try with_reducible rfl)
        try simp only [Act.put, List.setIfInBounds_toArray, List.set_cons_zero, List.set_cons_succ]
        refine Till.take 15 (some 76) (v := ?_) rfl rfl (by kernel_rfl) (by kernel_rfl) (by kernel_rfl) (by kernel_rfl) (fun _ _ _ h => h) (Or.inl ⟨by rfl, ?_⟩) (by assumption) ?_
        rotate_left
        · (intro w hSw; (try dsimp only at hSw); go_simp; try with_reducible rfl)
        try simp only [Act.put, List.setIfInBounds_toArray, List.set_cons_zero, List.set_cons_succ]
        refine Till.take 16 (some 77) (v := ?_) rfl rfl (by kernel_rfl) (by kernel_rfl) (by kernel_rfl) (by kernel_rfl) (fun _ _ _ h => h) (Or.inl ⟨by rfl, ?_⟩) (by assumption) ?_
        rotate_left
        · (intro w hSw; (try dsimp only at hSw); go_simp; try with_reducible rfl)
        try simp only [Act.put, List.setIfInBounds_toArray, List.set_cons_zero, List.set_cons_succ]
        refine Till.take 17 (some 78) (v := ?_) rfl rfl (by kernel_rfl) (by kernel_rfl) (by kernel_rfl) (by kernel_rfl) (fun _ _ _ h => h) (Or.inl ⟨by rfl, ?_⟩) (by assumption) ?_
        rotate_left
        · (intro w hSw; (try dsimp only at hSw); go_simp; try with_reducible rfl)
        try simp only [Act.put, List.setIfInBounds_toArray, List.set_cons_zero, List.set_cons_succ]
        refine Till.take 18 (some 79) (v := ?_) rfl rfl (by kernel_rfl) (by kernel_rfl) (by kernel_rfl) (by kernel_rfl) (fun _ _ _ h => h) (Or.inl ⟨by rfl, ?_⟩) (by assumption) ?_
        rotate_left
        · (intro w hSw; (try dsimp only at hSw); go_simp; try with_reducible rfl)
        try simp only [Act.put, List.setIfInBounds_toArray, List.set_cons_zero, List.set_cons_succ]
        refine Till.take 19 (some 80) (v := ?_) rfl rfl (by kernel_rfl) (by kernel_rfl) (by kernel_rfl) (by kernel_rfl) (fun _ _ _ h => h) (Or.inl ⟨by rfl, ?_⟩) (by assumption) ?_
        rotate_left
        · (intro w hSw; (try dsimp only at hSw); go_simp; try with_reducible rfl)
        try simp only [Act.put, List.setIfInBounds_toArray, List.set_cons_zero, List.set_cons_succ]
        refine Till.take 20 (some 81) (v := ?_) rfl rfl (by kernel_rfl) (by kernel_rfl) (by kernel_rfl) (by kernel_rfl) (fun _ _ _ h => h) (Or.inl ⟨by rfl, ?_⟩) (by assumption) ?_
        rotate_left
        · (intro w hSw; (try dsimp only at hSw); go_simp; try with_reducible rfl)
        try simp only [Act.put, List.setIfInBounds_toArray, List.set_cons_zero, List.set_cons_succ]
        try simp only [hd2]
        refine Till.take 21 (some 82) (v := ?_) rfl rfl (by kernel_rfl) (by kernel_rfl) (by kernel_rfl) (by kernel_rfl) (fun _ _ _ h => h) (Or.inl ⟨by rfl, ?_⟩) (by assumption) ?_
        rotate_left
        · (intro w hSw; (try dsimp only at hSw); go_simp; try with_reducible rfl)
        try simp only [Act.put, List.setIfInBounds_toArray, List.set_cons_zero, List.set_cons_succ]
        refine Till.take 22 (some 83) (v := ?_) rfl rfl (by kernel_rfl) (by kernel_rfl) (by kernel_rfl) (by kernel_rfl) (fun _ _ _ h => h) (Or.inl ⟨by rfl, ?_⟩) (by assumption) ?_
        rotate_left
        · (intro w hSw; (try dsimp only at hSw); go_simp; try with_reducible rfl)
        try simp only [Act.put, List.setIfInBounds_toArray, List.set_cons_zero, List.set_cons_succ]
        refine Till.done (by kernel_rfl) ?_ _
        clear hHeld hd1 hd2
        go_wp2_with fail
        have D1 : Below wr.heap.size wr wr.drew.drew := D0.drew
        have hll := HUL.out
        have HD : Hid (Below wr.heap.size wr (wr.alloc (.cells #[.int .i64 T.lo, .int .i64 T.hi] 29)).drew.drew) := Lib.hid ((below_boxS wr _).drew.drew)
        refine wp_region_till (fun w' : World => w'.cell? ⟨w.heap.size + 1, 9, none⟩ = some (.slice (some ⟨mb, mo, none⟩) x.measured.length km) ∧ w'.cell? ⟨w.heap.size + 1, 10, none⟩ = some (.int .i64 x.acc) ∧ w'.cell? ⟨mb, mo + k, none⟩ = some (.int .i64 m) ∧ w'.cell? ⟨nb, no + k, none⟩ = some (.int .i64 q)) 99 (by kernel_rfl) (HSV.out _ D1) (fun hHeld => ?_)
        refine Till.take 0 (some 84) (v := ?_) rfl rfl (by kernel_rfl) (by kernel_rfl) (by kernel_rfl) (by kernel_rfl) (fun _ _ _ h => h) (Or.inl ⟨by rfl, ?_⟩) (by assumption) ?_
        rotate_left
        · (intro w hSw; (try dsimp only at hSw); go_simp; try with_reducible rfl)
        try simp only [Act.put, List.setIfInBounds_toArray, List.set_cons_zero, List.set_cons_succ]
        refine Till.take 1 (some 85) (v := ?_) rfl rfl (by kernel_rfl) (by kernel_rfl) (by kernel_rfl) (by kernel_rfl) (fun _ _ _ h => h) (Or.inl ⟨by rfl, ?_⟩) (by assumption) ?_
        rotate_left
        · (intro w hSw; (try dsimp only at hSw); go_simp; try with_reducible rfl)
        try simp only [Act.put, List.setIfInBounds_toArray, List.set_cons_zero, List.set_cons_succ]
        refine Till.take 2 (some 86) (v := ?_) rfl rfl (by kernel_rfl) (by kernel_rfl) (by kernel_rfl) (by kernel_rfl) (fun _ _ _ h => h) (Or.inl ⟨by rfl, ?_⟩) (by assumption) ?_
        rotate_left
        · (intro w hSw; (try dsimp only at hSw); go_simp; try with_reducible rfl)
        try simp only [Act.put, List.setIfInBounds_toArray, List.set_cons_zero, List.set_cons_succ]
        refine Till.take 3 (some 87) (v := ?_) rfl rfl (by kernel_rfl) (by kernel_rfl) (by kernel_rfl) (by kernel_rfl) (fun _ _ _ h => h) (Or.inl ⟨by rfl, ?_⟩) (by assumption) ?_
        rotate_left
        · (intro w hSw; (try dsimp only at hSw); go_simp; try with_reducible rfl)
        try simp only [Act.put, List.setIfInBounds_toArray, List.set_cons_zero, List.set_cons_succ]
        refine Till.take 4 (some 88) (v := ?_) rfl rfl (by kernel_rfl) (by kernel_rfl) (by kernel_rfl) (by kernel_rfl) (fun _ _ _ h => h) (Or.inl ⟨by rfl, ?_⟩) (by assumption) ?_
        rotate_left
        · (intro w hSw; (try dsimp only at hSw); go_simp; try with_reducible rfl)
        try simp only [Act.put, List.setIfInBounds_toArray, List.set_cons_zero, List.set_cons_succ]
        refine Till.take 5 (some 89) (v := ?_) rfl rfl (by kernel_rfl) (by kernel_rfl) (by kernel_rfl) (by kernel_rfl) (fun _ _ _ h => h) (Or.inl ⟨by rfl, ?_⟩) (by assumption) ?_
        rotate_left
        · (intro w hSw; (try dsimp only at hSw); go_simp; try with_reducible rfl)
        try simp only [Act.put, List.setIfInBounds_toArray, List.set_cons_zero, List.set_cons_succ]
        refine Till.take 6 (some 90) (v := ?_) rfl rfl (by kernel_rfl) (by kernel_rfl) (by kernel_rfl) (by kernel_rfl) (fun _ _ _ h => h) (Or.inl ⟨by rfl, ?_⟩) (by assumption) ?_
        rotate_left
        · (intro w hSw; (try dsimp only at hSw); go_simp; try with_reducible rfl)
        try simp only [Act.put, List.setIfInBounds_toArray, List.set_cons_zero, List.set_cons_succ]
        refine Till.take 7 (some 91) (v := ?_) rfl rfl (by kernel_rfl) (by kernel_rfl) (by kernel_rfl) (by kernel_rfl) (fun _ _ _ h => h) (Or.inl ⟨by rfl, ?_⟩) (by assumption) ?_
        rotate_left
        · (intro w hSw; (try dsimp only at hSw); go_simp; try with_reducible rfl)
        try simp only [Act.put, List.setIfInBounds_toArray, List.set_cons_zero, List.set_cons_succ]
        refine Till.take 8 (some 92) (v := ?_) rfl rfl (by kernel_rfl) (by kernel_rfl) (by kernel_rfl) (by kernel_rfl) (fun _ _ _ h => h) (Or.inl ⟨by rfl, ?_⟩) (by assumption) ?_
        rotate_left
        · (intro w hSw; (try dsimp only at hSw); go_simp; try with_reducible rfl)
        try simp only [Act.put, List.setIfInBounds_toArray, List.set_cons_zero, List.set_cons_succ]
        refine Till.take 9 (some 93) (v := ?_) rfl rfl (by kernel_rfl) (by kernel_rfl) (by kernel_rfl) (by kernel_rfl) (fun _ _ _ h => h) (Or.inl ⟨by rfl, ?_⟩) (by assumption) ?_
        rotate_left
        · (intro w hSw; (try dsimp only at hSw); go_simp; try with_reducible rfl)
        try simp only [Act.put, List.setIfInBounds_toArray, List.set_cons_zero, List.set_cons_succ]
        refine Till.take 10 (some 94) (v := ?_) rfl rfl (by kernel_rfl) (by kernel_rfl) (by kernel_rfl) (by kernel_rfl) (fun _ _ _ h => h) (Or.inl ⟨by rfl, ?_⟩) (by assumption) ?_
        rotate_left
        · (intro w hSw; (try dsimp only at hSw); go_simp; try with_reducible rfl)
        try simp only [Act.put, List.setIfInBounds_toArray, List.set_cons_zero, List.set_cons_succ]
        refine Till.take 11 (some 95) (v := ?_) rfl rfl (by kernel_rfl) (by kernel_rfl) (by kernel_rfl) (by kernel_rfl) (fun _ _ _ h => h) (Or.inl ⟨by rfl, ?_⟩) (by assumption) ?_
        rotate_left
        · (intro w hSw; (try dsimp only at hSw); go_simp; try with_reducible rfl)
        try simp only [Act.put, List.setIfInBounds_toArray, List.set_cons_zero, List.set_cons_succ]
        refine Till.take 12 (some 96) (v := ?_) rfl rfl (by kernel_rfl) (by kernel_rfl) (by kernel_rfl) (by kernel_rfl) (fun _ _ _ h => h) (Or.inl ⟨by rfl, ?_⟩) (by assumption) ?_
        rotate_left
        · (intro w hSw; (try dsimp only at hSw); go_simp; try with_reducible rfl)
        try simp only [Act.put, List.setIfInBounds_toArray, List.set_cons_zero, List.set_cons_succ]
        refine Till.take 13 (some 97) (v := ?_) rfl rfl (by kernel_rfl) (by kernel_rfl) (by kernel_rfl) (by kernel_rfl) (fun _ _ _ h => h) (Or.inl ⟨by rfl, ?_⟩) (by assumption) ?_
        rotate_left
        · (intro w hSw; (try dsimp only at hSw); go_simp; try with_reducible rfl)
        try simp only [Act.put, List.setIfInBounds_toArray, List.set_cons_zero, List.set_cons_succ]
        refine Till.take 14 (some 98) (v := ?_) rfl rfl (by kernel_rfl) (by kernel_rfl) (by kernel_rfl) (by kernel_rfl) (fun _ _ _ h => h) (Or.inl ⟨by rfl, ?_⟩) (by assumption) ?_
        rotate_left
        · (intro w hSw; (try dsimp only at hSw); go_simp; try with_reducible rfl)
        try simp only [Act.put, List.setIfInBounds_toArray, List.set_cons_zero, List.set_cons_succ]
        refine Till.take 15 (some 99) (v := ?_) rfl rfl (by kernel_rfl) (by kernel_rfl) (by kernel_rfl) (by kernel_rfl) (fun _ _ _ h => h) (Or.inl ⟨by rfl, ?_⟩) (by assumption) ?_
        rotate_left
        · (intro w hSw; (try dsimp only at hSw); go_simp; try with_reducible rfl)
        try simp only [Act.put, List.setIfInBounds_toArray, List.set_cons_zero, List.set_cons_succ]
        refine Till.take 16 (some 100) (v := ?_) rfl rfl (by kernel_rfl) (by kernel_rfl) (by kernel_rfl) (by kernel_rfl) (fun _ _ _ h => h) (Or.inl ⟨by rfl, ?_⟩) (by assumption) ?_
        rotate_left
        · (intro w hSw; (try dsimp only at hSw); go_simp; try with_reducible rfl)
        try simp only [Act.put, List.setIfInBounds_toArray, List.set_cons_zero, List.set_cons_succ]
        refine Till.take 17 (some 101) (v := ?_) rfl rfl (by kernel_rfl) (by kernel_rfl) (by kernel_rfl) (by kernel_rfl) (fun _ _ _ h => h) (Or.inl ⟨by rfl, ?_⟩) (by assumption) ?_
        rotate_left
        · (intro w hSw; (try dsimp only at hSw); go_simp; try with_reducible rfl)
        try simp only [Act.put, List.setIfInBounds_toArray, List.set_cons_zero, List.set_cons_succ]
        refine Till.take 18 (some 102) (v := ?_) rfl rfl (by kernel_rfl) (by kernel_rfl) (by kernel_rfl) (by kernel_rfl) (fun _ _ _ h => h) (Or.inl ⟨by rfl, ?_⟩) (by assumption) ?_
        rotate_left
        · (intro w hSw; (try dsimp only at hSw); go_simp; try with_reducible rfl)
        try simp only [Act.put, List.setIfInBounds_toArray, List.set_cons_zero, List.set_cons_succ]
        refine Till.one 19 rfl (by kernel_rfl) (fun K hK => ?_)
        go_simp
        refine hK.out _ _ (fun _ => HSV.out _ HD.out) (fun hHeld3 => ?_)
        clear hK K
        try simp only [Act.put, List.setIfInBounds_toArray]
        have hownA := own_drew (own_drew (HO0.out.alloc (.cells #[.int .i64 T.lo, .int .i64 T.hi] 29)))
        have hnews : ∀ j u, [Value.int .i64 T.lo, .int .i64 T.hi][j]? = some u → (wr.alloc (.cells #[.int .i64 T.lo, .int .i64 T.hi] 29)).drew.drew.cell? ((⟨wr.heap.size, 0, none⟩ : Addr).add j) = some u := World.news_of_block (w := (wr.alloc (.cells #[.int .i64 T.lo, .int .i64 T.hi] 29)).drew.drew) (Blk.new wr #[.int .i64 T.lo, .int .i64 T.hi] 29)
        have hHS := HSV.out _ HD.out
        try dsimp only at hHS
        obtain ⟨i0, hi, hzz⟩ := Option.map_eq_some_iff.1 info_span
        simp only [Prod.mk.injEq] at hzz
        obtain ⟨hz0, hz1, hz2⟩ := hzz
        have hbs := HB0.out.size
        refine Till.one 20 rfl (by kernel_rfl) (fun K hK => ?_)
        refine step_append_lies _ (by rfl) _ _ _ (by rfl) w4.heap.size 29 i0 _ 2 16 Tryd.underlying25 hi hz0 hz1 hz2 rfl (by omega) _ us.length _ (by rfl) hownA ⟨wr.heap.size, 0, none⟩ 1 1 [.int .i64 T.lo, .int .i64 T.hi] (by rfl) (by rfl) hnews (by simp [Value.oneCell']) (by omega) (by unfold maxLen; omega) (by omega) (Nat.le_trans HB0.out.size HD.out.size) _ rfl ?_
        intro g6' k6 w6 hown6 hgrow6 hat6 hlt6
        refine hK.out _ _ (fun _ => ⟨hgrow6.cell hHS.1 (fun e => hn1 e.symm), hgrow6.cell hHS.2.1 (fun e => hn1 e.symm), hgrow6.cell hHS.2.2.1 (fun e => hn2 e.symm), hgrow6.cell hHS.2.2.2 (fun e => hn3 e.symm)⟩) (fun hHeld4 => ?_)
        clear hK K
        try simp only [Act.put]
        have hb6 : Below w4.heap.size w4 w6 := (HB0.out.trans (HD.out.mono HB0.out.size)).grown hgrow6 (Nat.le_trans HB0.out.size HD.out.size) (fun k e => hwb k e)
        have hownF : w6.ownsRow w4.heap.size 29 2 (.slice (some ⟨g6', 0, none⟩) (us.length + 1) k6) (us ++ [T]).length ((us ++ [T]).flatMap spCells) := by simpa [spCells] using hown6
        have HF := Lib.hid hownF
        have HF9 := Lib.hid hb6
        have HUL9 : Hid ((us ++ [T]).length = k + 1) := Lib.hid (by simp [hll])
        have hh4 := hHeld4 (by decide)
        clear hown6 hgrow6 hownF hb6 hownA hnews hHS hHeld hHeld3 hi hz0 hz1 hz2 hll D0 D1
        refine Till.take 21 (some 8) (v := ?_) rfl rfl (by kernel_rfl) (by kernel_rfl) (by kernel_rfl) (by kernel_rfl) (fun _ _ _ h => h) (Or.inl ⟨by rfl, ?_⟩) (by assumption) ?_
        rotate_left
        · (intro w hSw; (try dsimp only at hSw); go_simp; try with_reducible rfl)
        try simp only [Act.put, List.setIfInBounds_toArray]
        refine Till.done (by kernel_rfl) ?_ _
        clear hh4 hHeld4 t1 t2 t3
        go_wp2
        go_roundw
        case rel => exact ⟨k + 1, us ++ [T], by omega, by go_num, ⟨HUL9.out, HG2.out⟩, HF.out, HF9.out⟩
        case measure => simp [intOf]; omega
      | false =>
        subst his
        go_wp2_with fail
        refine wp_region_till (fun w' : World => w'.cell? ⟨w.heap.size + 1, 9, none⟩ = some (.slice (some ⟨mb, mo, none⟩) x.measured.length km) ∧ w'.cell? ⟨w.heap.size + 1, 10, none⟩ = some (.int .i64 x.acc) ∧ w'.cell? ⟨mb, mo + k, none⟩ = some (.int .i64 m) ∧ w'.cell? ⟨nb, no + k, none⟩ = some (.int .i64 q)) 99 (by kernel_rfl) (HSV.out _ D0) (fun hHeld => ?_)
        refine Till.take 0 (some 61) (v := ?_) rfl rfl (by kernel_rfl) (by kernel_rfl) (by kernel_rfl) (by kernel_rfl) (fun _ _ _ h => h) (Or.inl ⟨by rfl, ?_⟩) (by assumption) ?_
        rotate_left
        · (intro w hSw; (try dsimp only at hSw); go_simp; try with_reducible rfl)
        try simp only [Act.put, List.setIfInBounds_toArray, List.set_cons_zero, List.set_cons_succ]
        refine Till.take 1 (some 62) (v := ?_) rfl rfl (by kernel_rfl) (by kernel_rfl) (by kernel_rfl) (by kernel_rfl) (fun _ _ _ h => h) (Or.inl ⟨by rfl, ?_⟩) (by assumption) ?_
        rotate_left
        · (intro w hSw; (try dsimp only at hSw); go_simp; try with_reducible rfl)
        try simp only [Act.put, List.setIfInBounds_toArray, List.set_cons_zero, List.set_cons_succ]
        refine Till.take 2 (some 63) (v := undef) rfl rfl (by kernel_rfl) (by kernel_rfl) (by kernel_rfl) (by kernel_rfl) (fun _ _ _ h => h) (Or.inr ⟨by rfl, rfl⟩) (by assumption) ?_
        try simp only [Act.put, List.setIfInBounds_toArray, List.set_cons_zero, List.set_cons_succ]
        refine Till.take 3 (some 64) (v := undef) rfl rfl (by kernel_rfl) (by kernel_rfl) (by kernel_rfl) (by kernel_rfl) (fun _ _ _ h => h) (Or.inr ⟨by rfl, rfl⟩) (by assumption) ?_
        try simp only [Act.put, List.setIfInBounds_toArray, List.set_cons_zero, List.set_cons_succ]
        refine Till.take 4 (some 65) (v := undef) rfl rfl (by kernel_rfl) (by kernel_rfl) (by kernel_rfl) (by kernel_rfl) (fun _ _ _ h => h) (Or.inr ⟨by rfl, rfl⟩) (by assumption) ?_
        try simp only [Act.put, List.setIfInBounds_toArray, List.set_cons_zero, List.set_cons_succ]
        refine Till.take 5 (some 66) (v := undef) rfl rfl (by kernel_rfl) (by kernel_rfl) (by kernel_rfl) (by kernel_rfl) (fun _ _ _ h => h) (Or.inr ⟨by rfl, rfl⟩) (by assumption) ?_
        try simp only [Act.put, List.setIfInBounds_toArray, List.set_cons_zero, List.set_cons_succ]
        refine Till.take 6 (some 67) (v := undef) rfl rfl (by kernel_rfl) (by kernel_rfl) (by kernel_rfl) (by kernel_rfl) (fun _ _ _ h => h) (Or.inr ⟨by rfl, rfl⟩) (by assumption) ?_
        try simp only [Act.put, List.setIfInBounds_toArray, List.set_cons_zero, List.set_cons_succ]
        refine Till.take 7 (some 68) (v := undef) rfl rfl (by kernel_rfl) (by kernel_rfl) (by kernel_rfl) (by kernel_rfl) (fun _ _ _ h => h) (Or.inr ⟨by rfl, rfl⟩) (by assumption) ?_
        try simp only [Act.put, List.setIfInBounds_toArray, List.set_cons_zero, List.set_cons_succ]
        refine Till.take 8 (some 69) (v := undef) rfl rfl (by kernel_rfl) (by kernel_rfl) (by kernel_rfl) (by kernel_rfl) (fun _ _ _ h => h) (Or.inr ⟨by rfl, rfl⟩) (by assumption) ?_
        try simp only [Act.put, List.setIfInBounds_toArray, List.set_cons_zero, List.set_cons_succ]
        refine Till.take 9 (some 70) (v := undef) rfl rfl (by kernel_rfl) (by kernel_rfl) (by kernel_rfl) (by kernel_rfl) (fun _ _ _ h => h) (Or.inr ⟨by rfl, rfl⟩) (by assumption) ?_
        try simp only [Act.put, List.setIfInBounds_toArray, List.set_cons_zero, List.set_cons_succ]
        refine Till.take 10 (some 71) (v := undef) rfl rfl (by kernel_rfl) (by kernel_rfl) (by kernel_rfl) (by kernel_rfl) (fun _ _ _ h => h) (Or.inr ⟨by rfl, rfl⟩) (by assumption) ?_
        try simp only [Act.put, List.setIfInBounds_toArray, List.set_cons_zero, List.set_cons_succ]
        refine Till.take 11 (some 72) (v := undef) rfl rfl (by kernel_rfl) (by kernel_rfl) (by kernel_rfl) (by kernel_rfl) (fun _ _ _ h => h) (Or.inr ⟨by rfl, rfl⟩) (by assumption) ?_
        try simp only [Act.put, List.setIfInBounds_toArray, List.set_cons_zero, List.set_cons_succ]
        refine Till.take 12 (some 73) (v := undef) rfl rfl (by kernel_rfl) (by kernel_rfl) (by kernel_rfl) (by kernel_rfl) (fun _ _ _ h => h) (Or.inr ⟨by rfl, rfl⟩) (by assumption) ?_
        try simp only [Act.put, List.setIfInBounds_toArray, List.set_cons_zero, List.set_cons_succ]
        refine Till.take 13 (some 74) (v := undef) rfl rfl (by kernel_rfl) (by kernel_rfl) (by kernel_rfl) (by kernel_rfl) (fun _ _ _ h => h) (Or.inr ⟨by rfl, rfl⟩) (by assumption) ?_
        try simp only [Act.put, List.setIfInBounds_toArray, List.set_cons_zero, List.set_cons_succ]
        refine Till.take 14 (some 75) (v := undef) rfl rfl (by kernel_rfl) (by kernel_rfl) (by kernel_rfl) (by kernel_rfl) (fun _ _ _ h => h) (Or.inr ⟨by rfl, rfl⟩) (by assumption) ?_
        try simp only [Act.put, List.setIfInBounds_toArray, List.set_cons_zero, List.set_cons_succ]
        refine Till.take 15 (some 76) (v := undef) rfl rfl (by kernel_rfl) (by kernel_rfl) (by kernel_rfl) (by kernel_rfl) (fun _ _ _ h => h) (Or.inr ⟨by rfl, rfl⟩) (by assumption) ?_
        try simp only [Act.put, List.setIfInBounds_toArray, List.set_cons_zero, List.set_cons_succ]
        refine Till.take 16 (some 77) (v := undef) rfl rfl (by kernel_rfl) (by kernel_rfl) (by kernel_rfl) (by kernel_rfl) (fun _ _ _ h => h) (Or.inr ⟨by rfl, rfl⟩) (by assumption) ?_
        try simp only [Act.put, List.setIfInBounds_toArray, List.set_cons_zero, List.set_cons_succ]
        refine Till.take 17 (some 78) (v := undef) rfl rfl (by kernel_rfl) (by kernel_rfl) (by kernel_rfl) (by kernel_rfl) (fun _ _ _ h => h) (Or.inr ⟨by rfl, rfl⟩) (by assumption) ?_
        try simp only [Act.put, List.setIfInBounds_toArray, List.set_cons_zero, List.set_cons_succ]
        refine Till.take 18 (some 79) (v := undef) rfl rfl (by kernel_rfl) (by kernel_rfl) (by kernel_rfl) (by kernel_rfl) (fun _ _ _ h => h) (Or.inr ⟨by rfl, rfl⟩) (by assumption) ?_
        try simp only [Act.put, List.setIfInBounds_toArray, List.set_cons_zero, List.set_cons_succ]
        refine Till.take 19 (some 80) (v := undef) rfl rfl (by kernel_rfl) (by kernel_rfl) (by kernel_rfl) (by kernel_rfl) (fun _ _ _ h => h) (Or.inr ⟨by rfl, rfl⟩) (by assumption) ?_
        try simp only [Act.put, List.setIfInBounds_toArray, List.set_cons_zero, List.set_cons_succ]
        refine Till.take 20 (some 81) (v := undef) rfl rfl (by kernel_rfl) (by kernel_rfl) (by kernel_rfl) (by kernel_rfl) (fun _ _ _ h => h) (Or.inr ⟨by rfl, rfl⟩) (by assumption) ?_
        try simp only [Act.put, List.setIfInBounds_toArray, List.set_cons_zero, List.set_cons_succ]
        refine Till.take 21 (some 82) (v := undef) rfl rfl (by kernel_rfl) (by kernel_rfl) (by kernel_rfl) (by kernel_rfl) (fun _ _ _ h => h) (Or.inr ⟨by rfl, rfl⟩) (by assumption) ?_
        try simp only [Act.put, List.setIfInBounds_toArray, List.set_cons_zero, List.set_cons_succ]
        refine Till.take 22 (some 83) (v := ?_) rfl rfl (by kernel_rfl) (by kernel_rfl) (by kernel_rfl) (by kernel_rfl) (fun _ _ _ h => h) (Or.inl ⟨by rfl, ?_⟩) (by assumption) ?_
        rotate_left
        · (intro w hSw; (try dsimp only at hSw); go_simp; try with_reducible rfl)
        try simp only [Act.put, List.setIfInBounds_toArray, List.set_cons_zero, List.set_cons_succ]
        refine Till.done (by kernel_rfl) ?_ _
        clear hHeld
        go_wp2_with fail
        have D1 : Below wr.heap.size wr wr.drew.drew := D0.drew
        have hll := HUL.out
        have HD : Hid (Below wr.heap.size wr (wr.alloc (.cells #[.int .i64 T.lo, .int .i64 T.hi] 29)).drew.drew) := Lib.hid ((below_boxS wr _).drew.drew)
        refine wp_region_till (fun w' : World => w'.cell? ⟨w.heap.size + 1, 9, none⟩ = some (.slice (some ⟨mb, mo, none⟩) x.measured.length km) ∧ w'.cell? ⟨w.heap.size + 1, 10, none⟩ = some (.int .i64 x.acc) ∧ w'.cell? ⟨mb, mo + k, none⟩ = some (.int .i64 m) ∧ w'.cell? ⟨nb, no + k, none⟩ = some (.int .i64 q)) 99 (by kernel_rfl) (HSV.out _ D1) (fun hHeld => ?_)
        refine Till.take 0 (some 84) (v := ?_) rfl rfl (by kernel_rfl) (by kernel_rfl) (by kernel_rfl) (by kernel_rfl) (fun _ _ _ h => h) (Or.inl ⟨by rfl, ?_⟩) (by assumption) ?_
        rotate_left
        · (intro w hSw; (try dsimp only at hSw); go_simp; try with_reducible rfl)
        try simp only [Act.put, List.setIfInBounds_toArray, List.set_cons_zero, List.set_cons_succ]
        refine Till.take 1 (some 85) (v := ?_) rfl rfl (by kernel_rfl) (by kernel_rfl) (by kernel_rfl) (by kernel_rfl) (fun _ _ _ h => h) (Or.inl ⟨by rfl, ?_⟩) (by assumption) ?_
        rotate_left
        · (intro w hSw; (try dsimp only at hSw); go_simp; try with_reducible rfl)
        try simp only [Act.put, List.setIfInBounds_toArray, List.set_cons_zero, List.set_cons_succ]
        refine Till.take 2 (some 86) (v := ?_) rfl rfl (by kernel_rfl) (by kernel_rfl) (by kernel_rfl) (by kernel_rfl) (fun _ _ _ h => h) (Or.inl ⟨by rfl, ?_⟩) (by assumption) ?_
        rotate_left
        · (intro w hSw; (try dsimp only at hSw); go_simp; try with_reducible rfl)
        try simp only [Act.put, List.setIfInBounds_toArray, List.set_cons_zero, List.set_cons_succ]
        refine Till.take 3 (some 87) (v := ?_) rfl rfl (by kernel_rfl) (by kernel_rfl) (by kernel_rfl) (by kernel_rfl) (fun _ _ _ h => h) (Or.inl ⟨by rfl, ?_⟩) (by assumption) ?_
        rotate_left
        · (intro w hSw; (try dsimp only at hSw); go_simp; try with_reducible rfl)
        try simp only [Act.put, List.setIfInBounds_toArray, List.set_cons_zero, List.set_cons_succ]
        refine Till.take 4 (some 88) (v := ?_) rfl rfl (by kernel_rfl) (by kernel_rfl) (by kernel_rfl) (by kernel_rfl) (fun _ _ _ h => h) (Or.inl ⟨by rfl, ?_⟩) (by assumption) ?_
        rotate_left
        · (intro w hSw; (try dsimp only at hSw); go_simp; try with_reducible rfl)
        try simp only [Act.put, List.setIfInBounds_toArray, List.set_cons_zero, List.set_cons_succ]
        refine Till.take 5 (some 89) (v := ?_) rfl rfl (by kernel_rfl) (by kernel_rfl) (by kernel_rfl) (by kernel_rfl) (fun _ _ _ h => h) (Or.inl ⟨by rfl, ?_⟩) (by assumption) ?_
        rotate_left
        · (intro w hSw; (try dsimp only at hSw); go_simp; try with_reducible rfl)
        try simp only [Act.put, List.setIfInBounds_toArray, List.set_cons_zero, List.set_cons_succ]
        refine Till.take 6 (some 90) (v := ?_) rfl rfl (by kernel_rfl) (by kernel_rfl) (by kernel_rfl) (by kernel_rfl) (fun _ _ _ h => h) (Or.inl ⟨by rfl, ?_⟩) (by assumption) ?_
        rotate_left
        · (intro w hSw; (try dsimp only at hSw); go_simp; try with_reducible rfl)
        try simp only [Act.put, List.setIfInBounds_toArray, List.set_cons_zero, List.set_cons_succ]
        refine Till.take 7 (some 91) (v := ?_) rfl rfl (by kernel_rfl) (by kernel_rfl) (by kernel_rfl) (by kernel_rfl) (fun _ _ _ h => h) (Or.inl ⟨by rfl, ?_⟩) (by assumption) ?_
        rotate_left
        · (intro w hSw; (try dsimp only at hSw); go_simp; try with_reducible rfl)
        try simp only [Act.put, List.setIfInBounds_toArray, List.set_cons_zero, List.set_cons_succ]
        refine Till.take 8 (some 92) (v := ?_) rfl rfl (by kernel_rfl) (by kernel_rfl) (by kernel_rfl) (by kernel_rfl) (fun _ _ _ h => h) (Or.inl ⟨by rfl, ?_⟩) (by assumption) ?_
        rotate_left
        · (intro w hSw; (try dsimp only at hSw); go_simp; try with_reducible rfl)
        try simp only [Act.put, List.setIfInBounds_toArray, List.set_cons_zero, List.set_cons_succ]
        refine Till.take 9 (some 93) (v := ?_) rfl rfl (by kernel_rfl) (by kernel_rfl) (by kernel_rfl) (by kernel_rfl) (fun _ _ _ h => h) (Or.inl ⟨by rfl, ?_⟩) (by assumption) ?_
        rotate_left
        · (intro w hSw; (try dsimp only at hSw); go_simp; try with_reducible rfl)
        try simp only [Act.put, List.setIfInBounds_toArray, List.set_cons_zero, List.set_cons_succ]
        refine Till.take 10 (some 94) (v := ?_) rfl rfl (by kernel_rfl) (by kernel_rfl) (by kernel_rfl) (by kernel_rfl) (fun _ _ _ h => h) (Or.inl ⟨by rfl, ?_⟩) (by assumption) ?_
        rotate_left
        · (intro w hSw; (try dsimp only at hSw); go_simp; try with_reducible rfl)
        try simp only [Act.put, List.setIfInBounds_toArray, List.set_cons_zero, List.set_cons_succ]
        refine Till.take 11 (some 95) (v := ?_) rfl rfl (by kernel_rfl) (by kernel_rfl) (by kernel_rfl) (by kernel_rfl) (fun _ _ _ h => h) (Or.inl ⟨by rfl, ?_⟩) (by assumption) ?_
        rotate_left
        · (intro w hSw; (try dsimp only at hSw); go_simp; try with_reducible rfl)
        try simp only [Act.put, List.setIfInBounds_toArray, List.set_cons_zero, List.set_cons_succ]
        refine Till.take 12 (some 96) (v := ?_) rfl rfl (by kernel_rfl) (by kernel_rfl) (by kernel_rfl) (by kernel_rfl) (fun _ _ _ h => h) (Or.inl ⟨by rfl, ?_⟩) (by assumption) ?_
        rotate_left
        · (intro w hSw; (try dsimp only at hSw); go_simp; try with_reducible rfl)
        try simp only [Act.put, List.setIfInBounds_toArray, List.set_cons_zero, List.set_cons_succ]
        refine Till.take 13 (some 97) (v := ?_) rfl rfl (by kernel_rfl) (by kernel_rfl) (by kernel_rfl) (by kernel_rfl) (fun _ _ _ h => h) (Or.inl ⟨by rfl, ?_⟩) (by assumption) ?_
        rotate_left
        · (intro w hSw; (try dsimp only at hSw); go_simp; try with_reducible rfl)
        try simp only [Act.put, List.setIfInBounds_toArray, List.set_cons_zero, List.set_cons_succ]
        refine Till.take 14 (some 98) (v := ?_) rfl rfl (by kernel_rfl) (by kernel_rfl) (by kernel_rfl) (by kernel_rfl) (fun _ _ _ h => h) (Or.inl ⟨by rfl, ?_⟩) (by assumption) ?_
        rotate_left
        · (intro w hSw; (try dsimp only at hSw); go_simp; try with_reducible rfl)
        try simp only [Act.put, List.setIfInBounds_toArray, List.set_cons_zero, List.set_cons_succ]
        refine Till.take 15 (some 99) (v := ?_) rfl rfl (by kernel_rfl) (by kernel_rfl) (by kernel_rfl) (by kernel_rfl) (fun _ _ _ h => h) (Or.inl ⟨by rfl, ?_⟩) (by assumption) ?_
        rotate_left
        · (intro w hSw; (try dsimp only at hSw); go_simp; try with_reducible rfl)
        try simp only [Act.put, List.setIfInBounds_toArray, List.set_cons_zero, List.set_cons_succ]
        refine Till.take 16 (some 100) (v := ?_) rfl rfl (by kernel_rfl) (by kernel_rfl) (by kernel_rfl) (by kernel_rfl) (fun _ _ _ h => h) (Or.inl ⟨by rfl, ?_⟩) (by assumption) ?_
        rotate_left
        · (intro w hSw; (try dsimp only at hSw); go_simp; try with_reducible rfl)
        try simp only [Act.put, List.setIfInBounds_toArray, List.set_cons_zero, List.set_cons_succ]
        refine Till.take 17 (some 101) (v := ?_) rfl rfl (by kernel_rfl) (by kernel_rfl) (by kernel_rfl) (by kernel_rfl) (fun _ _ _ h => h) (Or.inl ⟨by rfl, ?_⟩) (by assumption) ?_
        rotate_left
        · (intro w hSw; (try dsimp only at hSw); go_simp; try with_reducible rfl)
        try simp only [Act.put, List.setIfInBounds_toArray, List.set_cons_zero, List.set_cons_succ]
        refine Till.take 18 (some 102) (v := ?_) rfl rfl (by kernel_rfl) (by kernel_rfl) (by kernel_rfl) (by kernel_rfl) (fun _ _ _ h => h) (Or.inl ⟨by rfl, ?_⟩) (by assumption) ?_
        rotate_left
        · (intro w hSw; (try dsimp only at hSw); go_simp; try with_reducible rfl)
        try simp only [Act.put, List.setIfInBounds_toArray, List.set_cons_zero, List.set_cons_succ]
        refine Till.one 19 rfl (by kernel_rfl) (fun K hK => ?_)
        go_simp
        refine hK.out _ _ (fun _ => HSV.out _ HD.out) (fun hHeld3 => ?_)
        clear hK K
        try simp only [Act.put, List.setIfInBounds_toArray]
        have hownA := own_drew (own_drew (HO0.out.alloc (.cells #[.int .i64 T.lo, .int .i64 T.hi] 29)))
        have hnews : ∀ j u, [Value.int .i64 T.lo, .int .i64 T.hi][j]? = some u → (wr.alloc (.cells #[.int .i64 T.lo, .int .i64 T.hi] 29)).drew.drew.cell? ((⟨wr.heap.size, 0, none⟩ : Addr).add j) = some u := World.news_of_block (w := (wr.alloc (.cells #[.int .i64 T.lo, .int .i64 T.hi] 29)).drew.drew) (Blk.new wr #[.int .i64 T.lo, .int .i64 T.hi] 29)
        have hHS := HSV.out _ HD.out
        try dsimp only at hHS
        obtain ⟨i0, hi, hzz⟩ := Option.map_eq_some_iff.1 info_span
        simp only [Prod.mk.injEq] at hzz
        obtain ⟨hz0, hz1, hz2⟩ := hzz
        have hbs := HB0.out.size
        refine Till.one 20 rfl (by kernel_rfl) (fun K hK => ?_)
        refine step_append_lies _ (by rfl) _ _ _ (by rfl) w4.heap.size 29 i0 _ 2 16 Tryd.underlying25 hi hz0 hz1 hz2 rfl (by omega) _ us.length _ (by rfl) hownA ⟨wr.heap.size, 0, none⟩ 1 1 [.int .i64 T.lo, .int .i64 T.hi] (by rfl) (by rfl) hnews (by simp [Value.oneCell']) (by omega) (by unfold maxLen; omega) (by omega) (Nat.le_trans HB0.out.size HD.out.size) _ rfl ?_
        intro g6' k6 w6 hown6 hgrow6 hat6 hlt6
        refine hK.out _ _ (fun _ => ⟨hgrow6.cell hHS.1 (fun e => hn1 e.symm), hgrow6.cell hHS.2.1 (fun e => hn1 e.symm), hgrow6.cell hHS.2.2.1 (fun e => hn2 e.symm), hgrow6.cell hHS.2.2.2 (fun e => hn3 e.symm)⟩) (fun hHeld4 => ?_)
        clear hK K
        try simp only [Act.put]
        have hb6 : Below w4.heap.size w4 w6 := (HB0.out.trans (HD.out.mono HB0.out.size)).grown hgrow6 (Nat.le_trans HB0.out.size HD.out.size) (fun k e => hwb k e)
        have hownF : w6.ownsRow w4.heap.size 29 2 (.slice (some ⟨g6', 0, none⟩) (us.length + 1) k6) (us ++ [T]).length ((us ++ [T]).flatMap spCells) := by simpa [spCells] using hown6
        have HF := Lib.hid hownF
        have HF9 := Lib.hid hb6
        have HUL9 : Hid ((us ++ [T]).length = k + 1) := Lib.hid (by simp [hll])
        have hh4 := hHeld4 (by decide)
        clear hown6 hgrow6 hownF hb6 hownA hnews hHS hHeld hHeld3 hi hz0 hz1 hz2 hll D0 D1
        refine Till.take 21 (some 8) (v := ?_) rfl rfl (by kernel_rfl) (by kernel_rfl) (by kernel_rfl) (by kernel_rfl) (fun _ _ _ h => h) (Or.inl ⟨by rfl, ?_⟩) (by assumption) ?_
        rotate_left
        · (intro w hSw; (try dsimp only at hSw); go_simp; try with_reducible rfl)
        try simp only [Act.put, List.setIfInBounds_toArray]
        refine Till.done (by kernel_rfl) ?_ _
        clear hh4 hHeld4 t1 t2 t3
        go_wp2
        go_roundw
        case rel => exact ⟨k + 1, us ++ [T], by omega, by go_num, ⟨HUL9.out, HG2.out⟩, HF.out, HF9.out⟩
        case measure => simp [intOf]; omega
    · obtain rfl : k = x.measured.length := by omega
      obtain ⟨g1, g2⟩ := hgd.out
      have hBr := hB4.below hb hB4.lt
      cases his : is with
      | false =>
        subst his
        clear hgd hown hBr
        go_wp2_with fail
        refine (lives5_any _ (HC.out _ hAr)).mono ?_
        rintro e wl ⟨rfl, hbl⟩
        have hAl := hAr.trans (hbl.mono hAr.size)
        clear hbl hAr
        go_wp2
        go_ret
        exact ⟨rfl, hAl⟩
      | true =>
      obtain ⟨hw1, hH1, hB1⟩ := pass_holds HW0.out (HPQ.out.1 his) g2 g1
      have hOW := okWall_of hw1
      have hrd : RSps wr u8 us := own_RSps hown (by omega) (fun y hy => by
        obtain ⟨j, hj, rfl⟩ := List.getElem_of_mem hy
        have := hOW.thick j hj
        have q1 := this.lo
        have q2 := this.le
        have q3 := this.hi
        unfold I64
        omega)
      have hho := holdsP_any _ _ b us x.load _ (HR.out _ hAr) hrd (HC.out _ hAr)
      have H7 := Lib.hid (And.intro hw1 (And.intro hH1 hB1))
      have x1 := hXr.cell 1 _ rfl
      have x2 := hXr.cell 2 _ rfl
      have x3 := hXr.cell 3 _ rfl
      have x4 := hXr.cell 4 _ rfl
      have c0 := hBr.cell 0 _ rfl
      have c1 := hBr.cell 1 _ rfl
      have c2 := hBr.cell 2 _ rfl
      subst his
      clear hgd hown hrd hOW hw1 hH1 hB1 g1 g2
      go_wp2_with fail
      refine hho.mono ?_
      rintro e W8 ⟨j, kk, rfl, hq1, -, hb8⟩
      obtain ⟨h7a, h7b, h7c⟩ := H7.out
      obtain ⟨hj, hkk⟩ := hq1 h7a
      obtain rfl : j = true := hj.2 h7b
      obtain rfl : kk = false := by cases kk with | false => rfl | true => exact absurd (hkk.1 rfl) h7c
      rw [h7a]
      have hA8 := hAr.trans (hb8.mono hAr.size)
      clear hho x1 x2 x3 x4 c0 c1 c2 hb8 hAr hj hkk hq1 h7b h7c h7a
      go_wp2_with fail
      refine (lives5_any _ (HC.out _ hA8)).mono ?_
      rintro e wl ⟨rfl, hbl⟩
      have hAl := hA8.trans (hbl.mono hA8.size)
      clear hbl hA8
      go_wp2
      go_ret
      exact ⟨rfl, hAl⟩
end Go.Proofs.YtokgnbagegcnpaaDoor
