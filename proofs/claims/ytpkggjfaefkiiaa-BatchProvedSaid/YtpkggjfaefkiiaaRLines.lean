/- The specification's own lines; no statement is proved here. -/
import Derived.Test.YtpkggjfaefkiiaaRAbove
import Derived.Test.YtpkggjfaefkiiaaTill
namespace Go.Proofs.Ytpkggjfaefkiiaa
open Go.RowKit Go.PlainAid
set_option linter.unusedVariables false

def A1 (m : Mat) : Int := -(tot m.content).lo
def Au (p : Prp) (m : Mat) : Int := abE p.coefs m.content p.target.hi m.content.length
def Ad (p : Prp) (m : Mat) : Int := beE p.coefs m.content p.target.lo m.content.length
def rln2 (b : Bat) (p : Prp) : List Ln := [⟨b.mats.map (Au p), 0⟩, ⟨b.mats.map (Ad p), 0⟩]
def rlnTo (b : Bat) (i : Nat) : List Ln := ⟨b.mats.map A1, -1000 * b.wanted⟩ :: ((rformsB b).take i).flatMap (rln2 b)
def rlnB (b : Bat) : List Ln := rlnTo b (rformsB b).length ++ [⟨b.mats.map (f2E b), 0⟩, ⟨b.mats.map (f3E b), 0⟩]

theorem rlnTo_succ (b : Bat) (i : Nat) (h : i < (rformsB b).length) : rlnTo b (i + 1) = rlnTo b i ++ rln2 b (rformsB b)[i] := by
  unfold rlnTo
  rw [List.take_succ_eq_append_getElem h, List.flatMap_append, List.flatMap_singleton, List.cons_append]
theorem rlnTo_len (b : Bat) (i : Nat) (h : i ≤ (rformsB b).length) : (rlnTo b i).length = 2 * i + 1 := by
  induction i with
  | zero => rfl
  | succ i ih => rw [rlnTo_succ b i (by omega), List.length_append, ih (by omega)]; rfl

theorem rforms_len {b : Bat} : (rformsB b).length = b.oxides.length + b.props.length := by
  unfold rformsB
  rw [List.length_append, rfTo_len]

structure FrmOk (p : Prp) (n : Nat) : Prop where
  len : p.coefs.length = n
  hc : ∀ x ∈ p.coefs, -10000 ≤ x ∧ x ≤ 10000
  lo : -10000 ≤ p.target.lo ∧ p.target.lo ≤ 10000
  hi : -10000 ≤ p.target.hi ∧ p.target.hi ≤ 10000

theorem rforms_ok {b : Bat} (h : OkB b) : ∀ p ∈ rformsB b, FrmOk p b.oxides.length := by
  intro p hp
  unfold rformsB rfTo at hp
  rcases List.mem_append.1 hp with hp | hp
  · obtain ⟨i, hi, rfl⟩ := List.mem_map.1 hp
    have hi' := List.mem_range.1 hi
    have hs := h.shares _ (getD_mem (d := ⟨0, 0⟩) (show i < b.shares.length by rw [h.shLen]; exact hi'))
    have := hs.lo; have := hs.le; have := hs.hi
    refine ⟨by simp [shPrp, shareB], fun x hx => ?_, ?_, ?_⟩
    · rcases share_mem hx with rfl | rfl <;> omega
    · show -10000 ≤ (b.shares.getD i ⟨0, 0⟩).lo ∧ (b.shares.getD i ⟨0, 0⟩).lo ≤ 10000; omega
    · show -10000 ≤ (b.shares.getD i ⟨0, 0⟩).hi ∧ (b.shares.getD i ⟨0, 0⟩).hi ≤ 10000; omega
  · have hq := h.props p hp
    have := hq.target.lo; have := hq.target.le; have := hq.target.hi
    exact ⟨hq.len, hq.coefs, by omega, by omega⟩

theorem ab_ok {b : Bat} (h : OkB b) {p : Prp} (hp : FrmOk p b.oxides.length) {m : Mat} (hm : m ∈ b.mats) {n : Int} (hn : -10000 ≤ n ∧ n ≤ 10000) : AbOk p.coefs m.content n := by
  have hM := h.mats m hm
  refine ⟨by rw [hM.len, hp.len]; exact Nat.le_refl _, by rw [hM.len]; exact h.ox.2, hp.hc, hn, fun s hs => ?_⟩
  have hS := hM.spans s hs
  have := hS.lo; have := hS.le; have := hS.hi
  omega

theorem sides_fac {b : Bat} (h : OkB b) {p : Prp} : ((sidesB p.coefs p.target).map fun f => (⟨b.mats.map fun m => facE f m.content b.oxides.length, 0⟩ : Ln)) = rln2 b p := by
  have e1 : (b.mats.map fun m => facE ⟨p.coefs, true, p.target⟩ m.content b.oxides.length) = b.mats.map (Au p) := by
    apply List.map_congr_left
    intro m hm
    rw [fac_sumO]
    unfold Au abE
    rw [(h.mats m hm).len]
    rfl
  have e2 : (b.mats.map fun m => facE ⟨p.coefs, false, p.target⟩ m.content b.oxides.length) = b.mats.map (Ad p) := by
    apply List.map_congr_left
    intro m hm
    rw [fac_sumO]
    unfold Ad beE
    rw [(h.mats m hm).len]
    rfl
  unfold sidesB rln2
  rw [List.map_cons, List.map_cons, List.map_nil, e1, e2]

theorem rln_eq {b : Bat} (h : OkB b) : rlnB b = linesB b := by
  rw [lines_exact h]
  have e0 : b.mats.map A1 = b.mats.map fun m => -(m.content.map Sp.lo).sum := by
    apply List.map_congr_left
    intro m hm
    show -(tot m.content).lo = _
    rw [(tot_mat (h.mats m hm) h.ox.2).1]
  have e1 : formsB b = (rformsB b).flatMap fun p => sidesB p.coefs p.target := by
    unfold formsB fmsTo2 fmsTo1 rformsB rfTo
    rw [List.take_of_length_le (Nat.le_refl _), List.flatMap_append, h.shLen]
    congr 1
    rw [List.flatMap_map]
    rfl
  unfold rlnB rlnTo lnE
  rw [List.take_of_length_le (Nat.le_refl _), e0, List.cons_append]
  congr 2
  rw [e1, List.map_flatMap]
  congr 1
  funext p
  exact (sides_fac h).symm

theorem A1_bd {b : Bat} (h : OkB b) {m : Mat} (hm : m ∈ b.mats) : -12000 ≤ A1 m ∧ A1 m ≤ 0 := by
  have := tot_mat (h.mats m hm) h.ox.2
  unfold A1
  omega

theorem Au_bd {b : Bat} (h : OkB b) {p : Prp} (hp : FrmOk p b.oxides.length) {m : Mat} (hm : m ∈ b.mats) : I64 (Au p m) ∧ I64 (Ad p m) := by
  have h1 := ab_ok h hp hm hp.hi
  have h2 := ab_ok h hp hm hp.lo
  have b1 := sumO_bd (o := fun i => p.coefs.getD i 0 - p.target.hi) (l := m.content) (fun i hi => ⟨(h1.at hi).1, (h1.at hi).2.1⟩) h1.hl m.content.length (Nat.le_refl _)
  have b2 := sumO_bd (o := fun i => p.target.lo - p.coefs.getD i 0) (l := m.content) (fun i hi => by have := h2.at hi; omega) h2.hl m.content.length (Nat.le_refl _)
  have := h1.le
  unfold Au Ad abE beE I64
  omega

theorem Blk.grown {w w' : World} {k : Nat} {cs : Array Value} {t : TypeId} {row : Option Nat} (h : Blk w k cs t) (hg : w.grownBy w' row) (hr : row ≠ some k) : Blk w' k cs t := by
  have hl := h.lt
  unfold Blk at *
  rw [hg.block k hl (fun e => hr e.symm)]
  exact h

theorem own_set {w : World} {base : Nat} {e : TypeId} {size : Nat} {v : Value} {n : Nat} {xs : List Value} (h : w.ownsRow base e size v n xs) (p : Addr) (x : Value) (hp : ∀ g, v.ownBlock = some g → g ≠ p.block) : (w.setCell p x).ownsRow base e size v n xs := by
  obtain ⟨h1, h2⟩ := h
  refine ⟨h1, ?_⟩
  rcases h2 with h2 | ⟨g, cap, cur, hv, hg, hh, r⟩
  · exact Or.inl h2
  · refine Or.inr ⟨g, cap, cur, hv, hg, ?_, r⟩
    rw [Below.heap_setCell _ _ _ _ (hp g (by rw [hv]; rfl))]
    exact hh

theorem own_grown {w w' : World} {base : Nat} {e : TypeId} {size : Nat} {v : Value} {n : Nat} {xs : List Value} {row : Option Nat} (h : w.ownsRow base e size v n xs) (hg : w.grownBy w' row) (hr : ∀ g, v.ownBlock = some g → row ≠ some g) : w'.ownsRow base e size v n xs := by
  have hl := own_lt h
  obtain ⟨h1, h2⟩ := h
  refine ⟨h1, ?_⟩
  rcases h2 with h2 | ⟨g, cap, cur, hv, hg', hh, r⟩
  · exact Or.inl h2
  · refine Or.inr ⟨g, cap, cur, hv, hg', ?_, r⟩
    rw [hg.block g (hl g (by rw [hv]; rfl)) (fun e => hr g (by rw [hv]; rfl) e.symm)]
    exact hh

theorem keepLow {B : Nat} {w1 w2 : World} {p : Addr} {x : Value} (hb : Below B w1 w2) (h : w1.cell? p = some x) (hp : p.block < B) : w2.cell? p = some x := by
  rw [hb.cell hp]; exact h

set_option maxHeartbeats 20000000 in
set_option maxRecDepth 100000 in
theorem rlines_any (vb : Value) (b : Bat) (w : World) (h : RBat w vb b) (hk : OkB b) :
    Calls Try.prog 49 #[vb] w (RetLns w (linesB b)) := by
  rw [← rln_eq hk]
  obtain ⟨v0, v1, v2, v3, rfl, h0, h1, h2, h3, i1, i2, i3⟩ := id h
  obtain ⟨a0, k0, rfl, -, ⟨-, l0⟩, -⟩ := h0
  obtain ⟨a1, k1, rfl, -, ⟨-, l1⟩, hl1⟩ := h1
  obtain ⟨a2, k2, rfl, -, ⟨-, l2⟩, -⟩ := h2
  obtain ⟨a3, k3, rfl, -, ⟨-, l3⟩, -⟩ := h3
  obtain ⟨ii, hi, hz0, hz1, hz2⟩ := info_parts info_int
  obtain ⟨il, li, lz0, lz1, lz2⟩ := info_parts info_line
  have hn := hk.ox
  have hmn := hk.mt
  have hw := hk.wanted
  have hA := below_box w (.cells #[.slice a0 b.oxides.length k0, .slice a1 b.mats.length k1, .slice a2 b.shares.length k2, .slice a3 b.props.length k3, .int .i64 b.redox.lo, .int .i64 b.redox.hi, .int .i64 b.wanted] 29)
  have hB := Blk.new w #[.slice a0 b.oxides.length k0, .slice a1 b.mats.length k1, .slice a2 b.shares.length k2, .slice a3 b.props.length k3, .int .i64 b.redox.lo, .int .i64 b.redox.hi, .int .i64 b.wanted] 29
  have hF : Blk ((w.alloc (.cells #[.slice a0 b.oxides.length k0, .slice a1 b.mats.length k1, .slice a2 b.shares.length k2, .slice a3 b.props.length k3, .int .i64 b.redox.lo, .int .i64 b.redox.hi, .int .i64 b.wanted] 29)).alloc (.cells #[.slice none 0 0, .int .i64 (-1000 * b.wanted)] 39)) (w.heap.size + 1) #[.slice none 0 0, .int .i64 (-1000 * b.wanted)] 39 := by
    have := Blk.new (w.alloc (.cells #[.slice a0 b.oxides.length k0, .slice a1 b.mats.length k1, .slice a2 b.shares.length k2, .slice a3 b.props.length k3, .int .i64 b.redox.lo, .int .i64 b.redox.hi, .int .i64 b.wanted] 29)) #[.slice none 0 0, .int .i64 (-1000 * b.wanted)] 39
    simpa using this
  have hA2 := below_two w (.cells #[.slice a0 b.oxides.length k0, .slice a1 b.mats.length k1, .slice a2 b.shares.length k2, .slice a3 b.props.length k3, .int .i64 b.redox.lo, .int .i64 b.redox.hi, .int .i64 b.wanted] 29) (.cells #[.slice none 0 0, .int .i64 (-1000 * b.wanted)] 39)
  have hB2 := hB.alloc (.cells #[.slice none 0 0, .int .i64 (-1000 * b.wanted)] 39)
  have hwI : I64 (-1000 * b.wanted) := by unfold I64; omega
  go_enter Try.func49, Try.ntmps49
  go_wp2
  generalize (w.alloc (.cells #[.slice a0 b.oxides.length k0, .slice a1 b.mats.length k1, .slice a2 b.shares.length k2, .slice a3 b.props.length k3, .int .i64 b.redox.lo, .int .i64 b.redox.hi, .int .i64 b.wanted] 29)).alloc (.cells #[.slice none 0 0, .int .i64 (-1000 * b.wanted)] 39) = W at *
  generalize hbw : -1000 * b.wanted = bw at *
  have HBW := Lib.hid hbw
  clear hbw
  clear hA hB hw
  go_loopw [4] (fun i wr => ∃ (k : Nat) (l : List Int) (v : Value), k ≤ b.mats.length ∧ i = .int .i64 k ∧ Hid (l = (b.mats.take k).map A1) ∧ Blk wr (w.heap.size + 1) #[v, .int .i64 bw] 39 ∧ wr.ownsRow (w.heap.size + 2) 3 1 v l.length (l.map (Value.int .i64)) ∧ Below (w.heap.size + 1) W wr) (fun i _ => b.mats.length - (intOf i).toNat)
  case atStart => exact ⟨0, [], _, Nat.zero_le _, rfl, rfl, hF, World.ownsRow_nil _ _ _ _, Below.refl _ _⟩
  case round =>
    obtain ⟨k, l, v, hkk, rfl, hx, hFr, hown, hb⟩ := hrel
    have hWs : w.heap.size + 2 ≤ W.heap.size := hF.lt
    have hfinB := hA2.trans (hb.mono (by omega))
    have hBr := hB2.below hb (by omega)
    have f1 := hBr.cell 1 (.slice a1 b.mats.length k1) rfl
    by_cases hlt : k < b.mats.length
    · have hbd := A1_bd hk (List.getElem_mem hlt)
      have hll : l.length ≤ 12 := by rw [hx.out]; simp; omega
      have hsn := Lib.hid (show l ++ [A1 (b.mats[k]'hlt)] = (b.mats.take (k + 1)).map A1 by rw [hx.out, List.take_succ_eq_append_getElem hlt, List.map_append, List.map_singleton])
      obtain ⟨b1, o1, rfl, c, ⟨-, -, -, -, -, -, g6⟩, hc, -⟩ := hl1 k hlt
      obtain ⟨ac, kc, rfl, -, -, -⟩ := id hc
      have hbl := cell_lt g6
      simp only at g6 hbl
      replace g6 := ext_of_below hfinB _ _ g6
      have hcr := hc.mono (ext_of_below hfinB)
      have hA1 : Hid (A1 (b.mats[k]'hlt) = -(tot (b.mats[k]'hlt).content).lo) := rfl
      clear hl1 hc hx hk h
      generalize b.mats[k] = m at *
      have e0 : wr.cell? ⟨w.heap.size + 1, 0, none⟩ = some v := hFr.cell 0 _ rfl
      have e1 := hFr.frozen 0
      go_wp2_with fail
      refine (rsums_any _ m.content _ hcr).mono ?_
      rintro e w1 ⟨rfl, rfl⟩
      have hneg : (tot m.content).lo ≤ 12000 ∧ 0 ≤ (tot m.content).lo := by have := hA1.out; omega
      obtain ⟨hn1, hn2⟩ := hneg
      have hszr := hb.size
      have hlt4 : ∀ q, v.ownBlock = some q → w.heap.size + 2 ≤ q ∧ q < wr.heap.size := fun q hq => hown.lt q hq
      have hown2 := hown.alloc (.cells #[.int .i64 (-(tot m.content).lo)] 3)
      have hF2 := hFr.alloc (.cells #[.int .i64 (-(tot m.content).lo)] 3)
      have hvF : v.ownBlock ≠ some (w.heap.size + 1) := fun e => by have := hlt4 _ e; omega
      go_wp2_with (at_builtin; refine wpList_append_lies _ rfl _ _ 37 rfl (w.heap.size + 2) 3 ii (.int .i64 0) 1 8 Try.underlying37 hi hz0 hz1 hz2 rfl (by decide) _ l.length _ rfl hown2 ⟨wr.heap.size, 0, none⟩ 1 1 [.int .i64 (-(tot m.content).lo)] rfl rfl (cell_one_new _ _ _) (by simp [Value.oneCell']) (by omega) (by unfold maxLen; omega) (by omega) (by simp; omega) _ rfl ?_; intro g6 k6 w6 hown6 hgrow6 hat6 hlt6; have hF6 := hF2.grown hgrow6 hvF; have e0' := hF6.cell 0 _ rfl; have e1' := hF6.frozen 0)
      have hg6 : w.heap.size + 2 ≤ g6 := by
        rcases hat6 with hat | hat
        · exact (hlt4 _ hat).1
        · simp at hat; omega
      have hF7 := hF6.set 0 (.slice (some ⟨g6, 0, none⟩) (l.length + 1) k6)
      have hown7 := own_set hown6 ⟨w.heap.size + 1, 0, none⟩ (.slice (some ⟨g6, 0, none⟩) (l.length + 1) k6) (fun g hg => by simp [Value.ownBlock] at hg; subst hg; simp; omega)
      have hb7 := ((hb.alloc (by omega) (.cells #[.int .i64 (-(tot m.content).lo)] 3)).grown hgrow6 (by simp; omega) (fun q hq => by have := hlt4 q hq; omega)).setCell (p := ⟨w.heap.size + 1, 0, none⟩) (by simp) (.slice (some ⟨g6, 0, none⟩) (l.length + 1) k6)
      have hownF : (w6.setCell ⟨w.heap.size + 1, 0, none⟩ (.slice (some ⟨g6, 0, none⟩) (l.length + 1) k6)).ownsRow (w.heap.size + 2) 3 1 (.slice (some ⟨g6, 0, none⟩) (l.length + 1) k6) (l ++ [-(tot m.content).lo]).length ((l ++ [-(tot m.content).lo]).map (Value.int .i64)) := by simpa using hown7
      rw [hA1.out] at hsn
      clear hown7 hown6 hown2 hown hgrow6 hF6 hF2 hFr hat6 e0 e1 e0' e1'
      go_roundw
      case rel => exact ⟨k + 1, _, _, by omega, by go_num, hsn, hF7, hownF, hb7⟩
      case measure => simp [intOf]; omega
    · have hl : l = b.mats.map A1 := by rw [hx.out, List.take_of_length_le (by omega)]
      have hll : l.length = b.mats.length := by rw [hl, List.length_map]
      obtain ⟨gv, kv, rfl, -, -⟩ := hown.form (by omega)
      have hRI := own_RInts hown (by omega) (by rw [hl]; intro x hx; obtain ⟨m, hm, rfl⟩ := List.mem_map.1 hx; have := A1_bd hk hm; unfold I64; omega)
      have e0 : wr.cell? ⟨w.heap.size + 1, 0, none⟩ = some (.slice (some ⟨gv, 0, none⟩) b.mats.length kv) := by rw [← hll]; exact hFr.cell 0 _ rfl
      have hRI2 : RInts wr (.slice (some ⟨gv, 0, none⟩) b.mats.length kv) l := by rw [← hll]; exact hRI
      have hlt0 : w.heap.size < wr.heap.size := hBr.lt
      have e1 : wr.cell? ⟨w.heap.size + 1, 1, none⟩ = some (.int .i64 bw) := hFr.cell 1 _ rfl
      have f0 := hBr.cell 0 (.slice a0 b.oxides.length k0) rfl
      have f2 := hBr.cell 2 (.slice a2 b.shares.length k2) rfl
      have f3 := hBr.cell 3 (.slice a3 b.props.length k3) rfl
      have f4 := hBr.cell 4 (.int .i64 b.redox.lo) rfl
      have f5 := hBr.cell 5 (.int .i64 b.redox.hi) rfl
      have f6 := hBr.cell 6 (.int .i64 b.wanted) rfl
      have hkm : b.mats.length ≤ k := by omega
      have hszr := hb.size
      have hownL := ownLn_one (base := w.heap.size + 2) _ ⟨l, bw⟩ 39 hRI2 hwI (by omega)
      have hW2 := below_box wr (.cells #[.slice (some ⟨gv, 0, none⟩) b.mats.length kv, .int .i64 bw] 39)
      have hA3 := hfinB.trans (hW2.mono hfinB.size)
      have hB3 := hBr.below hW2 hBr.lt
      have HL := Lib.hid hl
      clear hx hown hRI hRI2 hFr hBr hfinB hb hA2 hB2 hF hl hll
      go_wp2_with fail
      generalize hg1 : wr.heap.size = g1 at *
      have hW2g : g1 < (wr.alloc (.cells #[.slice (some ⟨gv, 0, none⟩) b.mats.length kv, .int .i64 bw] 39)).heap.size := by simp; omega
      generalize wr.alloc (.cells #[.slice (some ⟨gv, 0, none⟩) b.mats.length kv, .int .i64 bw] 39) = W2 at *
      clear e0 e1 f0 f1 f2 f3 f4 f5 f6 hg1
      refine (rforms_any (· < w.heap.size) _ b _ (h.mono (ext_vis_all (ext_of_below hA3) (fun _ h => h))) hk).mono ?_
      rintro e w3 ⟨vf, rfl, hvf, hb3⟩
      obtain ⟨qf, rf, rfl, -, ⟨hrf, -⟩, hfl⟩ := id hvf
      have hown3 := hownL.below lnMono hb3
      have hA4 := hA3.trans (hb3.mono hA3.size)
      have hB4 := hB3.below hb3 hB3.lt
      have hs3 := hb3.size
      clear hownL hA3 hB3 hb3 hvf
      go_wp2
      have hg1 : w.heap.size + 2 ≤ g1 ∧ g1 < W2.heap.size := ⟨by omega, hW2g⟩
      have hflen : (rformsB b).length ≤ 18 := by rw [rforms_len]; have := hk.pr; omega
      go_loopw [7, 9] (fun v i wr => ∃ (k : Nat) (l : List Ln), k ≤ (rformsB b).length ∧ i = .int .i64 k ∧ Hid (l = rlnTo b k) ∧ OwnPairs LnIs (fun _ => True) wr (w.heap.size + 2) 39 v l ∧ Below (w.heap.size + 2) w3 wr ∧ SameBut w3.heap.size g1 w3 wr ∧ (∀ q, v.ownBlock = some q → q = g1 ∨ w3.heap.size ≤ q)) (fun _ i _ => (rformsB b).length - (intOf i).toNat)
      case atStart => exact ⟨0, _, Nat.zero_le _, rfl, by unfold Hid rlnTo; rw [List.take_zero, List.flatMap_nil, HBW.out, ← HL.out], hown3, Below.refl _ _, fun _ _ _ => rfl, fun q hq => by simp only [Value.ownBlock, Option.some.injEq] at hq; exact Or.inl hq.symm⟩
      case round =>
        obtain ⟨k, l, hk1, rfl, hx, hown, hb, hsame, hob⟩ := hrel
        clear hown3
        have hfinB := hA4.trans (hb.mono (by omega))
        have hBr := hB4.below hb (by omega)
        have hszr := hb.size
        by_cases hlt : k < (rformsB b).length
        · have hst := Lib.hid (rlnTo_succ b k hlt)
          have hll : l.length ≤ 50 := by rw [hx.out, rlnTo_len b k hk1]; omega
          have hfo := rforms_ok hk _ (List.getElem_mem hlt)
          obtain ⟨b1, o1, rfl, c, ⟨-, g1', g2', g3'⟩, hF, -⟩ := hfl k hlt
          have hE := hsame.ext rfl (S := fun q => q < w.heap.size ∨ W2.heap.size ≤ q) (fun q hq => by rcases hq with h | h <;> omega)
          replace hF := hF.mono hE
          replace g1' := hE _ _ g1'
          replace g2' := hE _ _ g2'
          replace g3' := hE _ _ g3'
          simp only at g1' g2' g3'
          have hbl := cell_lt g1'
          simp only at hbl
          obtain ⟨ac, kc, rfl, -, -, -⟩ := id hF
          have hbd : ∀ m ∈ b.mats, I64 (Au ((rformsB b)[k]'hlt) m) ∧ I64 (Ad ((rformsB b)[k]'hlt) m) := fun m hm => Au_bd hk hfo hm
          have habu : ∀ m ∈ b.mats, AbOk ((rformsB b)[k]'hlt).coefs m.content ((rformsB b)[k]'hlt).target.hi := fun m hm => ab_ok hk hfo hm hfo.hi
          have habd : ∀ m ∈ b.mats, AbOk ((rformsB b)[k]'hlt).coefs m.content ((rformsB b)[k]'hlt).target.lo := fun m hm => ab_ok hk hfo hm hfo.lo
          clear hfl hfo hE
          generalize hff : (rformsB b)[k] = p at *
          clear hff
          go_wp2_with fail
          have hU : Blk ((wr.alloc (.cells #[.slice none 0 0, .int .i64 0] 39)).alloc (.cells #[.slice none 0 0, .int .i64 0] 39)) wr.heap.size #[.slice none 0 0, .int .i64 0] 39 := (Blk.new wr _ _).alloc _
          have hD : Blk ((wr.alloc (.cells #[.slice none 0 0, .int .i64 0] 39)).alloc (.cells #[.slice none 0 0, .int .i64 0] 39)) (wr.heap.size + 1) #[.slice none 0 0, .int .i64 0] 39 := by
            have := Blk.new (wr.alloc (.cells #[.slice none 0 0, .int .i64 0] 39)) #[.slice none 0 0, .int .i64 0] 39
            simpa using this
          have hG := below_two wr (.cells #[.slice none 0 0, .int .i64 0] 39) (.cells #[.slice none 0 0, .int .i64 0] 39)
          generalize (wr.alloc (.cells #[.slice none 0 0, .int .i64 0] 39)).alloc (.cells #[.slice none 0 0, .int .i64 0] 39) = wo at *
          have hnu : w.heap.size + 2 ≤ wr.heap.size := by omega
          have hblu : b1 < wr.heap.size := hbl
          obtain ⟨wx, rfl⟩ : ∃ wx : World, wx = wr := ⟨_, rfl⟩
          go_loopw [12] (fun i wr => ∃ (k2 : Nat) (lu ld : List Int) (vu vd : Value), k2 ≤ b.mats.length ∧ i = .int .i64 k2 ∧ Hid (lu = (b.mats.take k2).map (Au p)) ∧ Hid (ld = (b.mats.take k2).map (Ad p)) ∧ Blk wr wx.heap.size #[vu, .int .i64 0] 39 ∧ Blk wr (wx.heap.size + 1) #[vd, .int .i64 0] 39
            ∧ wr.ownsRow (wx.heap.size + 2) 3 1 vu lu.length (lu.map (Value.int .i64)) ∧ wr.ownsRow (wx.heap.size + 2) 3 1 vd ld.length (ld.map (Value.int .i64)) ∧ (∀ q, vu.ownBlock = some q → vd.ownBlock ≠ some q) ∧ Below wx.heap.size wo wr) (fun i _ => b.mats.length - (intOf i).toNat)
          case atStart => exact ⟨0, [], [], _, _, Nat.zero_le _, rfl, rfl, rfl, hU, hD, World.ownsRow_nil _ _ _ _, World.ownsRow_nil _ _ _ _, fun q hq => by simp [Value.ownBlock] at hq, Below.refl _ _⟩
          case round =>
            obtain ⟨k2, lu, ld, vu, vd, hk2, rfl, hxu, hxd, hUi, hDi, hownu, hownd, hsep, hbi⟩ := hrel
            have hGi := hG.trans (hbi.mono (Nat.le_refl _))
            have hfin2 := hfinB.trans (hGi.mono hfinB.size)
            have hBi := hBr.below hGi hBr.lt
            have hwos : wx.heap.size + 2 ≤ wo.heap.size := hD.lt
            have hwis := hbi.size
            have f1 := hBi.cell 1 (.slice a1 b.mats.length k1) rfl
            by_cases hlt2 : k2 < b.mats.length
            · have hsnu := Lib.hid (show lu ++ [Au p (b.mats[k2]'hlt2)] = (b.mats.take (k2 + 1)).map (Au p) by rw [hxu.out, List.take_succ_eq_append_getElem hlt2, List.map_append, List.map_singleton])
              have hsnd := Lib.hid (show ld ++ [Ad p (b.mats[k2]'hlt2)] = (b.mats.take (k2 + 1)).map (Ad p) by rw [hxd.out, List.take_succ_eq_append_getElem hlt2, List.map_append, List.map_singleton])
              have hlu : lu.length ≤ 12 := by rw [hxu.out]; simp; omega
              have hld : ld.length ≤ 12 := by rw [hxd.out]; simp; omega
              have habu2 := habu _ (List.getElem_mem hlt2)
              have habd2 := habd _ (List.getElem_mem hlt2)
              obtain ⟨b2, o2, rfl, c2, ⟨-, -, -, -, -, -, q6⟩, hc2, -⟩ := hl1 k2 hlt2
              obtain ⟨ac2, kc2, rfl, -, -, -⟩ := id hc2
              have hbl2 := cell_lt q6
              simp only at q6 hbl2
              replace q6 := ext_of_below hfin2 _ _ q6
              have hcr := hc2.mono (ext_of_below hfin2)
              have r1 := ext_of_below hGi _ _ g1'
              have r2 := ext_of_below hGi _ _ g2'
              have r3 := ext_of_below hGi _ _ g3'
              have hFr := hF.mono (ext_of_below hGi)
              have u0 : wr.cell? ⟨wx.heap.size, 0, none⟩ = some vu := hUi.cell 0 _ rfl
              have u1 := hUi.frozen 0
              have d0 : wr.cell? ⟨wx.heap.size + 1, 0, none⟩ = some vd := hDi.cell 0 _ rfl
              have d1 := hDi.frozen 0
              have hAu : Hid (Au p (b.mats[k2]'hlt2) = abE p.coefs (b.mats[k2]'hlt2).content p.target.hi (b.mats[k2]'hlt2).content.length) := rfl
              have hAd : Hid (Ad p (b.mats[k2]'hlt2) = beE p.coefs (b.mats[k2]'hlt2).content p.target.lo (b.mats[k2]'hlt2).content.length) := rfl
              have hFx := hF
              clear hl1 hxu hxd habu habd hbd hF g1' g2' g3' h hk
              generalize b.mats[k2] = m at *
              have j1 : (0 : Int) ≤ (k : Int) := Int.natCast_nonneg _
              have j2 : (k : Int) < ((rformsB b).length : Int) := by omega
              have j3 : (0 : Int) ≤ (k2 : Int) := Int.natCast_nonneg _
              have j4 : (k2 : Int) < (b.mats.length : Int) := by omega
              have hsU : wx.heap.size < wr.heap.size := by omega
              have hsD : wx.heap.size + 1 < wr.heap.size := by omega
              have hb2x : b2 < wx.heap.size := by have := hA4.size; omega
              have hltu : ∀ q, vu.ownBlock = some q → wx.heap.size + 2 ≤ q ∧ q < wr.heap.size := fun q hq => hownu.lt q hq
              have hltd : ∀ q, vd.ownBlock = some q → wx.heap.size + 2 ≤ q ∧ q < wr.heap.size := fun q hq => hownd.lt q hq
              go_wp2_with fail
              have hab := above_any (.slice ac p.coefs.length kc) (.slice ac2 m.content.length kc2) p.coefs m.content p.target.hi wr.drew (hFr.mono (ext_drew _)) (hcr.mono (ext_drew _)) habu2
              have hownD := Lib.hid hownu
              have hBD := Lib.hid hUi
              have hvU : vu.ownBlock ≠ some wx.heap.size := fun e => by have := hltu _ e; omega
              have hn1 : vu.ownBlock ≠ some b1 := fun e => by have := hltu _ e; omega
              have hn2 : vu.ownBlock ≠ some w.heap.size := fun e => by have := hltu _ e; omega
              have hn3 : vu.ownBlock ≠ some b2 := fun e => by have := hltu _ e; omega
              clear hownu
              refine wp_region_till (fun w' => w'.cell? ⟨wx.heap.size, 0, none⟩ = some vu ∧ w'.cell? ⟨b1, o1 + k * 4 + 1, none⟩ = some (.slice ac p.coefs.length kc) ∧ w'.cell? ⟨b1, o1 + k * 4 + 2 + 1, none⟩ = some (.int .i64 p.target.hi) ∧ w'.cell? ⟨w.heap.size, 1, none⟩ = some (.slice (some ⟨b2, o2, none⟩) b.mats.length k1) ∧ w'.cell? ⟨b2, o2 + k2 * 7 + 6, none⟩ = some (.slice ac2 m.content.length kc2)) 23 (by kernel_rfl) ⟨u0, r1, r3, f1, q6⟩ (fun hHeld => ?_)
              refine Till.take 0 (some 64) (v := ?_) rfl rfl (by kernel_rfl) (by kernel_rfl) (by kernel_rfl) (by kernel_rfl) (fun _ _ _ h => h) (Or.inl ⟨by rfl, ?_⟩) (by assumption) ?_
              rotate_left
              · (intro w hSw; (try dsimp only at hSw); go_simp; try with_reducible rfl)
              try simp only [Act.put, List.setIfInBounds_toArray, List.set_cons_zero, List.set_cons_succ]
              refine Till.take 1 (some 65) (v := ?_) rfl rfl (by kernel_rfl) (by kernel_rfl) (by kernel_rfl) (by kernel_rfl) (fun _ _ _ h => h) (Or.inl ⟨by rfl, ?_⟩) (by assumption) ?_
              rotate_left
              · (intro w hSw; (try dsimp only at hSw); go_simp; try with_reducible rfl)
              try simp only [Act.put, List.setIfInBounds_toArray, List.set_cons_zero, List.set_cons_succ]
              refine Till.take 2 (some 66) (v := ?_) rfl rfl (by kernel_rfl) (by kernel_rfl) (by kernel_rfl) (by kernel_rfl) (fun _ _ _ h => h) (Or.inl ⟨by rfl, ?_⟩) (by assumption) ?_
              rotate_left
              · (intro w hSw; (try dsimp only at hSw); go_simp; try with_reducible rfl)
              try simp only [Act.put, List.setIfInBounds_toArray, List.set_cons_zero, List.set_cons_succ]
              refine Till.take 3 (some 67) (v := ?_) rfl rfl (by kernel_rfl) (by kernel_rfl) (by kernel_rfl) (by kernel_rfl) (fun _ _ _ h => h) (Or.inl ⟨by rfl, ?_⟩) (by assumption) ?_
              rotate_left
              · (intro w hSw; (try dsimp only at hSw); go_simp; try with_reducible rfl)
              try simp only [Act.put, List.setIfInBounds_toArray, List.set_cons_zero, List.set_cons_succ]
              refine Till.take 4 (some 68) (v := ?_) rfl rfl (by kernel_rfl) (by kernel_rfl) (by kernel_rfl) (by kernel_rfl) (fun _ _ _ h => h) (Or.inl ⟨by rfl, ?_⟩) (by assumption) ?_
              rotate_left
              · (intro w hSw; (try dsimp only at hSw); go_simp; try with_reducible rfl)
              try simp only [Act.put, List.setIfInBounds_toArray, List.set_cons_zero, List.set_cons_succ]
              refine Till.take 5 (some 69) (v := ?_) rfl rfl (by kernel_rfl) (by kernel_rfl) (by kernel_rfl) (by kernel_rfl) (fun _ _ _ h => h) (Or.inl ⟨by rfl, ?_⟩) (by assumption) ?_
              rotate_left
              · (intro w hSw; (try dsimp only at hSw); go_simp; try with_reducible rfl)
              try simp only [Act.put, List.setIfInBounds_toArray, List.set_cons_zero, List.set_cons_succ]
              refine Till.take 6 (some 70) (v := ?_) rfl rfl (by kernel_rfl) (by kernel_rfl) (by kernel_rfl) (by kernel_rfl) (fun _ _ _ h => h) (Or.inl ⟨by rfl, ?_⟩) (by assumption) ?_
              rotate_left
              · (intro w hSw; (try dsimp only at hSw); go_simp; try with_reducible rfl)
              try simp only [Act.put, List.setIfInBounds_toArray, List.set_cons_zero, List.set_cons_succ]
              refine Till.take 7 (some 71) (v := ?_) rfl rfl (by kernel_rfl) (by kernel_rfl) (by kernel_rfl) (by kernel_rfl) (fun _ _ _ h => h) (Or.inl ⟨by rfl, ?_⟩) (by assumption) ?_
              rotate_left
              · (intro w hSw; (try dsimp only at hSw); go_simp; try with_reducible rfl)
              try simp only [Act.put, List.setIfInBounds_toArray, List.set_cons_zero, List.set_cons_succ]
              refine Till.take 8 (some 72) (v := ?_) rfl rfl (by kernel_rfl) (by kernel_rfl) (by kernel_rfl) (by kernel_rfl) (fun _ _ _ h => h) (Or.inl ⟨by rfl, ?_⟩) (by assumption) ?_
              rotate_left
              · (intro w hSw; (try dsimp only at hSw); go_simp; try with_reducible rfl)
              try simp only [Act.put, List.setIfInBounds_toArray, List.set_cons_zero, List.set_cons_succ]
              refine Till.take 9 (some 73) (v := ?_) rfl rfl (by kernel_rfl) (by kernel_rfl) (by kernel_rfl) (by kernel_rfl) (fun _ _ _ h => h) (Or.inl ⟨by rfl, ?_⟩) (by assumption) ?_
              rotate_left
              · (intro w hSw; (try dsimp only at hSw); go_simp; try with_reducible rfl)
              try simp only [Act.put, List.setIfInBounds_toArray, List.set_cons_zero, List.set_cons_succ]
              refine Till.take 10 (some 74) (v := ?_) rfl rfl (by kernel_rfl) (by kernel_rfl) (by kernel_rfl) (by kernel_rfl) (fun _ _ _ h => h) (Or.inl ⟨by rfl, ?_⟩) (by assumption) ?_
              rotate_left
              · (intro w hSw; (try dsimp only at hSw); go_simp; try with_reducible rfl)
              try simp only [Act.put, List.setIfInBounds_toArray, List.set_cons_zero, List.set_cons_succ]
              refine Till.take 11 (some 75) (v := ?_) rfl rfl (by kernel_rfl) (by kernel_rfl) (by kernel_rfl) (by kernel_rfl) (fun _ _ _ h => h) (Or.inl ⟨by rfl, ?_⟩) (by assumption) ?_
              rotate_left
              · (intro w hSw; (try dsimp only at hSw); go_simp; try with_reducible rfl)
              try simp only [Act.put, List.setIfInBounds_toArray, List.set_cons_zero, List.set_cons_succ]
              refine Till.take 12 (some 76) (v := ?_) rfl rfl (by kernel_rfl) (by kernel_rfl) (by kernel_rfl) (by kernel_rfl) (fun _ _ _ h => h) (Or.inl ⟨by rfl, ?_⟩) (by assumption) ?_
              rotate_left
              · (intro w hSw; (try dsimp only at hSw); go_simp; try with_reducible rfl)
              try simp only [Act.put, List.setIfInBounds_toArray, List.set_cons_zero, List.set_cons_succ]
              refine Till.take 13 (some 77) (v := ?_) rfl rfl (by kernel_rfl) (by kernel_rfl) (by kernel_rfl) (by kernel_rfl) (fun _ _ _ h => h) (Or.inl ⟨by rfl, ?_⟩) (by assumption) ?_
              rotate_left
              · (intro w hSw; (try dsimp only at hSw); go_simp; try with_reducible rfl)
              try simp only [Act.put, List.setIfInBounds_toArray, List.set_cons_zero, List.set_cons_succ]
              refine Till.take 14 (some 78) (v := ?_) rfl rfl (by kernel_rfl) (by kernel_rfl) (by kernel_rfl) (by kernel_rfl) (fun _ _ _ h => h) (Or.inl ⟨by rfl, ?_⟩) (by assumption) ?_
              rotate_left
              · (intro w hSw; (try dsimp only at hSw); go_simp; try with_reducible rfl)
              try simp only [Act.put, List.setIfInBounds_toArray, List.set_cons_zero, List.set_cons_succ]
              refine Till.take 15 (some 79) (v := ?_) rfl rfl (by kernel_rfl) (by kernel_rfl) (by kernel_rfl) (by kernel_rfl) (fun _ _ _ h => h) (Or.inl ⟨by rfl, ?_⟩) (by assumption) ?_
              rotate_left
              · (intro w hSw; (try dsimp only at hSw); go_simp; try with_reducible rfl)
              try simp only [Act.put, List.setIfInBounds_toArray, List.set_cons_zero, List.set_cons_succ]
              refine Till.take 16 (some 80) (v := ?_) rfl rfl (by kernel_rfl) (by kernel_rfl) (by kernel_rfl) (by kernel_rfl) (fun _ _ _ h => h) (Or.inl ⟨by rfl, ?_⟩) (by assumption) ?_
              rotate_left
              · (intro w hSw; (try dsimp only at hSw); go_simp; try with_reducible rfl)
              try simp only [Act.put, List.setIfInBounds_toArray, List.set_cons_zero, List.set_cons_succ]
              refine Till.take 17 (some 81) (v := ?_) rfl rfl (by kernel_rfl) (by kernel_rfl) (by kernel_rfl) (by kernel_rfl) (fun _ _ _ h => h) (Or.inl ⟨by rfl, ?_⟩) (by assumption) ?_
              rotate_left
              · (intro w hSw; (try dsimp only at hSw); go_simp; try with_reducible rfl)
              try simp only [Act.put, List.setIfInBounds_toArray, List.set_cons_zero, List.set_cons_succ]
              refine Till.take 18 (some 82) (v := ?_) rfl rfl (by kernel_rfl) (by kernel_rfl) (by kernel_rfl) (by kernel_rfl) (fun _ _ _ h => h) (Or.inl ⟨by rfl, ?_⟩) (by assumption) ?_
              rotate_left
              · (intro w hSw; (try dsimp only at hSw); go_simp; try with_reducible rfl)
              try simp only [Act.put, List.setIfInBounds_toArray, List.set_cons_zero, List.set_cons_succ]
              refine Till.one 19 rfl (by kernel_rfl) (fun K hK => ?_)
              go_simp
              go_at_call 99
              refine hab.mono ?_
              rintro e wA ⟨rfl, hbA⟩
              refine hK.out _ _ (fun _ => ⟨keepCell hbA u0, keepCell hbA r1, keepCell hbA r3, keepCell hbA f1, keepCell hbA q6⟩) (fun hHeld2 => ?_)
              clear hK K
              try simp only [Act.put, List.setIfInBounds_toArray, List.set_cons_zero, List.set_cons_succ]
              have hA20 := below_box wA (.cells #[.int .i64 (abE p.coefs m.content p.target.hi m.content.length)] 3)
              have hbA2 : Below wr.heap.size wr wA := ((Below.refl _ _).drew).trans (hbA.mono (Nat.le_refl _))
              have hownA := (own_below (own_drew hownD.out) hbA (own_lt (own_drew hownD.out))).alloc (.cells #[.int .i64 (abE p.coefs m.content p.target.hi m.content.length)] 3)
              have hUA := (Blk.below (w := wr.drew) hBD.out hbA hsU).alloc (.cells #[.int .i64 (abE p.coefs m.content p.target.hi m.content.length)] 3)
              have hsA : wr.heap.size ≤ wA.heap.size := hbA2.size
              refine Till.one 20 rfl (by kernel_rfl) (fun K hK => ?_)
              go_simp
              refine hK.out _ _ (fun _ => ⟨keepCell hA20 (hHeld2 (by decide)).1, keepCell hA20 (hHeld2 (by decide)).2.1, keepCell hA20 (hHeld2 (by decide)).2.2.1, keepCell hA20 (hHeld2 (by decide)).2.2.2.1, keepCell hA20 (hHeld2 (by decide)).2.2.2.2⟩) (fun hHeld3 => ?_)
              clear hK K
              try simp only [Act.put, List.setIfInBounds_toArray, List.set_cons_zero, List.set_cons_succ]
              refine Till.one 21 rfl (by kernel_rfl) (fun K hK => ?_)
              refine step_append_lies _ (by rfl) _ _ _ (by rfl) (wx.heap.size + 2) 3 ii _ 1 8 Try.underlying37 hi hz0 hz1 hz2 rfl (by omega) _ lu.length _ (by rfl) hownA ⟨wA.heap.size, 0, none⟩ 1 1 [.int .i64 (abE p.coefs m.content p.target.hi m.content.length)] (by rfl) (by rfl) (cell_one_new _ _ _) (by simp [Value.oneCell']) (by omega) (by unfold maxLen; omega) (by omega) (by simp; omega) _ rfl ?_
              intro g6 k6 w6 hown6 hgrow6 hat6 hlt6
              have hU6 := hUA.grown hgrow6 hvU
              have e0' := hU6.cell 0 _ rfl
              have e1' := hU6.frozen 0
              refine hK.out _ _ (fun _ => ⟨e0', hgrow6.cell (hHeld3 (by decide)).2.1 (fun e => hn1 e.symm), hgrow6.cell (hHeld3 (by decide)).2.2.1 (fun e => hn1 e.symm), hgrow6.cell (hHeld3 (by decide)).2.2.2.1 (fun e => hn2 e.symm), hgrow6.cell (hHeld3 (by decide)).2.2.2.2 (fun e => hn3 e.symm)⟩) (fun hHeld4 => ?_)
              clear hK K
              try simp only [Act.put, List.setIfInBounds_toArray]
              refine Till.one 22 rfl (by kernel_rfl) (fun K hK => ?_)
              go_simp
              refine hK.out _ _ (fun _ => hHeld4 (by decide)) (fun hHeld5 => ?_)
              clear hK K
              try simp only [Act.put]
              refine Till.one 23 rfl (by kernel_rfl) (fun K hK => ?_)
              go_simp
              refine hK.out _ _ (fun h => absurd rfl h) (fun _ => ?_)
              clear hK K
              refine Till.done (by kernel_rfl) ?_ _
              have hg6 : wx.heap.size + 2 ≤ g6 ∧ g6 ≠ wx.heap.size ∧ g6 ≠ wx.heap.size + 1 := by
                rcases hat6 with hat | hat
                · have := hltu _ hat; omega
                · simp at hat; omega
              have hbW7 : Below wx.heap.size wr (w6.setCell ⟨wx.heap.size, 0, none⟩ (.slice (some ⟨g6, 0, none⟩) (lu.length + 1) k6)) := ((((hbA2.mono (by omega)).alloc (by omega) (.cells #[.int .i64 (abE p.coefs m.content p.target.hi m.content.length)] 3)).grown hgrow6 (by simp; omega) (fun q hq => by have := hltu q hq; omega)).setCell (p := ⟨wx.heap.size, 0, none⟩) (by simp) (.slice (some ⟨g6, 0, none⟩) (lu.length + 1) k6))
              have hU7 := hU6.set 0 (.slice (some ⟨g6, 0, none⟩) (lu.length + 1) k6)
              have hD7 : Blk (w6.setCell ⟨wx.heap.size, 0, none⟩ (.slice (some ⟨g6, 0, none⟩) (lu.length + 1) k6)) (wx.heap.size + 1) #[vd, .int .i64 0] 39 := ((((Blk.below (w := wr.drew) hDi hbA hsD).alloc (.cells #[.int .i64 (abE p.coefs m.content p.target.hi m.content.length)] 3)).grown hgrow6 (fun e => by have := hltu _ e; omega)).other ⟨wx.heap.size, 0, none⟩ (.slice (some ⟨g6, 0, none⟩) (lu.length + 1) k6) (by simp))
              have hownu7 := own_set hown6 ⟨wx.heap.size, 0, none⟩ (.slice (some ⟨g6, 0, none⟩) (lu.length + 1) k6) (fun g hg => by simp only [Value.ownBlock, Option.some.injEq] at hg; subst hg; exact hg6.2.1)
              have hownd7 := own_set (own_grown ((own_below (own_drew hownd) hbA (own_lt (own_drew hownd))).alloc (.cells #[.int .i64 (abE p.coefs m.content p.target.hi m.content.length)] 3)) hgrow6 (fun g hg e => hsep _ e hg)) ⟨wx.heap.size, 0, none⟩ (.slice (some ⟨g6, 0, none⟩) (lu.length + 1) k6) (fun g hg => by have := hltd g hg; simp only; omega)
              have hsz67 : wr.heap.size ≤ w6.heap.size := by have := hgrow6.size; simp at this; omega
              have hsep7 : ∀ q, vd.ownBlock = some q → q ≠ g6 := fun q hq e => by
                subst e
                rcases hat6 with hat | hat
                · exact hsep _ hat hq
                · have := hltd _ hq; simp at hat; omega
              have hg6s : g6 < w6.heap.size := hlt6
              clear hab hownD hBD hvU hn1 hn2 hn3 hHeld hHeld2 hHeld3 hHeld4 hHeld5 hA20 hbA2 hownA hUA hsA hown6 hgrow6 hat6 hlt6 hU6 e0' e1' hbA hUi hDi hownd hsep u0 u1 d0 d1 hltd hltu
              have hs6e : (w6.setCell ⟨wx.heap.size, 0, none⟩ (.slice (some ⟨g6, 0, none⟩) (lu.length + 1) k6)).heap.size = w6.heap.size := by simp
              generalize w6.setCell ⟨wx.heap.size, 0, none⟩ (.slice (some ⟨g6, 0, none⟩) (lu.length + 1) k6) = W7 at *
              have hltd7 : ∀ q, vd.ownBlock = some q → wx.heap.size + 2 ≤ q ∧ q < W7.heap.size := fun q hq => hownd7.lt q hq
              have x0 : W7.cell? ⟨wx.heap.size + 1, 0, none⟩ = some vd := hD7.cell 0 _ rfl
              have x1 := keepLow hbW7 r1 hbl
              have x2 := keepLow hbW7 r2 hbl
              have xf := keepLow hbW7 f1 (by simp only; omega)
              have xq := keepLow hbW7 q6 (by simp only; omega)
              have hG7 := hGi.trans hbW7
              have hF7 := hFx.mono (ext_of_below hG7)
              have hfin7 := hfinB.trans (hG7.mono hfinB.size)
              have hc7 := hc2.mono (ext_of_below hfin7)
              have hs7 : wx.heap.size + 1 < W7.heap.size := hD7.lt
              go_wp2_with fail
              have hab := below_any (.slice ac p.coefs.length kc) (.slice ac2 m.content.length kc2) p.coefs m.content p.target.lo W7.drew (hF7.mono (ext_drew _)) (hc7.mono (ext_drew _)) habd2
              have hownD := Lib.hid hownd7
              have hBD := Lib.hid hD7
              have hvU : vd.ownBlock ≠ some (wx.heap.size + 1) := fun e => by have := hltd7 _ e; omega
              have hn1 : vd.ownBlock ≠ some b1 := fun e => by have := hltd7 _ e; omega
              have hn2 : vd.ownBlock ≠ some w.heap.size := fun e => by have := hltd7 _ e; omega
              have hn3 : vd.ownBlock ≠ some b2 := fun e => by have := hltd7 _ e; omega
              clear hownd7
              refine wp_region_till (fun w' => w'.cell? ⟨wx.heap.size + 1, 0, none⟩ = some vd ∧ w'.cell? ⟨b1, o1 + k * 4 + 1, none⟩ = some (.slice ac p.coefs.length kc) ∧ w'.cell? ⟨b1, o1 + k * 4 + 2, none⟩ = some (.int .i64 p.target.lo) ∧ w'.cell? ⟨w.heap.size, 1, none⟩ = some (.slice (some ⟨b2, o2, none⟩) b.mats.length k1) ∧ w'.cell? ⟨b2, o2 + k2 * 7 + 6, none⟩ = some (.slice ac2 m.content.length kc2)) 23 (by kernel_rfl) ⟨x0, x1, x2, xf, xq⟩ (fun hHeld => ?_)
              refine Till.take 0 (some 87) (v := ?_) rfl rfl (by kernel_rfl) (by kernel_rfl) (by kernel_rfl) (by kernel_rfl) (fun _ _ _ h => h) (Or.inl ⟨by rfl, ?_⟩) (by assumption) ?_
              rotate_left
              · (intro w hSw; (try dsimp only at hSw); go_simp; try with_reducible rfl)
              try simp only [Act.put, List.setIfInBounds_toArray, List.set_cons_zero, List.set_cons_succ]
              refine Till.take 1 (some 88) (v := ?_) rfl rfl (by kernel_rfl) (by kernel_rfl) (by kernel_rfl) (by kernel_rfl) (fun _ _ _ h => h) (Or.inl ⟨by rfl, ?_⟩) (by assumption) ?_
              rotate_left
              · (intro w hSw; (try dsimp only at hSw); go_simp; try with_reducible rfl)
              try simp only [Act.put, List.setIfInBounds_toArray, List.set_cons_zero, List.set_cons_succ]
              refine Till.take 2 (some 89) (v := ?_) rfl rfl (by kernel_rfl) (by kernel_rfl) (by kernel_rfl) (by kernel_rfl) (fun _ _ _ h => h) (Or.inl ⟨by rfl, ?_⟩) (by assumption) ?_
              rotate_left
              · (intro w hSw; (try dsimp only at hSw); go_simp; try with_reducible rfl)
              try simp only [Act.put, List.setIfInBounds_toArray, List.set_cons_zero, List.set_cons_succ]
              refine Till.take 3 (some 90) (v := ?_) rfl rfl (by kernel_rfl) (by kernel_rfl) (by kernel_rfl) (by kernel_rfl) (fun _ _ _ h => h) (Or.inl ⟨by rfl, ?_⟩) (by assumption) ?_
              rotate_left
              · (intro w hSw; (try dsimp only at hSw); go_simp; try with_reducible rfl)
              try simp only [Act.put, List.setIfInBounds_toArray, List.set_cons_zero, List.set_cons_succ]
              refine Till.take 4 (some 91) (v := ?_) rfl rfl (by kernel_rfl) (by kernel_rfl) (by kernel_rfl) (by kernel_rfl) (fun _ _ _ h => h) (Or.inl ⟨by rfl, ?_⟩) (by assumption) ?_
              rotate_left
              · (intro w hSw; (try dsimp only at hSw); go_simp; try with_reducible rfl)
              try simp only [Act.put, List.setIfInBounds_toArray, List.set_cons_zero, List.set_cons_succ]
              refine Till.take 5 (some 92) (v := ?_) rfl rfl (by kernel_rfl) (by kernel_rfl) (by kernel_rfl) (by kernel_rfl) (fun _ _ _ h => h) (Or.inl ⟨by rfl, ?_⟩) (by assumption) ?_
              rotate_left
              · (intro w hSw; (try dsimp only at hSw); go_simp; try with_reducible rfl)
              try simp only [Act.put, List.setIfInBounds_toArray, List.set_cons_zero, List.set_cons_succ]
              refine Till.take 6 (some 93) (v := ?_) rfl rfl (by kernel_rfl) (by kernel_rfl) (by kernel_rfl) (by kernel_rfl) (fun _ _ _ h => h) (Or.inl ⟨by rfl, ?_⟩) (by assumption) ?_
              rotate_left
              · (intro w hSw; (try dsimp only at hSw); go_simp; try with_reducible rfl)
              try simp only [Act.put, List.setIfInBounds_toArray, List.set_cons_zero, List.set_cons_succ]
              refine Till.take 7 (some 94) (v := ?_) rfl rfl (by kernel_rfl) (by kernel_rfl) (by kernel_rfl) (by kernel_rfl) (fun _ _ _ h => h) (Or.inl ⟨by rfl, ?_⟩) (by assumption) ?_
              rotate_left
              · (intro w hSw; (try dsimp only at hSw); go_simp; try with_reducible rfl)
              try simp only [Act.put, List.setIfInBounds_toArray, List.set_cons_zero, List.set_cons_succ]
              refine Till.take 8 (some 95) (v := ?_) rfl rfl (by kernel_rfl) (by kernel_rfl) (by kernel_rfl) (by kernel_rfl) (fun _ _ _ h => h) (Or.inl ⟨by rfl, ?_⟩) (by assumption) ?_
              rotate_left
              · (intro w hSw; (try dsimp only at hSw); go_simp; try with_reducible rfl)
              try simp only [Act.put, List.setIfInBounds_toArray, List.set_cons_zero, List.set_cons_succ]
              refine Till.take 9 (some 96) (v := ?_) rfl rfl (by kernel_rfl) (by kernel_rfl) (by kernel_rfl) (by kernel_rfl) (fun _ _ _ h => h) (Or.inl ⟨by rfl, ?_⟩) (by assumption) ?_
              rotate_left
              · (intro w hSw; (try dsimp only at hSw); go_simp; try with_reducible rfl)
              try simp only [Act.put, List.setIfInBounds_toArray, List.set_cons_zero, List.set_cons_succ]
              refine Till.take 10 (some 97) (v := ?_) rfl rfl (by kernel_rfl) (by kernel_rfl) (by kernel_rfl) (by kernel_rfl) (fun _ _ _ h => h) (Or.inl ⟨by rfl, ?_⟩) (by assumption) ?_
              rotate_left
              · (intro w hSw; (try dsimp only at hSw); go_simp; try with_reducible rfl)
              try simp only [Act.put, List.setIfInBounds_toArray, List.set_cons_zero, List.set_cons_succ]
              refine Till.take 11 (some 98) (v := ?_) rfl rfl (by kernel_rfl) (by kernel_rfl) (by kernel_rfl) (by kernel_rfl) (fun _ _ _ h => h) (Or.inl ⟨by rfl, ?_⟩) (by assumption) ?_
              rotate_left
              · (intro w hSw; (try dsimp only at hSw); go_simp; try with_reducible rfl)
              try simp only [Act.put, List.setIfInBounds_toArray, List.set_cons_zero, List.set_cons_succ]
              refine Till.take 12 (some 99) (v := ?_) rfl rfl (by kernel_rfl) (by kernel_rfl) (by kernel_rfl) (by kernel_rfl) (fun _ _ _ h => h) (Or.inl ⟨by rfl, ?_⟩) (by assumption) ?_
              rotate_left
              · (intro w hSw; (try dsimp only at hSw); go_simp; try with_reducible rfl)
              try simp only [Act.put, List.setIfInBounds_toArray, List.set_cons_zero, List.set_cons_succ]
              refine Till.take 13 (some 100) (v := ?_) rfl rfl (by kernel_rfl) (by kernel_rfl) (by kernel_rfl) (by kernel_rfl) (fun _ _ _ h => h) (Or.inl ⟨by rfl, ?_⟩) (by assumption) ?_
              rotate_left
              · (intro w hSw; (try dsimp only at hSw); go_simp; try with_reducible rfl)
              try simp only [Act.put, List.setIfInBounds_toArray, List.set_cons_zero, List.set_cons_succ]
              refine Till.take 14 (some 101) (v := ?_) rfl rfl (by kernel_rfl) (by kernel_rfl) (by kernel_rfl) (by kernel_rfl) (fun _ _ _ h => h) (Or.inl ⟨by rfl, ?_⟩) (by assumption) ?_
              rotate_left
              · (intro w hSw; (try dsimp only at hSw); go_simp; try with_reducible rfl)
              try simp only [Act.put, List.setIfInBounds_toArray, List.set_cons_zero, List.set_cons_succ]
              refine Till.take 15 (some 102) (v := ?_) rfl rfl (by kernel_rfl) (by kernel_rfl) (by kernel_rfl) (by kernel_rfl) (fun _ _ _ h => h) (Or.inl ⟨by rfl, ?_⟩) (by assumption) ?_
              rotate_left
              · (intro w hSw; (try dsimp only at hSw); go_simp; try with_reducible rfl)
              try simp only [Act.put, List.setIfInBounds_toArray, List.set_cons_zero, List.set_cons_succ]
              refine Till.take 16 (some 103) (v := ?_) rfl rfl (by kernel_rfl) (by kernel_rfl) (by kernel_rfl) (by kernel_rfl) (fun _ _ _ h => h) (Or.inl ⟨by rfl, ?_⟩) (by assumption) ?_
              rotate_left
              · (intro w hSw; (try dsimp only at hSw); go_simp; try with_reducible rfl)
              try simp only [Act.put, List.setIfInBounds_toArray, List.set_cons_zero, List.set_cons_succ]
              refine Till.take 17 (some 104) (v := ?_) rfl rfl (by kernel_rfl) (by kernel_rfl) (by kernel_rfl) (by kernel_rfl) (fun _ _ _ h => h) (Or.inl ⟨by rfl, ?_⟩) (by assumption) ?_
              rotate_left
              · (intro w hSw; (try dsimp only at hSw); go_simp; try with_reducible rfl)
              try simp only [Act.put, List.setIfInBounds_toArray, List.set_cons_zero, List.set_cons_succ]
              refine Till.take 18 (some 105) (v := ?_) rfl rfl (by kernel_rfl) (by kernel_rfl) (by kernel_rfl) (by kernel_rfl) (fun _ _ _ h => h) (Or.inl ⟨by rfl, ?_⟩) (by assumption) ?_
              rotate_left
              · (intro w hSw; (try dsimp only at hSw); go_simp; try with_reducible rfl)
              try simp only [Act.put, List.setIfInBounds_toArray, List.set_cons_zero, List.set_cons_succ]
              refine Till.one 19 rfl (by kernel_rfl) (fun K hK => ?_)
              go_simp
              go_at_call 100
              refine hab.mono ?_
              rintro e wA ⟨rfl, hbA⟩
              refine hK.out _ _ (fun _ => ⟨keepCell hbA x0, keepCell hbA x1, keepCell hbA x2, keepCell hbA xf, keepCell hbA xq⟩) (fun hHeld2 => ?_)
              clear hK K
              try simp only [Act.put, List.setIfInBounds_toArray, List.set_cons_zero, List.set_cons_succ]
              have hA20 := below_box wA (.cells #[.int .i64 (beE p.coefs m.content p.target.lo m.content.length)] 3)
              have hbA2 : Below W7.heap.size W7 wA := ((Below.refl _ _).drew).trans (hbA.mono (Nat.le_refl _))
              have hownA := (own_below (own_drew hownD.out) hbA (own_lt (own_drew hownD.out))).alloc (.cells #[.int .i64 (beE p.coefs m.content p.target.lo m.content.length)] 3)
              have hUA := (Blk.below (w := W7.drew) hBD.out hbA hs7).alloc (.cells #[.int .i64 (beE p.coefs m.content p.target.lo m.content.length)] 3)
              have hsA : W7.heap.size ≤ wA.heap.size := hbA2.size
              refine Till.one 20 rfl (by kernel_rfl) (fun K hK => ?_)
              go_simp
              refine hK.out _ _ (fun _ => ⟨keepCell hA20 (hHeld2 (by decide)).1, keepCell hA20 (hHeld2 (by decide)).2.1, keepCell hA20 (hHeld2 (by decide)).2.2.1, keepCell hA20 (hHeld2 (by decide)).2.2.2.1, keepCell hA20 (hHeld2 (by decide)).2.2.2.2⟩) (fun hHeld3 => ?_)
              clear hK K
              try simp only [Act.put, List.setIfInBounds_toArray, List.set_cons_zero, List.set_cons_succ]
              refine Till.one 21 rfl (by kernel_rfl) (fun K hK => ?_)
              refine step_append_lies _ (by rfl) _ _ _ (by rfl) (wx.heap.size + 2) 3 ii _ 1 8 Try.underlying37 hi hz0 hz1 hz2 rfl (by omega) _ ld.length _ (by rfl) hownA ⟨wA.heap.size, 0, none⟩ 1 1 [.int .i64 (beE p.coefs m.content p.target.lo m.content.length)] (by rfl) (by rfl) (cell_one_new _ _ _) (by simp [Value.oneCell']) (by omega) (by unfold maxLen; omega) (by omega) (by simp; omega) _ rfl ?_
              intro g8 k8 w8 hown8 hgrow8 hat8 hlt8
              have hU6 := hUA.grown hgrow8 hvU
              have e0' := hU6.cell 0 _ rfl
              have e1' := hU6.frozen 0
              refine hK.out _ _ (fun _ => ⟨e0', hgrow8.cell (hHeld3 (by decide)).2.1 (fun e => hn1 e.symm), hgrow8.cell (hHeld3 (by decide)).2.2.1 (fun e => hn1 e.symm), hgrow8.cell (hHeld3 (by decide)).2.2.2.1 (fun e => hn2 e.symm), hgrow8.cell (hHeld3 (by decide)).2.2.2.2 (fun e => hn3 e.symm)⟩) (fun hHeld4 => ?_)
              clear hK K
              try simp only [Act.put, List.setIfInBounds_toArray]
              refine Till.one 22 rfl (by kernel_rfl) (fun K hK => ?_)
              go_simp
              refine hK.out _ _ (fun _ => hHeld4 (by decide)) (fun hHeld5 => ?_)
              clear hK K
              try simp only [Act.put]
              refine Till.one 23 rfl (by kernel_rfl) (fun K hK => ?_)
              go_simp
              refine hK.out _ _ (fun h => absurd rfl h) (fun _ => ?_)
              clear hK K
              refine Till.done (by kernel_rfl) ?_ _
              have hg8 : wx.heap.size + 2 ≤ g8 ∧ g8 ≠ wx.heap.size ∧ g8 ≠ wx.heap.size + 1 ∧ g8 ≠ g6 := by
                rcases hat8 with hat | hat
                · have := hltd7 _ hat; have := hsep7 _ hat; omega
                · simp at hat; omega
              have hbW9 : Below wx.heap.size W7 (w8.setCell ⟨wx.heap.size + 1, 0, none⟩ (.slice (some ⟨g8, 0, none⟩) (ld.length + 1) k8)) := ((((hbA2.mono (by omega)).alloc (by omega) (.cells #[.int .i64 (beE p.coefs m.content p.target.lo m.content.length)] 3)).grown hgrow8 (by simp; omega) (fun q hq => by have := hltd7 q hq; omega)).setCell (p := ⟨wx.heap.size + 1, 0, none⟩) (by simp) (.slice (some ⟨g8, 0, none⟩) (ld.length + 1) k8))
              have hD9 := hU6.set 0 (.slice (some ⟨g8, 0, none⟩) (ld.length + 1) k8)
              have hU9 : Blk (w8.setCell ⟨wx.heap.size + 1, 0, none⟩ (.slice (some ⟨g8, 0, none⟩) (ld.length + 1) k8)) wx.heap.size #[.slice (some ⟨g6, 0, none⟩) (lu.length + 1) k6, .int .i64 0] 39 := ((((Blk.below (w := W7.drew) hU7 hbA (by have : W7.drew.heap.size = W7.heap.size := rfl; omega)).alloc (.cells #[.int .i64 (beE p.coefs m.content p.target.lo m.content.length)] 3)).grown hgrow8 (fun e => by have := hltd7 _ e; omega)).other ⟨wx.heap.size + 1, 0, none⟩ (.slice (some ⟨g8, 0, none⟩) (ld.length + 1) k8) (by simp))
              have hownd9 := own_set hown8 ⟨wx.heap.size + 1, 0, none⟩ (.slice (some ⟨g8, 0, none⟩) (ld.length + 1) k8) (fun g hg => by simp only [Value.ownBlock, Option.some.injEq] at hg; subst hg; exact hg8.2.2.1)
              have hownu9 := own_set (own_grown ((own_below (own_drew hownu7) hbA (own_lt (own_drew hownu7))).alloc (.cells #[.int .i64 (beE p.coefs m.content p.target.lo m.content.length)] 3)) hgrow8 (fun g hg e => by simp only [Value.ownBlock, Option.some.injEq] at hg; subst hg; exact hsep7 _ e rfl)) ⟨wx.heap.size + 1, 0, none⟩ (.slice (some ⟨g8, 0, none⟩) (ld.length + 1) k8) (fun g hg => by simp only [Value.ownBlock, Option.some.injEq] at hg; subst hg; exact hg6.2.2)
              have hbF := (hbi.trans hbW7).trans hbW9
              clear hab hownD hBD hvU hn1 hn2 hn3 hHeld hHeld2 hHeld3 hHeld4 hHeld5 hA20 hbA2 hownA hUA hsA hown8 hgrow8 hat8 hlt8 hU6 e0' e1' hbA hownu7 hU7 hbW7 hbW9 hG7 hF7 hc7
              generalize w8.setCell ⟨wx.heap.size + 1, 0, none⟩ (.slice (some ⟨g8, 0, none⟩) (ld.length + 1) k8) = W9 at *
              have hownuF : W9.ownsRow (wx.heap.size + 2) 3 1 (.slice (some ⟨g6, 0, none⟩) (lu.length + 1) k6) (lu ++ [Au p m]).length ((lu ++ [Au p m]).map (Value.int .i64)) := by rw [hAu.out]; simpa using hownu9
              have howndF : W9.ownsRow (wx.heap.size + 2) 3 1 (.slice (some ⟨g8, 0, none⟩) (ld.length + 1) k8) (ld ++ [Ad p m]).length ((ld ++ [Ad p m]).map (Value.int .i64)) := by rw [hAd.out]; simpa using hownd9
              clear hownu9 hownd9
              go_wp2
              go_roundw
              case rel => exact ⟨k2 + 1, _, _, _, _, by omega, by go_num, hsnu, hsnd, hU9, hD9, hownuF, howndF, fun q hq e => by simp only [Value.ownBlock, Option.some.injEq] at hq e; omega, hbF⟩
              case measure => simp [intOf]; omega
            · have hlue : lu = b.mats.map (Au p) := by rw [hxu.out, List.take_of_length_le (by omega)]
              have hlde : ld = b.mats.map (Ad p) := by rw [hxd.out, List.take_of_length_le (by omega)]
              have hlul : lu.length = b.mats.length := by rw [hlue, List.length_map]
              have hldl : ld.length = b.mats.length := by rw [hlde, List.length_map]
              obtain ⟨gu, ku, rfl, hgu, hgu2⟩ := hownu.form (by omega)
              obtain ⟨gd, kd, rfl, hgd, hgd2⟩ := hownd.form (by omega)
              have hIu : ∀ x ∈ lu, I64 x := by rw [hlue]; intro x hx; obtain ⟨m, hm, rfl⟩ := List.mem_map.1 hx; exact (hbd m hm).1
              have hId : ∀ x ∈ ld, I64 x := by rw [hlde]; intro x hx; obtain ⟨m, hm, rfl⟩ := List.mem_map.1 hx; exact (hbd m hm).2
              have hxs := Lib.hid (show l ++ [(⟨lu, 0⟩ : Ln), ⟨ld, 0⟩] = rlnTo b (k + 1) by rw [hst.out, hx.out, hlue, hlde]; rfl)
              have hlul1 : lu.length ≤ 12 := by omega
              have hldl1 : ld.length ≤ 12 := by omega
              have u0 : wr.cell? ⟨wx.heap.size, 0, none⟩ = some (.slice (some ⟨gu, 0, none⟩) lu.length ku) := hUi.cell 0 _ rfl
              have u1 : wr.cell? ⟨wx.heap.size, 1, none⟩ = some (.int .i64 0) := hUi.cell 1 _ rfl
              have d0 : wr.cell? ⟨wx.heap.size + 1, 0, none⟩ = some (.slice (some ⟨gd, 0, none⟩) ld.length kd) := hDi.cell 0 _ rfl
              have d1 : wr.cell? ⟨wx.heap.size + 1, 1, none⟩ = some (.int .i64 0) := hDi.cell 1 _ rfl
              have hkm2 : b.mats.length ≤ k2 := by omega
              have hlt4 : ∀ q, u7.ownBlock = some q → q < wx.heap.size := own_lt hown.choose_spec.2.1
              have ownO := (hown.below lnMono hGi).below lnMono (below_box wr (.cells #[.slice (some ⟨gu, 0, none⟩) lu.length ku, .int .i64 0, .slice (some ⟨gd, 0, none⟩) ld.length kd, .int .i64 0] 39))
              have hcu : RInts (vis (fun b => True ∧ offOwn u7 b) (wr.alloc (.cells #[.slice (some ⟨gu, 0, none⟩) lu.length ku, .int .i64 0, .slice (some ⟨gd, 0, none⟩) ld.length kd, .int .i64 0] 39))) (.slice (some ⟨gu, 0, none⟩) lu.length ku) lu := own_RInts (own_vis (hownu.alloc _) (fun g hg => ⟨trivial, fun e => by have := hlt4 g e; simp only [Value.ownBlock, Option.some.injEq] at hg; omega⟩)) (by omega) hIu
              have hcd : RInts (vis (fun b => True ∧ offOwn u7 b) (wr.alloc (.cells #[.slice (some ⟨gu, 0, none⟩) lu.length ku, .int .i64 0, .slice (some ⟨gd, 0, none⟩) ld.length kd, .int .i64 0] 39))) (.slice (some ⟨gd, 0, none⟩) ld.length kd) ld := own_RInts (own_vis (hownd.alloc _) (fun g hg => ⟨trivial, fun e => by have := hlt4 g e; simp only [Value.ownBlock, Option.some.injEq] at hg; omega⟩)) (by omega) hId
              obtain ⟨us, hus, hown6, hone, hR6⟩ := ownO
              have hsameW := (hsame.below hGi (by omega)).below (below_box wr (.cells #[.slice (some ⟨gu, 0, none⟩) lu.length ku, .int .i64 0, .slice (some ⟨gd, 0, none⟩) ld.length kd, .int .i64 0] 39)) (by omega)
              have hbW := (hb.trans (hGi.mono (by omega))).trans ((below_box wr (.cells #[.slice (some ⟨gu, 0, none⟩) lu.length ku, .int .i64 0, .slice (some ⟨gd, 0, none⟩) ld.length kd, .int .i64 0] 39)).mono (by omega))
              clear hlue hlde hlul hldl hxu hxd hx hst hbd habu habd hF g1' g2' g3' hownu hownd hsep hUi hDi hBi hfin2 hfinB hBr hIu hId hown hsame hb hU hD hG
              go_wp2_with (at_builtin; refine wpList_append_lies _ rfl _ _ _ rfl (w.heap.size + 2) 39 il _ 2 32 Try.underlying32 li lz0 lz1 lz2 rfl (by omega) _ l.length _ rfl hown6 ⟨wr.heap.size, 0, none⟩ 2 2 (pc (.slice (some ⟨gu, 0, none⟩) lu.length ku, .int .i64 0) ++ pc (.slice (some ⟨gd, 0, none⟩) ld.length kd, .int .i64 0)) rfl rfl (World.news_of_block (cs := #[.slice (some ⟨gu, 0, none⟩) lu.length ku, .int .i64 0, .slice (some ⟨gd, 0, none⟩) ld.length kd, .int .i64 0]) (heap_alloc_new wr _)) (by simp [pc, Value.oneCell']) (by omega) (by unfold maxLen; omega) (by omega) (by simp; omega) _ rfl ?_; intro g6 k6 w7 hown7 hgrow7 hat7 hlt7)
              have hownF := ownPairs_snoc (R := LnIs) lnMono (w := wr.alloc (.cells #[.slice (some ⟨gu, 0, none⟩) lu.length ku, .int .i64 0, .slice (some ⟨gd, 0, none⟩) ld.length kd, .int .i64 0] 39)) (l2 := [⟨lu, 0⟩, ⟨ld, 0⟩]) (us2 := [(.slice (some ⟨gu, 0, none⟩) lu.length ku, .int .i64 0), (.slice (some ⟨gd, 0, none⟩) ld.length kd, .int .i64 0)]) hus rfl (by simpa using hown7) hgrow7 hat7 hone
                (by intro u hu; simp only [List.mem_cons, List.not_mem_nil, or_false] at hu; rcases hu with rfl | rfl <;> exact ⟨rfl, rfl⟩) hR6
                (fun i h1 h2 => by
                  have hi2 : i < 2 := h1
                  match i, hi2 with
                  | 0, _ => exact ⟨hcu, rfl, I64_zero⟩
                  | 1, _ => exact ⟨hcd, rfl, I64_zero⟩)
              rw [hxs.out] at hownF
              have hB7 := hbW.grown hgrow7 (by simp; omega) (fun q hq => (hown6.lt q hq).1)
              have hS7 := hsameW.grown hgrow7 (by simp; omega) hob
              have hob7 : ∀ q, (Value.slice (some ⟨g6, 0, none⟩) (l.length + 2) k6).ownBlock = some q → q = g1 ∨ w3.heap.size ≤ q := by
                intro q hq
                simp only [Value.ownBlock, Option.some.injEq] at hq
                rcases hat7 with h7 | h7
                · subst hq; exact hob _ h7
                · right; simp at h7; omega
              clear hown7 hgrow7 hat7 hown6 hone hR6 hcu hcd hsameW hbW hob hlt4
              go_roundw
              case rel => exact ⟨k + 1, _, by omega, by go_num, rfl, hownF, hB7, hS7, hob7⟩
              case measure => simp [intOf]; omega
        · have hxe := Lib.hid (show l = rlnTo b (rformsB b).length by rw [hx.out, show k = (rformsB b).length from by omega])
          have hll : l.length ≤ 50 := by rw [hxe.out, rlnTo_len b _ (Nat.le_refl _)]; omega
          have hflk : (rformsB b).length ≤ k := by omega
          have hbd : ∀ m ∈ b.mats, I64 (f2E b m) ∧ I64 (f3E b m) := fun m hm => by
            have h2 := (f2_exact hk (hk.mats m hm)).2
            have h3 := (f3_exact hk (hk.mats m hm)).2
            unfold I64
            omega
          clear hx hfl
          go_wp2_with fail
          have hU : Blk ((wr.alloc (.cells #[.slice none 0 0, .int .i64 0] 39)).alloc (.cells #[.slice none 0 0, .int .i64 0] 39)) wr.heap.size #[.slice none 0 0, .int .i64 0] 39 := (Blk.new wr _ _).alloc _
          have hD : Blk ((wr.alloc (.cells #[.slice none 0 0, .int .i64 0] 39)).alloc (.cells #[.slice none 0 0, .int .i64 0] 39)) (wr.heap.size + 1) #[.slice none 0 0, .int .i64 0] 39 := by
            have := Blk.new (wr.alloc (.cells #[.slice none 0 0, .int .i64 0] 39)) #[.slice none 0 0, .int .i64 0] 39
            simpa using this
          have hG := below_two wr (.cells #[.slice none 0 0, .int .i64 0] 39) (.cells #[.slice none 0 0, .int .i64 0] 39)
          generalize (wr.alloc (.cells #[.slice none 0 0, .int .i64 0] 39)).alloc (.cells #[.slice none 0 0, .int .i64 0] 39) = wo at *
          have hnu : w.heap.size + 2 ≤ wr.heap.size := by omega
          obtain ⟨wx, rfl⟩ : ∃ wx : World, wx = wr := ⟨_, rfl⟩
          go_loopw [15] (fun i wi => ∃ (k2 : Nat) (lu ld : List Int) (vu vd : Value), k2 ≤ b.mats.length ∧ i = .int .i64 k2 ∧ Hid (lu = (b.mats.take k2).map (f2E b)) ∧ Hid (ld = (b.mats.take k2).map (f3E b)) ∧ Blk wi wx.heap.size #[vu, .int .i64 0] 39 ∧ Blk wi (wx.heap.size + 1) #[vd, .int .i64 0] 39
            ∧ wi.ownsRow (wx.heap.size + 2) 3 1 vu lu.length (lu.map (Value.int .i64)) ∧ wi.ownsRow (wx.heap.size + 2) 3 1 vd ld.length (ld.map (Value.int .i64)) ∧ (∀ q, vu.ownBlock = some q → vd.ownBlock ≠ some q) ∧ Below wx.heap.size wo wi) (fun i _ => b.mats.length - (intOf i).toNat)
          case atStart => exact ⟨0, [], [], _, _, Nat.zero_le _, rfl, rfl, rfl, hU, hD, World.ownsRow_nil _ _ _ _, World.ownsRow_nil _ _ _ _, fun q hq => by simp [Value.ownBlock] at hq, Below.refl _ _⟩
          case round =>
            obtain ⟨k2, lu, ld, vu, vd, hk2, rfl, hxu, hxd, hUi, hDi, hownu, hownd, hsep, hbi⟩ := hrel
            have hGi := hG.trans (hbi.mono (Nat.le_refl _))
            have hfin2 := hfinB.trans (hGi.mono hfinB.size)
            have hBi := hBr.below hGi hBr.lt
            have hwos : wx.heap.size + 2 ≤ wo.heap.size := hD.lt
            have hwis := hbi.size
            have f1 := hBi.cell 1 (.slice a1 b.mats.length k1) rfl
            by_cases hlt2 : k2 < b.mats.length
            · have hsnu := Lib.hid (show lu ++ [f2E b (b.mats[k2]'hlt2)] = (b.mats.take (k2 + 1)).map (f2E b) by rw [hxu.out, List.take_succ_eq_append_getElem hlt2, List.map_append, List.map_singleton])
              have hsnd := Lib.hid (show ld ++ [f3E b (b.mats[k2]'hlt2)] = (b.mats.take (k2 + 1)).map (f3E b) by rw [hxd.out, List.take_succ_eq_append_getElem hlt2, List.map_append, List.map_singleton])
              have hlu : lu.length ≤ 12 := by rw [hxu.out]; simp; omega
              have hld : ld.length ≤ 12 := by rw [hxd.out]; simp; omega
              have hmk := hk.mats _ (List.getElem_mem hlt2)
              have htt := (tot_mat hmk hk.ox.2).2.2
              have hrr := hk.redox
              have hmr := hmk.redox
              obtain ⟨b2, o2, rfl, c2, ⟨q0, q1, q2, q3, q4, q5, q6⟩, hc2, hms⟩ := hl1 k2 hlt2
              obtain ⟨ac, kc, rfl, -, -, -⟩ := id hc2
              have hbl2 := cell_lt q6
              simp only at q0 q1 q2 q3 q4 q5 q6 hbl2
              replace q0 := ext_of_below hfin2 _ _ q0
              replace q1 := ext_of_below hfin2 _ _ q1
              replace q2 := ext_of_below hfin2 _ _ q2
              replace q3 := ext_of_below hfin2 _ _ q3
              replace q4 := ext_of_below hfin2 _ _ q4
              replace q5 := ext_of_below hfin2 _ _ q5
              replace q6 := ext_of_below hfin2 _ _ q6
              have hcr := hc2.mono (ext_of_below hfin2)
              have hF2e : f2E b (b.mats[k2]'hlt2) = 1000000 * (b.mats[k2]'hlt2).redox + max (-(b.redox.hi * (tot (b.mats[k2]'hlt2).content).lo)) (-(b.redox.hi * (tot (b.mats[k2]'hlt2).content).hi)) := by unfold f2E grE; rw [Int.neg_mul, Int.neg_mul]
              have hF3e : f3E b (b.mats[k2]'hlt2) = max (b.redox.lo * (tot (b.mats[k2]'hlt2).content).lo) (b.redox.lo * (tot (b.mats[k2]'hlt2).content).hi) - 1000000 * (b.mats[k2]'hlt2).redox := rfl
              have hr1 := hrr.lo; have hr2 := hrr.le; have hr3 := hrr.hi
              have m1 := mul_le_of (m := 10000) (a := b.redox.hi) (b := (tot (b.mats[k2]'hlt2).content).lo) (by omega) (by omega)
              have m2 := mul_le_of (m := 10000) (a := b.redox.hi) (b := (tot (b.mats[k2]'hlt2).content).hi) (by omega) (by omega)
              have m3 := mul_le_of (m := 10000) (a := b.redox.lo) (b := (tot (b.mats[k2]'hlt2).content).lo) (by omega) (by omega)
              have m4 := mul_le_of (m := 10000) (a := b.redox.lo) (b := (tot (b.mats[k2]'hlt2).content).hi) (by omega) (by omega)
              clear hl1 hc2 hxu hxd hbd h hk hmk hms hrr
              generalize b.mats[k2] = m at *
              have j3 : (0 : Int) ≤ (k2 : Int) := Int.natCast_nonneg _
              have j4 : (k2 : Int) < (b.mats.length : Int) := by omega
              have hsU : wx.heap.size < wr.heap.size := by omega
              have hsD : wx.heap.size + 1 < wr.heap.size := by omega
              have hltu : ∀ q, vu.ownBlock = some q → wx.heap.size + 2 ≤ q ∧ q < wr.heap.size := fun q hq => hownu.lt q hq
              have hltd : ∀ q, vd.ownBlock = some q → wx.heap.size + 2 ≤ q ∧ q < wr.heap.size := fun q hq => hownd.lt q hq
              go_wp2_with fail
              have hWm := below_box wr (.cells #[.string m.name, .int .i64 m.price, .int .i64 m.redox, .int .i64 m.least, .int .i64 m.most, .int .i64 m.step, .slice ac m.content.length kc] 68)
              refine (rsums_any _ m.content _ (hcr.mono (ext_of_below hWm))).mono ?_
              rintro e wS ⟨rfl, rfl⟩
              have hown4 := hownu.alloc (.cells #[.string m.name, .int .i64 m.price, .int .i64 m.redox, .int .i64 m.least, .int .i64 m.most, .int .i64 m.step, .slice ac m.content.length kc] 68)
              have hU4 := hUi.alloc (.cells #[.string m.name, .int .i64 m.price, .int .i64 m.redox, .int .i64 m.least, .int .i64 m.most, .int .i64 m.step, .slice ac m.content.length kc] 68)
              have hD4 := hDi.alloc (.cells #[.string m.name, .int .i64 m.price, .int .i64 m.redox, .int .i64 m.least, .int .i64 m.most, .int .i64 m.step, .slice ac m.content.length kc] 68)
              have hM4 := Blk.new wr #[.string m.name, .int .i64 m.price, .int .i64 m.redox, .int .i64 m.least, .int .i64 m.most, .int .i64 m.step, .slice ac m.content.length kc] 68
              have hB4m := hBi.alloc (.cells #[.string m.name, .int .i64 m.price, .int .i64 m.redox, .int .i64 m.least, .int .i64 m.most, .int .i64 m.step, .slice ac m.content.length kc] 68)
              have hownd4 := hownd.alloc (.cells #[.string m.name, .int .i64 m.price, .int .i64 m.redox, .int .i64 m.least, .int .i64 m.most, .int .i64 m.step, .slice ac m.content.length kc] 68)
              have hbi4 := hbi.alloc (by omega) (.cells #[.string m.name, .int .i64 m.price, .int .i64 m.redox, .int .i64 m.least, .int .i64 m.most, .int .i64 m.step, .slice ac m.content.length kc] 68)
              have hw4 : (wr.alloc (.cells #[.string m.name, .int .i64 m.price, .int .i64 m.redox, .int .i64 m.least, .int .i64 m.most, .int .i64 m.step, .slice ac m.content.length kc] 68)).heap.size = wr.heap.size + 1 := by simp
              have hw4' : wr.heap.size < (wr.alloc (.cells #[.string m.name, .int .i64 m.price, .int .i64 m.redox, .int .i64 m.least, .int .i64 m.most, .int .i64 m.step, .slice ac m.content.length kc] 68)).heap.size := by omega
              clear hw4 hWm hown q0 q1 q2 q3 q4 q5 q6 hcr hGi hfin2 hfinB hBr hb hsame hob hownu hownd hUi hDi hBi hbi f1
              generalize wr.alloc (.cells #[.string m.name, .int .i64 m.price, .int .i64 m.redox, .int .i64 m.least, .int .i64 m.most, .int .i64 m.step, .slice ac m.content.length kc] 68) = w4 at *
              generalize (tot m.content).lo = tl at *
              generalize (tot m.content).hi = th at *
              generalize hrh : b.redox.hi = rh at *
              generalize hrl : b.redox.lo = rl at *
              have HRH := Lib.hid hrh
              have HRL := Lib.hid hrl
              clear hrh hrl
              generalize m.redox = rx at *
              generalize hp1 : rh * tl = p1 at *
              generalize hp2 : rh * th = p2 at *
              generalize hq1 : rl * tl = q1 at *
              generalize hq2 : rl * th = q2 at *
              have e1 : IntKind.i64.wrap (rh * tl) = p1 := by rw [hp1]; exact IntWalk.i64_in _ (by omega)
              have e2 : IntKind.i64.wrap (rh * th) = p2 := by rw [hp2]; exact IntWalk.i64_in _ (by omega)
              have e3 : IntKind.i64.wrap (rl * tl) = q1 := by rw [hq1]; exact IntWalk.i64_in _ (by omega)
              have e4 : IntKind.i64.wrap (rl * th) = q2 := by rw [hq2]; exact IntWalk.i64_in _ (by omega)
              have HF2 := Lib.hid hF2e
              have HF3 := Lib.hid hF3e
              clear hp1 hp2 hq1 hq2 hF2e hF3e
              have hvU : vu.ownBlock ≠ some wx.heap.size := fun e => by have := hltu _ e; omega
              have hvD : vu.ownBlock ≠ some (wx.heap.size + 1) := fun e => by have := hltu _ e; omega
              have hvM : vu.ownBlock ≠ some wr.heap.size := fun e => by have := hltu _ e; omega
              have hvN : vu.ownBlock ≠ some w.heap.size := fun e => by have := hltu _ e; omega
              have u0 : w4.cell? ⟨wx.heap.size, 0, none⟩ = some vu := hU4.cell 0 _ rfl
              have f4 : w4.cell? ⟨w.heap.size, 4, none⟩ = some (.int .i64 rl) := hB4m.cell 4 _ rfl
              have f5 : w4.cell? ⟨w.heap.size, 5, none⟩ = some (.int .i64 rh) := hB4m.cell 5 _ rfl
              have m2' : w4.cell? ⟨wr.heap.size, 2, none⟩ = some (.int .i64 rx) := hM4.cell 2 _ rfl
              by_cases hpm : p2 < p1 <;> by_cases hqm : q1 < q2
              · have hvA : Hid (f2E b m = 1000000 * rx - p2) := by unfold Hid; rw [HF2.out]; omega
                have hvB : Hid (f3E b m = q2 - 1000000 * rx) := by unfold Hid; rw [HF3.out]; omega
                have e5 : IntKind.i64.wrap (1000000 * rx - p2) = 1000000 * rx - p2 := IntWalk.i64_in _ (by omega)
                have e6 : IntKind.i64.wrap (q2 - 1000000 * rx) = q2 - 1000000 * rx := IntWalk.i64_in _ (by omega)
                clear HF2 HF3
                have hown5 := hown4.alloc (.cells #[.int .i64 (1000000 * rx - p2)] 3)
                have hU5 := hU4.alloc (.cells #[.int .i64 (1000000 * rx - p2)] 3)
                have hD5 := hD4.alloc (.cells #[.int .i64 (1000000 * rx - p2)] 3)
                have hM5 := hM4.alloc (.cells #[.int .i64 (1000000 * rx - p2)] 3)
                have hB5 := hB4m.alloc (.cells #[.int .i64 (1000000 * rx - p2)] 3)
                have hownd5 := hownd4.alloc (.cells #[.int .i64 (1000000 * rx - p2)] 3)
                have hb5 := hbi4.alloc (by omega) (.cells #[.int .i64 (1000000 * rx - p2)] 3)
                clear hU4 hD4 hM4 hB4m hown4 hownd4 hbi4
                go_wp2_with (first
                  | (at_builtin
                     refine wpList_append_lies _ rfl _ _ 37 rfl (wx.heap.size + 2) 3 ii (.int .i64 0) 1 8 Try.underlying37 hi hz0 hz1 hz2 rfl (by decide) vu lu.length _ rfl hown5 ⟨w4.heap.size, 0, none⟩ 1 1 [.int .i64 (1000000 * rx - p2)] rfl rfl (cell_one_new _ _ _) (by simp [Value.oneCell']) (by omega) (by unfold maxLen; omega) (by omega) (by simp; omega) _ rfl ?_
                     intro g6 k6 w6 hown6 hgrow6 hat6 hlt6
                     have hU6 := hU5.grown hgrow6 hvU
                     have hD6 := hD5.grown hgrow6 hvD
                     have hM6 := hM5.grown hgrow6 hvM
                     have hB6 := hB5.grown hgrow6 hvN
                     have hownd6 := own_grown hownd5 hgrow6 (fun g hg e => hsep _ e hg)
                     have hb6 := hb5.grown hgrow6 (by simp; omega) (fun q hq => by have := hltu q hq; omega)
                     have hs6 : w4.heap.size ≤ w6.heap.size := by have := hgrow6.size; simp at this; omega
                     have hg6 : wx.heap.size + 2 ≤ g6 ∧ vd.ownBlock ≠ some g6 := by
                       rcases hat6 with hat | hat
                       · exact ⟨(hltu _ hat).1, hsep _ hat⟩
                       · simp at hat; exact ⟨by omega, fun e => by have := hltd _ e; omega⟩
                     have a0' := hU6.cell 0 _ rfl
                     have a1' := hU6.frozen 0
                     have a2' := hD6.cell 0 _ rfl
                     have a3' := hM6.cell 2 (.int .i64 rx) rfl
                     have a4' := hB6.cell 4 (.int .i64 rl) rfl
                     have hown7 := own_set hown6 ⟨wx.heap.size, 0, none⟩ (.slice (some ⟨g6, 0, none⟩) (lu.length + 1) k6) (fun g hg => by simp only [Value.ownBlock, Option.some.injEq] at hg; subst hg; simp only; omega)
                     have hownd7 := (own_set hownd6 ⟨wx.heap.size, 0, none⟩ (.slice (some ⟨g6, 0, none⟩) (lu.length + 1) k6) (fun g hg => by have := hltd g hg; simp only; omega)).alloc (.cells #[.int .i64 (q2 - 1000000 * rx)] 3)
                     have hU7 := (hU6.set 0 (.slice (some ⟨g6, 0, none⟩) (lu.length + 1) k6)).alloc (.cells #[.int .i64 (q2 - 1000000 * rx)] 3)
                     have hD7 := (hD6.other ⟨wx.heap.size, 0, none⟩ (.slice (some ⟨g6, 0, none⟩) (lu.length + 1) k6) (by simp)).alloc (.cells #[.int .i64 (q2 - 1000000 * rx)] 3)
                     have hb7 := (hb6.setCell (p := ⟨wx.heap.size, 0, none⟩) (by simp) (.slice (some ⟨g6, 0, none⟩) (lu.length + 1) k6)).alloc (by simp; omega) (.cells #[.int .i64 (q2 - 1000000 * rx)] 3)
                     have hnew : ∀ j u, ([Value.int .i64 (q2 - 1000000 * rx)] : List Value)[j]? = some u → ((w6.setCell ⟨wx.heap.size, 0, none⟩ (.slice (some ⟨g6, 0, none⟩) (lu.length + 1) k6)).alloc (.cells #[.int .i64 (q2 - 1000000 * rx)] 3)).cell? ((⟨w6.heap.size, 0, none⟩ : Addr).add j) = some u := by
                       have := cell_one_new (w6.setCell ⟨wx.heap.size, 0, none⟩ (.slice (some ⟨g6, 0, none⟩) (lu.length + 1) k6)) (.int .i64 (q2 - 1000000 * rx)) 3
                       simpa using this
                     clear hU5 hD5 hM5 hB5 hown5 hownd5 hb5 hU6 hD6 hM6 hB6 hownd6 hb6 hgrow6 hat6 hown6)
                  | (at_builtin
                     refine wpList_append_lies _ rfl _ _ 37 rfl (wx.heap.size + 2) 3 ii (.int .i64 0) 1 8 Try.underlying37 hi hz0 hz1 hz2 rfl (by decide) vd ld.length _ rfl hownd7 ⟨w6.heap.size, 0, none⟩ 1 1 [.int .i64 (q2 - 1000000 * rx)] rfl rfl hnew (by simp [Value.oneCell']) (by omega) (by unfold maxLen; omega) (by omega) (by simp; omega) _ rfl ?_
                     intro g8 k8 w8 hown8 hgrow8 hat8 hlt8
                     have hU8 := hU7.grown hgrow8 (fun e => by have := hltd _ e; omega)
                     have hD8 := hD7.grown hgrow8 (fun e => by have := hltd _ e; omega)
                     have hownu8 := own_grown (hown7.alloc (.cells #[.int .i64 (q2 - 1000000 * rx)] 3)) hgrow8 (fun g hg e => by simp only [Value.ownBlock, Option.some.injEq] at hg; subst hg; exact hg6.2 e)
                     have hb8 := hb7.grown hgrow8 (by simp; omega) (fun q hq => by have := hltd q hq; omega)
                     have hg8 : wx.heap.size + 2 ≤ g8 ∧ g6 ≠ g8 := by
                       rcases hat8 with hat | hat
                       · exact ⟨(hltd _ hat).1, fun e => hg6.2 (by rw [hat, e])⟩
                       · simp at hat; exact ⟨by omega, by omega⟩
                     have b0' := hD8.cell 0 _ rfl
                     have b1' := hD8.frozen 0
                     have hD9 := hD8.set 0 (.slice (some ⟨g8, 0, none⟩) (ld.length + 1) k8)
                     have hU9 := hU8.other ⟨wx.heap.size + 1, 0, none⟩ (.slice (some ⟨g8, 0, none⟩) (ld.length + 1) k8) (by simp)
                     have hownu9 := own_set hownu8 ⟨wx.heap.size + 1, 0, none⟩ (.slice (some ⟨g8, 0, none⟩) (ld.length + 1) k8) (fun g hg => by simp only [Value.ownBlock, Option.some.injEq] at hg; subst hg; simp only; omega)
                     have hownd9 := own_set hown8 ⟨wx.heap.size + 1, 0, none⟩ (.slice (some ⟨g8, 0, none⟩) (ld.length + 1) k8) (fun g hg => by simp only [Value.ownBlock, Option.some.injEq] at hg; subst hg; simp only; omega)
                     have hb9 := hb8.setCell (p := ⟨wx.heap.size + 1, 0, none⟩) (by simp) (.slice (some ⟨g8, 0, none⟩) (ld.length + 1) k8)
                     clear hU7 hD7 hown7 hownd7 hb7 hU8 hD8 hownu8 hb8 hgrow8 hat8 hown8))
                have hownuF : (w8.setCell ⟨wx.heap.size + 1, 0, none⟩ (.slice (some ⟨g8, 0, none⟩) (ld.length + 1) k8)).ownsRow (wx.heap.size + 2) 3 1 (.slice (some ⟨g6, 0, none⟩) (lu.length + 1) k6) (lu ++ [f2E b m]).length ((lu ++ [f2E b m]).map (Value.int .i64)) := by rw [hvA.out]; simpa using hownu9
                have howndF : (w8.setCell ⟨wx.heap.size + 1, 0, none⟩ (.slice (some ⟨g8, 0, none⟩) (ld.length + 1) k8)).ownsRow (wx.heap.size + 2) 3 1 (.slice (some ⟨g8, 0, none⟩) (ld.length + 1) k8) (ld ++ [f3E b m]).length ((ld ++ [f3E b m]).map (Value.int .i64)) := by rw [hvB.out]; simpa using hownd9
                clear hownu9 hownd9
                have hrh := HRH.out
                have hrl := HRL.out
                subst hrh hrl
                go_roundw
                case rel => exact ⟨k2 + 1, _, _, _, _, by omega, by go_num, hsnu, hsnd, hU9, hD9, hownuF, howndF, fun q hq e => by simp only [Value.ownBlock, Option.some.injEq] at hq e; omega, hb9⟩
                case measure => simp [intOf]; omega
              · have hvA : Hid (f2E b m = 1000000 * rx - p2) := by unfold Hid; rw [HF2.out]; omega
                have hvB : Hid (f3E b m = q1 - 1000000 * rx) := by unfold Hid; rw [HF3.out]; omega
                have e5 : IntKind.i64.wrap (1000000 * rx - p2) = 1000000 * rx - p2 := IntWalk.i64_in _ (by omega)
                have e6 : IntKind.i64.wrap (q1 - 1000000 * rx) = q1 - 1000000 * rx := IntWalk.i64_in _ (by omega)
                clear HF2 HF3
                have hown5 := hown4.alloc (.cells #[.int .i64 (1000000 * rx - p2)] 3)
                have hU5 := hU4.alloc (.cells #[.int .i64 (1000000 * rx - p2)] 3)
                have hD5 := hD4.alloc (.cells #[.int .i64 (1000000 * rx - p2)] 3)
                have hM5 := hM4.alloc (.cells #[.int .i64 (1000000 * rx - p2)] 3)
                have hB5 := hB4m.alloc (.cells #[.int .i64 (1000000 * rx - p2)] 3)
                have hownd5 := hownd4.alloc (.cells #[.int .i64 (1000000 * rx - p2)] 3)
                have hb5 := hbi4.alloc (by omega) (.cells #[.int .i64 (1000000 * rx - p2)] 3)
                clear hU4 hD4 hM4 hB4m hown4 hownd4 hbi4
                go_wp2_with (first
                  | (at_builtin
                     refine wpList_append_lies _ rfl _ _ 37 rfl (wx.heap.size + 2) 3 ii (.int .i64 0) 1 8 Try.underlying37 hi hz0 hz1 hz2 rfl (by decide) vu lu.length _ rfl hown5 ⟨w4.heap.size, 0, none⟩ 1 1 [.int .i64 (1000000 * rx - p2)] rfl rfl (cell_one_new _ _ _) (by simp [Value.oneCell']) (by omega) (by unfold maxLen; omega) (by omega) (by simp; omega) _ rfl ?_
                     intro g6 k6 w6 hown6 hgrow6 hat6 hlt6
                     have hU6 := hU5.grown hgrow6 hvU
                     have hD6 := hD5.grown hgrow6 hvD
                     have hM6 := hM5.grown hgrow6 hvM
                     have hB6 := hB5.grown hgrow6 hvN
                     have hownd6 := own_grown hownd5 hgrow6 (fun g hg e => hsep _ e hg)
                     have hb6 := hb5.grown hgrow6 (by simp; omega) (fun q hq => by have := hltu q hq; omega)
                     have hs6 : w4.heap.size ≤ w6.heap.size := by have := hgrow6.size; simp at this; omega
                     have hg6 : wx.heap.size + 2 ≤ g6 ∧ vd.ownBlock ≠ some g6 := by
                       rcases hat6 with hat | hat
                       · exact ⟨(hltu _ hat).1, hsep _ hat⟩
                       · simp at hat; exact ⟨by omega, fun e => by have := hltd _ e; omega⟩
                     have a0' := hU6.cell 0 _ rfl
                     have a1' := hU6.frozen 0
                     have a2' := hD6.cell 0 _ rfl
                     have a3' := hM6.cell 2 (.int .i64 rx) rfl
                     have a4' := hB6.cell 4 (.int .i64 rl) rfl
                     have hown7 := own_set hown6 ⟨wx.heap.size, 0, none⟩ (.slice (some ⟨g6, 0, none⟩) (lu.length + 1) k6) (fun g hg => by simp only [Value.ownBlock, Option.some.injEq] at hg; subst hg; simp only; omega)
                     have hownd7 := (own_set hownd6 ⟨wx.heap.size, 0, none⟩ (.slice (some ⟨g6, 0, none⟩) (lu.length + 1) k6) (fun g hg => by have := hltd g hg; simp only; omega)).alloc (.cells #[.int .i64 (q1 - 1000000 * rx)] 3)
                     have hU7 := (hU6.set 0 (.slice (some ⟨g6, 0, none⟩) (lu.length + 1) k6)).alloc (.cells #[.int .i64 (q1 - 1000000 * rx)] 3)
                     have hD7 := (hD6.other ⟨wx.heap.size, 0, none⟩ (.slice (some ⟨g6, 0, none⟩) (lu.length + 1) k6) (by simp)).alloc (.cells #[.int .i64 (q1 - 1000000 * rx)] 3)
                     have hb7 := (hb6.setCell (p := ⟨wx.heap.size, 0, none⟩) (by simp) (.slice (some ⟨g6, 0, none⟩) (lu.length + 1) k6)).alloc (by simp; omega) (.cells #[.int .i64 (q1 - 1000000 * rx)] 3)
                     have hnew : ∀ j u, ([Value.int .i64 (q1 - 1000000 * rx)] : List Value)[j]? = some u → ((w6.setCell ⟨wx.heap.size, 0, none⟩ (.slice (some ⟨g6, 0, none⟩) (lu.length + 1) k6)).alloc (.cells #[.int .i64 (q1 - 1000000 * rx)] 3)).cell? ((⟨w6.heap.size, 0, none⟩ : Addr).add j) = some u := by
                       have := cell_one_new (w6.setCell ⟨wx.heap.size, 0, none⟩ (.slice (some ⟨g6, 0, none⟩) (lu.length + 1) k6)) (.int .i64 (q1 - 1000000 * rx)) 3
                       simpa using this
                     clear hU5 hD5 hM5 hB5 hown5 hownd5 hb5 hU6 hD6 hM6 hB6 hownd6 hb6 hgrow6 hat6 hown6)
                  | (at_builtin
                     refine wpList_append_lies _ rfl _ _ 37 rfl (wx.heap.size + 2) 3 ii (.int .i64 0) 1 8 Try.underlying37 hi hz0 hz1 hz2 rfl (by decide) vd ld.length _ rfl hownd7 ⟨w6.heap.size, 0, none⟩ 1 1 [.int .i64 (q1 - 1000000 * rx)] rfl rfl hnew (by simp [Value.oneCell']) (by omega) (by unfold maxLen; omega) (by omega) (by simp; omega) _ rfl ?_
                     intro g8 k8 w8 hown8 hgrow8 hat8 hlt8
                     have hU8 := hU7.grown hgrow8 (fun e => by have := hltd _ e; omega)
                     have hD8 := hD7.grown hgrow8 (fun e => by have := hltd _ e; omega)
                     have hownu8 := own_grown (hown7.alloc (.cells #[.int .i64 (q1 - 1000000 * rx)] 3)) hgrow8 (fun g hg e => by simp only [Value.ownBlock, Option.some.injEq] at hg; subst hg; exact hg6.2 e)
                     have hb8 := hb7.grown hgrow8 (by simp; omega) (fun q hq => by have := hltd q hq; omega)
                     have hg8 : wx.heap.size + 2 ≤ g8 ∧ g6 ≠ g8 := by
                       rcases hat8 with hat | hat
                       · exact ⟨(hltd _ hat).1, fun e => hg6.2 (by rw [hat, e])⟩
                       · simp at hat; exact ⟨by omega, by omega⟩
                     have b0' := hD8.cell 0 _ rfl
                     have b1' := hD8.frozen 0
                     have hD9 := hD8.set 0 (.slice (some ⟨g8, 0, none⟩) (ld.length + 1) k8)
                     have hU9 := hU8.other ⟨wx.heap.size + 1, 0, none⟩ (.slice (some ⟨g8, 0, none⟩) (ld.length + 1) k8) (by simp)
                     have hownu9 := own_set hownu8 ⟨wx.heap.size + 1, 0, none⟩ (.slice (some ⟨g8, 0, none⟩) (ld.length + 1) k8) (fun g hg => by simp only [Value.ownBlock, Option.some.injEq] at hg; subst hg; simp only; omega)
                     have hownd9 := own_set hown8 ⟨wx.heap.size + 1, 0, none⟩ (.slice (some ⟨g8, 0, none⟩) (ld.length + 1) k8) (fun g hg => by simp only [Value.ownBlock, Option.some.injEq] at hg; subst hg; simp only; omega)
                     have hb9 := hb8.setCell (p := ⟨wx.heap.size + 1, 0, none⟩) (by simp) (.slice (some ⟨g8, 0, none⟩) (ld.length + 1) k8)
                     clear hU7 hD7 hown7 hownd7 hb7 hU8 hD8 hownu8 hb8 hgrow8 hat8 hown8))
                have hownuF : (w8.setCell ⟨wx.heap.size + 1, 0, none⟩ (.slice (some ⟨g8, 0, none⟩) (ld.length + 1) k8)).ownsRow (wx.heap.size + 2) 3 1 (.slice (some ⟨g6, 0, none⟩) (lu.length + 1) k6) (lu ++ [f2E b m]).length ((lu ++ [f2E b m]).map (Value.int .i64)) := by rw [hvA.out]; simpa using hownu9
                have howndF : (w8.setCell ⟨wx.heap.size + 1, 0, none⟩ (.slice (some ⟨g8, 0, none⟩) (ld.length + 1) k8)).ownsRow (wx.heap.size + 2) 3 1 (.slice (some ⟨g8, 0, none⟩) (ld.length + 1) k8) (ld ++ [f3E b m]).length ((ld ++ [f3E b m]).map (Value.int .i64)) := by rw [hvB.out]; simpa using hownd9
                clear hownu9 hownd9
                have hrh := HRH.out
                have hrl := HRL.out
                subst hrh hrl
                go_roundw
                case rel => exact ⟨k2 + 1, _, _, _, _, by omega, by go_num, hsnu, hsnd, hU9, hD9, hownuF, howndF, fun q hq e => by simp only [Value.ownBlock, Option.some.injEq] at hq e; omega, hb9⟩
                case measure => simp [intOf]; omega
              · have hvA : Hid (f2E b m = 1000000 * rx - p1) := by unfold Hid; rw [HF2.out]; omega
                have hvB : Hid (f3E b m = q2 - 1000000 * rx) := by unfold Hid; rw [HF3.out]; omega
                have e5 : IntKind.i64.wrap (1000000 * rx - p1) = 1000000 * rx - p1 := IntWalk.i64_in _ (by omega)
                have e6 : IntKind.i64.wrap (q2 - 1000000 * rx) = q2 - 1000000 * rx := IntWalk.i64_in _ (by omega)
                clear HF2 HF3
                have hown5 := hown4.alloc (.cells #[.int .i64 (1000000 * rx - p1)] 3)
                have hU5 := hU4.alloc (.cells #[.int .i64 (1000000 * rx - p1)] 3)
                have hD5 := hD4.alloc (.cells #[.int .i64 (1000000 * rx - p1)] 3)
                have hM5 := hM4.alloc (.cells #[.int .i64 (1000000 * rx - p1)] 3)
                have hB5 := hB4m.alloc (.cells #[.int .i64 (1000000 * rx - p1)] 3)
                have hownd5 := hownd4.alloc (.cells #[.int .i64 (1000000 * rx - p1)] 3)
                have hb5 := hbi4.alloc (by omega) (.cells #[.int .i64 (1000000 * rx - p1)] 3)
                clear hU4 hD4 hM4 hB4m hown4 hownd4 hbi4
                go_wp2_with (first
                  | (at_builtin
                     refine wpList_append_lies _ rfl _ _ 37 rfl (wx.heap.size + 2) 3 ii (.int .i64 0) 1 8 Try.underlying37 hi hz0 hz1 hz2 rfl (by decide) vu lu.length _ rfl hown5 ⟨w4.heap.size, 0, none⟩ 1 1 [.int .i64 (1000000 * rx - p1)] rfl rfl (cell_one_new _ _ _) (by simp [Value.oneCell']) (by omega) (by unfold maxLen; omega) (by omega) (by simp; omega) _ rfl ?_
                     intro g6 k6 w6 hown6 hgrow6 hat6 hlt6
                     have hU6 := hU5.grown hgrow6 hvU
                     have hD6 := hD5.grown hgrow6 hvD
                     have hM6 := hM5.grown hgrow6 hvM
                     have hB6 := hB5.grown hgrow6 hvN
                     have hownd6 := own_grown hownd5 hgrow6 (fun g hg e => hsep _ e hg)
                     have hb6 := hb5.grown hgrow6 (by simp; omega) (fun q hq => by have := hltu q hq; omega)
                     have hs6 : w4.heap.size ≤ w6.heap.size := by have := hgrow6.size; simp at this; omega
                     have hg6 : wx.heap.size + 2 ≤ g6 ∧ vd.ownBlock ≠ some g6 := by
                       rcases hat6 with hat | hat
                       · exact ⟨(hltu _ hat).1, hsep _ hat⟩
                       · simp at hat; exact ⟨by omega, fun e => by have := hltd _ e; omega⟩
                     have a0' := hU6.cell 0 _ rfl
                     have a1' := hU6.frozen 0
                     have a2' := hD6.cell 0 _ rfl
                     have a3' := hM6.cell 2 (.int .i64 rx) rfl
                     have a4' := hB6.cell 4 (.int .i64 rl) rfl
                     have hown7 := own_set hown6 ⟨wx.heap.size, 0, none⟩ (.slice (some ⟨g6, 0, none⟩) (lu.length + 1) k6) (fun g hg => by simp only [Value.ownBlock, Option.some.injEq] at hg; subst hg; simp only; omega)
                     have hownd7 := (own_set hownd6 ⟨wx.heap.size, 0, none⟩ (.slice (some ⟨g6, 0, none⟩) (lu.length + 1) k6) (fun g hg => by have := hltd g hg; simp only; omega)).alloc (.cells #[.int .i64 (q2 - 1000000 * rx)] 3)
                     have hU7 := (hU6.set 0 (.slice (some ⟨g6, 0, none⟩) (lu.length + 1) k6)).alloc (.cells #[.int .i64 (q2 - 1000000 * rx)] 3)
                     have hD7 := (hD6.other ⟨wx.heap.size, 0, none⟩ (.slice (some ⟨g6, 0, none⟩) (lu.length + 1) k6) (by simp)).alloc (.cells #[.int .i64 (q2 - 1000000 * rx)] 3)
                     have hb7 := (hb6.setCell (p := ⟨wx.heap.size, 0, none⟩) (by simp) (.slice (some ⟨g6, 0, none⟩) (lu.length + 1) k6)).alloc (by simp; omega) (.cells #[.int .i64 (q2 - 1000000 * rx)] 3)
                     have hnew : ∀ j u, ([Value.int .i64 (q2 - 1000000 * rx)] : List Value)[j]? = some u → ((w6.setCell ⟨wx.heap.size, 0, none⟩ (.slice (some ⟨g6, 0, none⟩) (lu.length + 1) k6)).alloc (.cells #[.int .i64 (q2 - 1000000 * rx)] 3)).cell? ((⟨w6.heap.size, 0, none⟩ : Addr).add j) = some u := by
                       have := cell_one_new (w6.setCell ⟨wx.heap.size, 0, none⟩ (.slice (some ⟨g6, 0, none⟩) (lu.length + 1) k6)) (.int .i64 (q2 - 1000000 * rx)) 3
                       simpa using this
                     clear hU5 hD5 hM5 hB5 hown5 hownd5 hb5 hU6 hD6 hM6 hB6 hownd6 hb6 hgrow6 hat6 hown6)
                  | (at_builtin
                     refine wpList_append_lies _ rfl _ _ 37 rfl (wx.heap.size + 2) 3 ii (.int .i64 0) 1 8 Try.underlying37 hi hz0 hz1 hz2 rfl (by decide) vd ld.length _ rfl hownd7 ⟨w6.heap.size, 0, none⟩ 1 1 [.int .i64 (q2 - 1000000 * rx)] rfl rfl hnew (by simp [Value.oneCell']) (by omega) (by unfold maxLen; omega) (by omega) (by simp; omega) _ rfl ?_
                     intro g8 k8 w8 hown8 hgrow8 hat8 hlt8
                     have hU8 := hU7.grown hgrow8 (fun e => by have := hltd _ e; omega)
                     have hD8 := hD7.grown hgrow8 (fun e => by have := hltd _ e; omega)
                     have hownu8 := own_grown (hown7.alloc (.cells #[.int .i64 (q2 - 1000000 * rx)] 3)) hgrow8 (fun g hg e => by simp only [Value.ownBlock, Option.some.injEq] at hg; subst hg; exact hg6.2 e)
                     have hb8 := hb7.grown hgrow8 (by simp; omega) (fun q hq => by have := hltd q hq; omega)
                     have hg8 : wx.heap.size + 2 ≤ g8 ∧ g6 ≠ g8 := by
                       rcases hat8 with hat | hat
                       · exact ⟨(hltd _ hat).1, fun e => hg6.2 (by rw [hat, e])⟩
                       · simp at hat; exact ⟨by omega, by omega⟩
                     have b0' := hD8.cell 0 _ rfl
                     have b1' := hD8.frozen 0
                     have hD9 := hD8.set 0 (.slice (some ⟨g8, 0, none⟩) (ld.length + 1) k8)
                     have hU9 := hU8.other ⟨wx.heap.size + 1, 0, none⟩ (.slice (some ⟨g8, 0, none⟩) (ld.length + 1) k8) (by simp)
                     have hownu9 := own_set hownu8 ⟨wx.heap.size + 1, 0, none⟩ (.slice (some ⟨g8, 0, none⟩) (ld.length + 1) k8) (fun g hg => by simp only [Value.ownBlock, Option.some.injEq] at hg; subst hg; simp only; omega)
                     have hownd9 := own_set hown8 ⟨wx.heap.size + 1, 0, none⟩ (.slice (some ⟨g8, 0, none⟩) (ld.length + 1) k8) (fun g hg => by simp only [Value.ownBlock, Option.some.injEq] at hg; subst hg; simp only; omega)
                     have hb9 := hb8.setCell (p := ⟨wx.heap.size + 1, 0, none⟩) (by simp) (.slice (some ⟨g8, 0, none⟩) (ld.length + 1) k8)
                     clear hU7 hD7 hown7 hownd7 hb7 hU8 hD8 hownu8 hb8 hgrow8 hat8 hown8))
                have hownuF : (w8.setCell ⟨wx.heap.size + 1, 0, none⟩ (.slice (some ⟨g8, 0, none⟩) (ld.length + 1) k8)).ownsRow (wx.heap.size + 2) 3 1 (.slice (some ⟨g6, 0, none⟩) (lu.length + 1) k6) (lu ++ [f2E b m]).length ((lu ++ [f2E b m]).map (Value.int .i64)) := by rw [hvA.out]; simpa using hownu9
                have howndF : (w8.setCell ⟨wx.heap.size + 1, 0, none⟩ (.slice (some ⟨g8, 0, none⟩) (ld.length + 1) k8)).ownsRow (wx.heap.size + 2) 3 1 (.slice (some ⟨g8, 0, none⟩) (ld.length + 1) k8) (ld ++ [f3E b m]).length ((ld ++ [f3E b m]).map (Value.int .i64)) := by rw [hvB.out]; simpa using hownd9
                clear hownu9 hownd9
                have hrh := HRH.out
                have hrl := HRL.out
                subst hrh hrl
                go_roundw
                case rel => exact ⟨k2 + 1, _, _, _, _, by omega, by go_num, hsnu, hsnd, hU9, hD9, hownuF, howndF, fun q hq e => by simp only [Value.ownBlock, Option.some.injEq] at hq e; omega, hb9⟩
                case measure => simp [intOf]; omega
              · have hvA : Hid (f2E b m = 1000000 * rx - p1) := by unfold Hid; rw [HF2.out]; omega
                have hvB : Hid (f3E b m = q1 - 1000000 * rx) := by unfold Hid; rw [HF3.out]; omega
                have e5 : IntKind.i64.wrap (1000000 * rx - p1) = 1000000 * rx - p1 := IntWalk.i64_in _ (by omega)
                have e6 : IntKind.i64.wrap (q1 - 1000000 * rx) = q1 - 1000000 * rx := IntWalk.i64_in _ (by omega)
                clear HF2 HF3
                have hown5 := hown4.alloc (.cells #[.int .i64 (1000000 * rx - p1)] 3)
                have hU5 := hU4.alloc (.cells #[.int .i64 (1000000 * rx - p1)] 3)
                have hD5 := hD4.alloc (.cells #[.int .i64 (1000000 * rx - p1)] 3)
                have hM5 := hM4.alloc (.cells #[.int .i64 (1000000 * rx - p1)] 3)
                have hB5 := hB4m.alloc (.cells #[.int .i64 (1000000 * rx - p1)] 3)
                have hownd5 := hownd4.alloc (.cells #[.int .i64 (1000000 * rx - p1)] 3)
                have hb5 := hbi4.alloc (by omega) (.cells #[.int .i64 (1000000 * rx - p1)] 3)
                clear hU4 hD4 hM4 hB4m hown4 hownd4 hbi4
                go_wp2_with (first
                  | (at_builtin
                     refine wpList_append_lies _ rfl _ _ 37 rfl (wx.heap.size + 2) 3 ii (.int .i64 0) 1 8 Try.underlying37 hi hz0 hz1 hz2 rfl (by decide) vu lu.length _ rfl hown5 ⟨w4.heap.size, 0, none⟩ 1 1 [.int .i64 (1000000 * rx - p1)] rfl rfl (cell_one_new _ _ _) (by simp [Value.oneCell']) (by omega) (by unfold maxLen; omega) (by omega) (by simp; omega) _ rfl ?_
                     intro g6 k6 w6 hown6 hgrow6 hat6 hlt6
                     have hU6 := hU5.grown hgrow6 hvU
                     have hD6 := hD5.grown hgrow6 hvD
                     have hM6 := hM5.grown hgrow6 hvM
                     have hB6 := hB5.grown hgrow6 hvN
                     have hownd6 := own_grown hownd5 hgrow6 (fun g hg e => hsep _ e hg)
                     have hb6 := hb5.grown hgrow6 (by simp; omega) (fun q hq => by have := hltu q hq; omega)
                     have hs6 : w4.heap.size ≤ w6.heap.size := by have := hgrow6.size; simp at this; omega
                     have hg6 : wx.heap.size + 2 ≤ g6 ∧ vd.ownBlock ≠ some g6 := by
                       rcases hat6 with hat | hat
                       · exact ⟨(hltu _ hat).1, hsep _ hat⟩
                       · simp at hat; exact ⟨by omega, fun e => by have := hltd _ e; omega⟩
                     have a0' := hU6.cell 0 _ rfl
                     have a1' := hU6.frozen 0
                     have a2' := hD6.cell 0 _ rfl
                     have a3' := hM6.cell 2 (.int .i64 rx) rfl
                     have a4' := hB6.cell 4 (.int .i64 rl) rfl
                     have hown7 := own_set hown6 ⟨wx.heap.size, 0, none⟩ (.slice (some ⟨g6, 0, none⟩) (lu.length + 1) k6) (fun g hg => by simp only [Value.ownBlock, Option.some.injEq] at hg; subst hg; simp only; omega)
                     have hownd7 := (own_set hownd6 ⟨wx.heap.size, 0, none⟩ (.slice (some ⟨g6, 0, none⟩) (lu.length + 1) k6) (fun g hg => by have := hltd g hg; simp only; omega)).alloc (.cells #[.int .i64 (q1 - 1000000 * rx)] 3)
                     have hU7 := (hU6.set 0 (.slice (some ⟨g6, 0, none⟩) (lu.length + 1) k6)).alloc (.cells #[.int .i64 (q1 - 1000000 * rx)] 3)
                     have hD7 := (hD6.other ⟨wx.heap.size, 0, none⟩ (.slice (some ⟨g6, 0, none⟩) (lu.length + 1) k6) (by simp)).alloc (.cells #[.int .i64 (q1 - 1000000 * rx)] 3)
                     have hb7 := (hb6.setCell (p := ⟨wx.heap.size, 0, none⟩) (by simp) (.slice (some ⟨g6, 0, none⟩) (lu.length + 1) k6)).alloc (by simp; omega) (.cells #[.int .i64 (q1 - 1000000 * rx)] 3)
                     have hnew : ∀ j u, ([Value.int .i64 (q1 - 1000000 * rx)] : List Value)[j]? = some u → ((w6.setCell ⟨wx.heap.size, 0, none⟩ (.slice (some ⟨g6, 0, none⟩) (lu.length + 1) k6)).alloc (.cells #[.int .i64 (q1 - 1000000 * rx)] 3)).cell? ((⟨w6.heap.size, 0, none⟩ : Addr).add j) = some u := by
                       have := cell_one_new (w6.setCell ⟨wx.heap.size, 0, none⟩ (.slice (some ⟨g6, 0, none⟩) (lu.length + 1) k6)) (.int .i64 (q1 - 1000000 * rx)) 3
                       simpa using this
                     clear hU5 hD5 hM5 hB5 hown5 hownd5 hb5 hU6 hD6 hM6 hB6 hownd6 hb6 hgrow6 hat6 hown6)
                  | (at_builtin
                     refine wpList_append_lies _ rfl _ _ 37 rfl (wx.heap.size + 2) 3 ii (.int .i64 0) 1 8 Try.underlying37 hi hz0 hz1 hz2 rfl (by decide) vd ld.length _ rfl hownd7 ⟨w6.heap.size, 0, none⟩ 1 1 [.int .i64 (q1 - 1000000 * rx)] rfl rfl hnew (by simp [Value.oneCell']) (by omega) (by unfold maxLen; omega) (by omega) (by simp; omega) _ rfl ?_
                     intro g8 k8 w8 hown8 hgrow8 hat8 hlt8
                     have hU8 := hU7.grown hgrow8 (fun e => by have := hltd _ e; omega)
                     have hD8 := hD7.grown hgrow8 (fun e => by have := hltd _ e; omega)
                     have hownu8 := own_grown (hown7.alloc (.cells #[.int .i64 (q1 - 1000000 * rx)] 3)) hgrow8 (fun g hg e => by simp only [Value.ownBlock, Option.some.injEq] at hg; subst hg; exact hg6.2 e)
                     have hb8 := hb7.grown hgrow8 (by simp; omega) (fun q hq => by have := hltd q hq; omega)
                     have hg8 : wx.heap.size + 2 ≤ g8 ∧ g6 ≠ g8 := by
                       rcases hat8 with hat | hat
                       · exact ⟨(hltd _ hat).1, fun e => hg6.2 (by rw [hat, e])⟩
                       · simp at hat; exact ⟨by omega, by omega⟩
                     have b0' := hD8.cell 0 _ rfl
                     have b1' := hD8.frozen 0
                     have hD9 := hD8.set 0 (.slice (some ⟨g8, 0, none⟩) (ld.length + 1) k8)
                     have hU9 := hU8.other ⟨wx.heap.size + 1, 0, none⟩ (.slice (some ⟨g8, 0, none⟩) (ld.length + 1) k8) (by simp)
                     have hownu9 := own_set hownu8 ⟨wx.heap.size + 1, 0, none⟩ (.slice (some ⟨g8, 0, none⟩) (ld.length + 1) k8) (fun g hg => by simp only [Value.ownBlock, Option.some.injEq] at hg; subst hg; simp only; omega)
                     have hownd9 := own_set hown8 ⟨wx.heap.size + 1, 0, none⟩ (.slice (some ⟨g8, 0, none⟩) (ld.length + 1) k8) (fun g hg => by simp only [Value.ownBlock, Option.some.injEq] at hg; subst hg; simp only; omega)
                     have hb9 := hb8.setCell (p := ⟨wx.heap.size + 1, 0, none⟩) (by simp) (.slice (some ⟨g8, 0, none⟩) (ld.length + 1) k8)
                     clear hU7 hD7 hown7 hownd7 hb7 hU8 hD8 hownu8 hb8 hgrow8 hat8 hown8))
                have hownuF : (w8.setCell ⟨wx.heap.size + 1, 0, none⟩ (.slice (some ⟨g8, 0, none⟩) (ld.length + 1) k8)).ownsRow (wx.heap.size + 2) 3 1 (.slice (some ⟨g6, 0, none⟩) (lu.length + 1) k6) (lu ++ [f2E b m]).length ((lu ++ [f2E b m]).map (Value.int .i64)) := by rw [hvA.out]; simpa using hownu9
                have howndF : (w8.setCell ⟨wx.heap.size + 1, 0, none⟩ (.slice (some ⟨g8, 0, none⟩) (ld.length + 1) k8)).ownsRow (wx.heap.size + 2) 3 1 (.slice (some ⟨g8, 0, none⟩) (ld.length + 1) k8) (ld ++ [f3E b m]).length ((ld ++ [f3E b m]).map (Value.int .i64)) := by rw [hvB.out]; simpa using hownd9
                clear hownu9 hownd9
                have hrh := HRH.out
                have hrl := HRL.out
                subst hrh hrl
                go_roundw
                case rel => exact ⟨k2 + 1, _, _, _, _, by omega, by go_num, hsnu, hsnd, hU9, hD9, hownuF, howndF, fun q hq e => by simp only [Value.ownBlock, Option.some.injEq] at hq e; omega, hb9⟩
                case measure => simp [intOf]; omega
            · have hlue : lu = b.mats.map (f2E b) := by rw [hxu.out, List.take_of_length_le (by omega)]
              have hlde : ld = b.mats.map (f3E b) := by rw [hxd.out, List.take_of_length_le (by omega)]
              have hlul : lu.length = b.mats.length := by rw [hlue, List.length_map]
              have hldl : ld.length = b.mats.length := by rw [hlde, List.length_map]
              obtain ⟨gu, ku, rfl, hgu, hgu2⟩ := hownu.form (by omega)
              obtain ⟨gd, kd, rfl, hgd, hgd2⟩ := hownd.form (by omega)
              have hIu : ∀ x ∈ lu, I64 x := by rw [hlue]; intro x hx; obtain ⟨m, hm, rfl⟩ := List.mem_map.1 hx; exact (hbd m hm).1
              have hId : ∀ x ∈ ld, I64 x := by rw [hlde]; intro x hx; obtain ⟨m, hm, rfl⟩ := List.mem_map.1 hx; exact (hbd m hm).2
              have hxs := Lib.hid (show l ++ [(⟨lu, 0⟩ : Ln), ⟨ld, 0⟩] = rlnB b by rw [hxe.out, hlue, hlde]; rfl)
              have hlul1 : lu.length ≤ 12 := by omega
              have hldl1 : ld.length ≤ 12 := by omega
              have u0 : wr.cell? ⟨wx.heap.size, 0, none⟩ = some (.slice (some ⟨gu, 0, none⟩) lu.length ku) := hUi.cell 0 _ rfl
              have u1 : wr.cell? ⟨wx.heap.size, 1, none⟩ = some (.int .i64 0) := hUi.cell 1 _ rfl
              have d0 : wr.cell? ⟨wx.heap.size + 1, 0, none⟩ = some (.slice (some ⟨gd, 0, none⟩) ld.length kd) := hDi.cell 0 _ rfl
              have d1 : wr.cell? ⟨wx.heap.size + 1, 1, none⟩ = some (.int .i64 0) := hDi.cell 1 _ rfl
              have hkm2 : b.mats.length ≤ k2 := by omega
              have hlt4 : ∀ q, u7.ownBlock = some q → q < wx.heap.size := own_lt hown.choose_spec.2.1
              have ownO := (hown.below lnMono hGi).below lnMono (below_box wr (.cells #[.slice (some ⟨gu, 0, none⟩) lu.length ku, .int .i64 0, .slice (some ⟨gd, 0, none⟩) ld.length kd, .int .i64 0] 39))
              have hcu : RInts (vis (fun b => True ∧ offOwn u7 b) (wr.alloc (.cells #[.slice (some ⟨gu, 0, none⟩) lu.length ku, .int .i64 0, .slice (some ⟨gd, 0, none⟩) ld.length kd, .int .i64 0] 39))) (.slice (some ⟨gu, 0, none⟩) lu.length ku) lu := own_RInts (own_vis (hownu.alloc _) (fun g hg => ⟨trivial, fun e => by have := hlt4 g e; simp only [Value.ownBlock, Option.some.injEq] at hg; omega⟩)) (by omega) hIu
              have hcd : RInts (vis (fun b => True ∧ offOwn u7 b) (wr.alloc (.cells #[.slice (some ⟨gu, 0, none⟩) lu.length ku, .int .i64 0, .slice (some ⟨gd, 0, none⟩) ld.length kd, .int .i64 0] 39))) (.slice (some ⟨gd, 0, none⟩) ld.length kd) ld := own_RInts (own_vis (hownd.alloc _) (fun g hg => ⟨trivial, fun e => by have := hlt4 g e; simp only [Value.ownBlock, Option.some.injEq] at hg; omega⟩)) (by omega) hId
              obtain ⟨us, hus, hown6, hone, hR6⟩ := ownO
              have hbW := hfin2.trans ((below_box wr (.cells #[.slice (some ⟨gu, 0, none⟩) lu.length ku, .int .i64 0, .slice (some ⟨gd, 0, none⟩) ld.length kd, .int .i64 0] 39)).mono (by omega))
              clear hlue hlde hlul hldl hxu hxd hbd hownu hownd hsep hUi hDi hBi hfin2 hfinB hBr hIu hId hown hsame hb hU hD hG hxe hob
              go_wp2_with (at_builtin; refine wpList_append_lies _ rfl _ _ _ rfl (w.heap.size + 2) 39 il _ 2 32 Try.underlying32 li lz0 lz1 lz2 rfl (by omega) _ l.length _ rfl hown6 ⟨wr.heap.size, 0, none⟩ 2 2 (pc (.slice (some ⟨gu, 0, none⟩) lu.length ku, .int .i64 0) ++ pc (.slice (some ⟨gd, 0, none⟩) ld.length kd, .int .i64 0)) rfl rfl (World.news_of_block (cs := #[.slice (some ⟨gu, 0, none⟩) lu.length ku, .int .i64 0, .slice (some ⟨gd, 0, none⟩) ld.length kd, .int .i64 0]) (heap_alloc_new wr _)) (by simp [pc, Value.oneCell']) (by omega) (by unfold maxLen; omega) (by omega) (by simp; omega) _ rfl ?_; intro g6 k6 w7 hown7 hgrow7 hat7 hlt7)
              have hownF := ownPairs_snoc (R := LnIs) lnMono (w := wr.alloc (.cells #[.slice (some ⟨gu, 0, none⟩) lu.length ku, .int .i64 0, .slice (some ⟨gd, 0, none⟩) ld.length kd, .int .i64 0] 39)) (l2 := [⟨lu, 0⟩, ⟨ld, 0⟩]) (us2 := [(.slice (some ⟨gu, 0, none⟩) lu.length ku, .int .i64 0), (.slice (some ⟨gd, 0, none⟩) ld.length kd, .int .i64 0)]) hus rfl (by simpa using hown7) hgrow7 hat7 hone
                (by intro u hu; simp only [List.mem_cons, List.not_mem_nil, or_false] at hu; rcases hu with rfl | rfl <;> exact ⟨rfl, rfl⟩) hR6
                (fun i h1 h2 => by
                  have hi2 : i < 2 := h1
                  match i, hi2 with
                  | 0, _ => exact ⟨hcu, rfl, I64_zero⟩
                  | 1, _ => exact ⟨hcd, rfl, I64_zero⟩)
              have hlen : (l ++ [(⟨lu, 0⟩ : Ln), ⟨ld, 0⟩]).length ≤ 140737488351232 := by rw [List.length_append]; simp; omega
              have hres := own_pairs_RSl lnMono hownF (fun _ _ => trivial) hlen
              rw [hxs.out] at hres
              have hRes : RLns w7 _ (rlnB b) := RLns.mono (vis_ext _ _) hres
              have hB7 := hbW.grown hgrow7 (by simp; omega) (fun q hq => by have := (hown6.lt q hq).1; omega)
              clear hownF hres hown7 hgrow7 hat7 hown6 hone hR6 hcu hcd hbW hlt4 hus hlen
              go_wp2
              go_ret
              exact ⟨_, rfl, hRes, hB7⟩

end Go.Proofs.Ytpkggjfaefkiiaa
