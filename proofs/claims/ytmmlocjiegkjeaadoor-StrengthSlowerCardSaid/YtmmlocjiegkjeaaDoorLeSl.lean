/- The law StrengthSlower: every input; no statement is proved here. -/
import Derived.Test.YtmmlocjiegkjeaaDoorLeA
import Derived.Test.YtmmlocjiegkjeaaDoorLeM2
import Derived.Test.YtmmlocjiegkjeaaDoorSOwn
import Derived.Test.YtmmlocjiegkjeaaDoorRange
import Derived.Test.YtmmlocjiegkjeaaDoorSLives
import Derived.Test.YtmmlocjiegkjeaaDoorSCLaw
import Derived.Test.YtmmlocjiegkjeaaDoorSCells
namespace Go.Proofs.YtmmlocjiegkjeaaDoor
open Go.RowKit Go.PlainAid
set_option linter.unusedVariables false
set_option linter.unusedSimpArgs false
attribute [local go_sem ↓] exec_ask
attribute [local go_sem] beq_self_eq_true bne_self_eq_false

theorem own_othr {w : World} {base : Nat} {e : TypeId} {size : Nat} {v : Value} {n : Nat} {xs : List Value} (h : w.ownsRow base e size v n xs) (p : Addr) (x : Value) (hp : v.ownBlock ≠ some p.block) : (w.setCell p x).ownsRow base e size v n xs := by
  obtain ⟨h1, h2⟩ := h
  refine ⟨h1, ?_⟩
  rcases h2 with h2 | ⟨g, cap, cur, hv, hg, hh, r⟩
  · exact Or.inl h2
  · refine Or.inr ⟨g, cap, cur, hv, hg, ?_, r⟩
    rw [Below.heap_setCell _ _ _ _ (fun e => by subst e; subst hv; exact hp rfl)]
    exact hh
theorem info_knee : (Tryd.prog.info? 63).map (fun i => (i.zero, i.size, i.bytes)) = some (some (.agg #[.int .i64 0, .int .i64 0]), 2, 16) := by kernel_rfl

/-- as the law writes it down. -/
def slowW (ks : List Sp) : List Sp := ks.map fun k => ⟨wrap64 (2 * k.lo), k.hi⟩
theorem slowW_len (ks : List Sp) : (slowW ks).length = ks.length := by simp [slowW]
theorem slowW_take {ks : List Sp} {k : Nat} (h : k < ks.length) : (slowW ks).take k ++ [⟨wrap64 (2 * (ks[k]'h).lo), (ks[k]'h).hi⟩] = (slowW ks).take (k + 1) := by
  rw [List.take_succ_eq_append_getElem (by rw [slowW_len]; exact h)]
  simp [slowW]
theorem slowW_ok {l : Lr} (h : OkLr l) : slowW l.knees = slowK l.knees := by
  unfold slowW slowK
  refine List.map_congr_left fun k hk => ?_
  obtain ⟨i, hi, rfl⟩ := List.getElem_of_mem hk
  have h1 := h.lo0 i hi
  obtain ⟨-, h2, -⟩ := kOk_iff.1 (h.knees i hi)
  rw [kn_eq hi] at h1 h2
  rw [wrap_id (2 * l.knees[i].lo) (by unfold I64; omega)]
theorem RLr.knees {w : World} {a : Option Addr} {cap : Nat} {l : Lr} (h : RLr w (.agg #[.slice a l.knees.length cap, .int .i64 l.factor]) l) {k : Nat} (hk : k < l.knees.length) :
    ∃ bb o, a = some ⟨bb, o, none⟩ ∧ w.cell? ⟨bb, o + k * 2, none⟩ = some (.int .i64 (l.knees[k]'hk).lo) ∧ w.cell? ⟨bb, o + k * 2 + 1, none⟩ = some (.int .i64 (l.knees[k]'hk).hi) ∧ I64 (l.knees[k]'hk).hi := by
  obtain ⟨v0, he, ⟨a1, c1, h1, -, -, hl⟩, -⟩ := h
  simp only [Value.agg.injEq, Array.mk.injEq, List.cons.injEq, and_true] at he
  obtain rfl := he
  simp only [Value.slice.injEq] at h1
  obtain ⟨rfl, -, rfl⟩ := h1
  obtain ⟨bb, o, e, q1, q2, -, q4⟩ := hl k hk
  exact ⟨bb, o, e, q1, q2, q4⟩
theorem slowW_i64 {w : World} {a : Option Addr} {cap : Nat} {l : Lr} (h : RLr w (.agg #[.slice a l.knees.length cap, .int .i64 l.factor]) l) : ∀ x ∈ slowW l.knees, I64 x.lo ∧ I64 x.hi := by
  intro x hx
  obtain ⟨k, hk, rfl⟩ := List.mem_map.1 hx
  obtain ⟨i, hi, rfl⟩ := List.getElem_of_mem hk
  obtain ⟨-, -, -, -, -, h4⟩ := h.knees hi
  exact ⟨wrap_I64 _, h4⟩

theorem slow_steepF {l : Lr} (h : OkLr l) (hs : OkLr (slowL l)) (t : Sp) : ∃ n1 d1 n2 d2 er, steepS l t = ((n1, d1), er) ∧ steepS (slowL l) t = ((n2, d2), er) ∧
    (er ≠ 0 ∨ er = 0 ∧ (0 ≤ n1 ∧ n1 ≤ 10000) ∧ (1 ≤ d1 ∧ d1 ≤ 2000) ∧ (0 ≤ n2 ∧ n2 ≤ 10000) ∧ (1 ≤ d2 ∧ d2 ≤ 2000) ∧ 2 * n2 * d1 = n1 * d2) := by
  have ht : tempsE (slowL l) t = tempsE l t := by unfold tempsE; rw [checkL_of h, checkL_of hs]
  unfold steepS
  rw [ht]
  by_cases he : tempsE l t = 0
  · rw [if_pos he, if_pos he]
    have a := steepL_ok h t
    have b := steepL_ok hs t
    have c := lowQ_q a
    have d := lowQ_q b
    have r := slow_ratio h t
    have := a.n2; have := b.n2; have := a.d2; have := b.d2
    have := c.n1; have := c.n2; have := c.d1; have := c.d2
    have := d.n1; have := d.n2; have := d.d1; have := d.d2
    exact ⟨(lowQ (steepL l t)).1, (lowQ (steepL l t)).2, (lowQ (steepL (slowL l) t)).1, (lowQ (steepL (slowL l) t)).2, 0, rfl, rfl, .inr ⟨rfl, by omega, by omega, by omega, by omega, r⟩⟩
  · rw [if_neg he, if_neg he]
    exact ⟨_, _, _, _, _, rfl, rfl, .inl he⟩
theorem slow_heldF {l : Lr} (h : OkLr l) (hs : OkLr (slowL l)) (t : Int) : ∃ h1 h2 er, heldS l t = (h1, er) ∧ heldS (slowL l) t = (h2, er) ∧ 0 ≤ h1 ∧ h1 ≤ 48000 ∧ 2 * h1 ≤ h2 := by
  have ht : heldE (slowL l) t = heldE l t := by unfold heldE; rw [checkL_of h, checkL_of hs]
  unfold heldS
  rw [ht]
  by_cases he : heldE l t = 0
  · rw [if_pos he, if_pos he]
    have a := heldL_bd h t
    exact ⟨_, _, _, rfl, rfl, a.1, a.2, slow_held h t⟩
  · rw [if_neg he, if_neg he]
    exact ⟨_, _, _, rfl, rfl, by omega, by omega, by omega⟩
theorem slow_strainF {l : Lr} (h : OkLr l) (hs : OkLr (slowL l)) (t : Sp) (th : Int) : ∃ s1 s2 er, strainS l t th = (s1, er) ∧ strainS (slowL l) t th = (s2, er) ∧ s2 ≤ s1 := by
  have ht : strainE (slowL l) t th = strainE l t th := by unfold strainE tempsE; rw [checkL_of h, checkL_of hs]
  unfold strainS
  rw [ht]
  by_cases he : strainE l t th = 0
  · rw [if_pos he, if_pos he]
    exact ⟨_, _, _, rfl, rfl, slow_strain h hs t th⟩
  · rw [if_neg he, if_neg he]
    exact ⟨_, _, _, rfl, rfl, Int.le_refl _⟩
theorem slow_annF {l : Lr} (h : OkLr l) (hs : OkLr (slowL l)) (v : Sp × Int) (below soak th lim : Int) : ∃ b1 b2 er, annealS l v below soak th lim = (b1, er) ∧ annealS (slowL l) v below soak th lim = (b2, er) ∧ (b1 = true → b2 = true) := by
  have ht : annealE (slowL l) v below soak th lim = annealE l v below soak th lim := by unfold annealE; rw [checkL_of h, checkL_of hs]
  unfold annealS
  rw [ht]
  by_cases he : annealE l v below soak th lim = 0
  · rw [if_pos he, if_pos he]
    refine ⟨_, _, _, rfl, rfl, fun hb => ?_⟩
    simp only [annealB, Bool.and_eq_true, decide_eq_true_eq] at hb ⊢
    have a := slow_held h v.1.hi
    have b := heldL_bd h v.1.hi
    have c := slow_strain h hs ⟨v.1.lo - below, v.1.hi⟩ th
    omega
  · rw [if_neg he, if_neg he]
    exact ⟨_, _, _, rfl, rfl, fun hb => by cases hb⟩

set_option maxHeartbeats 8000000 in
set_option maxRecDepth 100000 in
theorem sSlowerLaw_any (vl vb vx : Value) (l : Lr) (b : Bat) (x : Ask5) (w : World) (h : RLr w vl l) (hb : RBat w vb b) (hx : RAskC w vx x) (hC : Circ w) :
    Calls Tryd.prog 5 #[vl, vb, vx] w (TrueB w) := by
  have h0 := h
  have hb0 := hb
  have hx0 := hx
  obtain ⟨v0, rfl, hr, hI⟩ := h
  obtain ⟨a, cap, rfl, -, ⟨-, hkm⟩, -⟩ := hr
  obtain ⟨a0, k0, a1, k1, a2, k2, a3, k3, rfl⟩ := hb.agg
  obtain ⟨vt, vm, vr, pa, pk, cl, rfl, hx', -⟩ := hx
  obtain ⟨vt', vm', vr', pa', pk', he, hx1, hx2, hx3, -, hxi⟩ := hx'
  simp only [askCells, Value.agg.injEq, Array.mk.injEq, List.cons.injEq, and_true, true_and] at he
  obtain ⟨rfl, rfl, rfl, -⟩ := he
  have hc0 := hx3
  obtain ⟨at', kt, rfl, -, -, -⟩ := hx1
  obtain ⟨am, km, rfl, -, -, -⟩ := hx2
  obtain ⟨ar, kr, rfl, -, -, -⟩ := hx3
  have hA : Below w.heap.size w (((w.alloc (.cells #[.slice a l.knees.length cap, .int .i64 l.factor] 24)).alloc (.cells #[.slice a0 b.oxides.length k0, .slice a1 b.mats.length k1, .slice a2 b.shares.length k2, .slice a3 b.props.length k3, .int .i64 b.redox.lo, .int .i64 b.redox.hi, .int .i64 b.wanted] 52)).alloc (.cells (askCells x (.slice at' x.thick.length kt) (.slice am x.measured.length km) (.slice ar x.recipe.length kr) pa pk) 33)) := ((below_boxS w _).alloc (by simp) _).alloc (by simp only [World.size_alloc]; omega) _
  have hB := ((Blk.new w #[.slice a l.knees.length cap, .int .i64 l.factor] 24).alloc (.cells #[.slice a0 b.oxides.length k0, .slice a1 b.mats.length k1, .slice a2 b.shares.length k2, .slice a3 b.props.length k3, .int .i64 b.redox.lo, .int .i64 b.redox.hi, .int .i64 b.wanted] 52)).alloc (.cells (askCells x (.slice at' x.thick.length kt) (.slice am x.measured.length km) (.slice ar x.recipe.length kr) pa pk) 33)
  have hM := (Blk.new (w.alloc (.cells #[.slice a l.knees.length cap, .int .i64 l.factor] 24)) #[.slice a0 b.oxides.length k0, .slice a1 b.mats.length k1, .slice a2 b.shares.length k2, .slice a3 b.props.length k3, .int .i64 b.redox.lo, .int .i64 b.redox.hi, .int .i64 b.wanted] 52).alloc (.cells (askCells x (.slice at' x.thick.length kt) (.slice am x.measured.length km) (.slice ar x.recipe.length kr) pa pk) 33)
  have hX := Blk.new ((w.alloc (.cells #[.slice a l.knees.length cap, .int .i64 l.factor] 24)).alloc (.cells #[.slice a0 b.oxides.length k0, .slice a1 b.mats.length k1, .slice a2 b.shares.length k2, .slice a3 b.props.length k3, .int .i64 b.redox.lo, .int .i64 b.redox.hi, .int .i64 b.wanted] 52)) (askCells x (.slice at' x.thick.length kt) (.slice am x.measured.length km) (.slice ar x.recipe.length kr) pa pk) 33
  have hz : (((w.alloc (.cells #[.slice a l.knees.length cap, .int .i64 l.factor] 24)).alloc (.cells #[.slice a0 b.oxides.length k0, .slice a1 b.mats.length k1, .slice a2 b.shares.length k2, .slice a3 b.props.length k3, .int .i64 b.redox.lo, .int .i64 b.redox.hi, .int .i64 b.wanted] 52)).alloc (.cells (askCells x (.slice at' x.thick.length kt) (.slice am x.measured.length km) (.slice ar x.recipe.length kr) pa pk) 33)).heap.size = w.heap.size + 3 := by simp
  replace hz := Nat.le_of_eq hz.symm
  simp only [World.size_alloc] at hM hX
  simp only [askCells] at hA hB hM hX hz ⊢
  go_enter Tryd.func5, Tryd.ntmps5
  have HI := Lib.hid hxi
  have HR := Lib.hid (fun V (hV : Below w.heap.size w V) => h0.mono (ext_of_below hV))
  have HBT := Lib.hid (fun V (hV : Below w.heap.size w V) => hb0.mono (ext_of_below hV))
  have HX := Lib.hid (fun V (hV : Below w.heap.size w V) => hx0.mono (ext_of_below hV))
  have HRC := Lib.hid (fun V (hV : Below w.heap.size w V) => hc0.mono (ext_of_below hV))
  have HC := Lib.hid (fun V (hV : Below w.heap.size w V) => hC.mono (ext_of_below hV))
  clear h0 hb0 hx0 hc0 hC hxi hb
  simp only [askCells] at HX
  by_cases hg : (100 : Int) < (l.knees.length : Int)
  · have gg := decide_eq_true hg
    have c0 := hB.cell 0 _ rfl
    clear hB hX hM
    go_wp2_with fail
    generalize ((w.alloc (.cells #[.slice a l.knees.length cap, .int .i64 l.factor] 24)).alloc (.cells #[.slice a0 b.oxides.length k0, .slice a1 b.mats.length k1, .slice a2 b.shares.length k2, .slice a3 b.props.length k3, .int .i64 b.redox.lo, .int .i64 b.redox.hi, .int .i64 b.wanted] 52)).alloc _ = W2 at *
    refine (lives5_any _ (HC.out _ hA)).mono ?_
    rintro e wl ⟨rfl, hbl⟩
    have hAl := hA.trans (hbl.mono hA.size)
    clear hbl hA
    go_wp2
    go_ret
    exact ⟨rfl, hAl⟩
  have gg := decide_eq_false hg
  have c0 := hB.cell 0 _ rfl
  have m0 := hM.cell 0 _ rfl
  have m1 := hM.cell 1 _ rfl
  have m2 := hM.cell 2 _ rfl
  have m3 := hM.cell 3 _ rfl
  have m4 := hM.cell 4 _ rfl
  have m5 := hM.cell 5 _ rfl
  have m6 := hM.cell 6 _ rfl
  go_wp2_with fail
  generalize ((w.alloc (.cells #[.slice a l.knees.length cap, .int .i64 l.factor] 24)).alloc (.cells #[.slice a0 b.oxides.length k0, .slice a1 b.mats.length k1, .slice a2 b.shares.length k2, .slice a3 b.props.length k3, .int .i64 b.redox.lo, .int .i64 b.redox.hi, .int .i64 b.wanted] 52)).alloc _ = w1 at *
  refine (B1.great_any _ b _ (HBT.out _ hA)).mono ?_
  rintro e w2 ⟨rg, rfl, hb2⟩
  have hA2 := hA.trans (hb2.mono hA.size)
  have hB2 := hB.below hb2 hB.lt
  have hM2 := hM.below hb2 hM.lt
  have hX2 := hX.below hb2 hX.lt
  have hz2 : w.heap.size + 3 ≤ w2.heap.size := by have := hb2.size; omega
  clear hA hB hM hX hb2 hz c0 m0 m1 m2 m3 m4 m5 m6 gg
  cases rg with
  | true =>
    clear hB2 hM2 hX2
    go_wp2_with fail
    refine (lives5_any _ (HC.out _ hA2)).mono ?_
    rintro e wl ⟨rfl, hbl⟩
    have hAl := hA2.trans (hbl.mono hA2.size)
    clear hbl hA2
    go_wp2
    go_ret
    exact ⟨rfl, hAl⟩
  | false =>
  have hld := ld_ask hX2 rfl
  go_wp2_with fail
  refine (wide5_any _ x _ (HX.out _ hA2)).mono ?_
  rintro e w3 ⟨rw, rfl, hwd, hb3⟩
  have hA3 := hA2.trans (hb3.mono hA2.size)
  have hB3 := hB2.below hb3 hB2.lt
  have hM3 := hM2.below hb3 hM2.lt
  have hX3 := hX2.below hb3 hX2.lt
  have hz3 : w.heap.size + 3 ≤ w3.heap.size := by have := hb3.size; omega
  clear hA2 hB2 hM2 hX2 hb3 hz2 hld hwd
  cases rw with
  | true =>
    clear hB3 hM3 hX3
    go_wp2_with fail
    refine (lives5_any _ (HC.out _ hA3)).mono ?_
    rintro e wl ⟨rfl, hbl⟩
    have hAl := hA3.trans (hbl.mono hA3.size)
    clear hbl hA3
    go_wp2
    go_ret
    exact ⟨rfl, hAl⟩
  | false =>
  have hA4 := hA3.alloc hA3.size (.cells #[.slice none 0 0, .int .i64 l.factor] 24)
  have hB4 := hB3.alloc (.cells #[.slice none 0 0, .int .i64 l.factor] 24)
  have hM4 := hM3.alloc (.cells #[.slice none 0 0, .int .i64 l.factor] 24)
  have hX4 := hX3.alloc (.cells #[.slice none 0 0, .int .i64 l.factor] 24)
  have hQ4 := Blk.new w3 #[.slice none 0 0, .int .i64 l.factor] 24
  have hz4 : (w3.alloc (.cells #[.slice none 0 0, .int .i64 l.factor] 24)).heap.size = w3.heap.size + 1 := by simp
  have c1 := hB3.cell 1 _ rfl
  clear hA3 hB3 hM3 hX3
  go_wp2_with fail
  generalize w3.alloc (.cells #[.slice none 0 0, .int .i64 l.factor] 24) = W0 at *
  generalize w3.heap.size = pS at *
  clear c1
  go_loopw [8] (fun i wr => ∃ (k : Nat) (v : Value) (rs : List Sp), k ≤ l.knees.length ∧ i = .int .i64 k ∧ Hid (rs = (slowW l.knees).take k) ∧ Blk wr pS #[v, .int .i64 l.factor] 24 ∧ wr.ownsRow W0.heap.size 63 2 v rs.length (rs.flatMap spCells) ∧ BelS (fun j => j = pS) W0.heap.size W0 wr ∧ Below w.heap.size w wr) (fun i _ => l.knees.length - (intOf i).toNat)
  case atStart => exact ⟨0, _, [], Nat.zero_le _, rfl, Lib.hid (by simp), hQ4, World.ownsRow_nil _ _ _ _, BelS.refl _ _ _, hA4⟩
  case round =>
    obtain ⟨k, v, rs, hk, rfl, hgd, hQr, hown, hBS, hBel⟩ := hrel
    have hBr := hBS.blk hB4 (by omega) (by omega)
    have hMr := hBS.blk hM4 (by omega) (by omega)
    have hXr := hBS.blk hX4 (by omega) (by omega)
    have c0 := hBr.cell 0 _ rfl
    have lz := hBS.size
    by_cases hlt : k < l.knees.length
    · obtain ⟨bb, o1, rfl, x0', x1', -⟩ := RLr.knees (HR.out _ (Below.refl _ _)) hlt
      have htb := cell_lt x0'
      simp only at htb
      have x0 := ext_of_below hBel _ _ x0'
      have x1 := ext_of_below hBel _ _ x1'
      clear x0' x1'
      have i3 : (0 : Int) ≤ (k : Int) := Int.natCast_nonneg _
      have i4 : (k : Int) < (l.knees.length : Int) := by omega
      have hul := hgd.out
      have HGD := Lib.hid (slowW_take hlt)
      have HUL : Hid (rs.length = k) := Lib.hid (by rw [hul, List.length_take, slowW_len]; omega)
      rw [← hul] at HGD
      generalize l.knees[k].lo = lo at *
      generalize l.knees[k].hi = hi at *
      obtain ⟨sl, hsl⟩ : ∃ sl, wrap64 (2 * lo) = sl := ⟨_, rfl⟩
      have y0 : IntKind.i64.wrap (2 * lo) = sl := (IntWalk.i64_left _).trans hsl
      rw [hsl] at HGD
      have hwb : ∀ g, v.ownBlock = some g → W0.heap.size ≤ g := fun g hg => (hown.lt g hg).1
      have hwl := own_lt hown
      have hn2 : v.ownBlock ≠ some pS := fun e => by have := hwb _ e; omega
      have lQ := hQr.lt
      have kk0 := hQr.cell 0 _ rfl
      clear hgd hul hwl hMr hXr
      go_wp2_with fail
      have hHH : (fun w' : World => w'.cell? ⟨pS, 0, none⟩ = some v ∧ w'.cell? ⟨w.heap.size, 0, none⟩ = some (.slice (some ⟨bb, o1, none⟩) l.knees.length cap) ∧ w'.cell? ⟨bb, o1 + k * 2, none⟩ = some (.int .i64 lo) ∧ w'.cell? ⟨bb, o1 + k * 2 + 1, none⟩ = some (.int .i64 hi)) wr.drew := ⟨kk0, c0, x0, x1⟩
      refine wp_region_till (fun w' : World => w'.cell? ⟨pS, 0, none⟩ = some v ∧ w'.cell? ⟨w.heap.size, 0, none⟩ = some (.slice (some ⟨bb, o1, none⟩) l.knees.length cap) ∧ w'.cell? ⟨bb, o1 + k * 2, none⟩ = some (.int .i64 lo) ∧ w'.cell? ⟨bb, o1 + k * 2 + 1, none⟩ = some (.int .i64 hi)) 19 (by kernel_rfl) hHH (fun hHeld => ?_)
      have D0 : Below wr.heap.size wr wr.drew := (Below.refl _ _).drew
      have hds : Hid (wr.drew.heap.size = wr.heap.size) := Lib.hid rfl
      generalize wr.drew = wd at *
      refine Till.take 0 (some 42) (v := ?_) rfl rfl (by kernel_rfl) (by kernel_rfl) (by kernel_rfl) (by kernel_rfl) (fun _ _ _ h => h) (Or.inl ⟨by rfl, ?_⟩) (by assumption) ?_
      rotate_left
      · (intro w hSw; (try dsimp only at hSw); go_simp; try with_reducible rfl)
      try simp only [Act.put, List.setIfInBounds_toArray, List.set_cons_zero, List.set_cons_succ]
      refine Till.take 1 (some 43) (v := ?_) rfl rfl (by kernel_rfl) (by kernel_rfl) (by kernel_rfl) (by kernel_rfl) (fun _ _ _ h => h) (Or.inl ⟨by rfl, ?_⟩) (by assumption) ?_
      rotate_left
      · (intro w hSw; (try dsimp only at hSw); go_simp; try with_reducible rfl)
      try simp only [Act.put, List.setIfInBounds_toArray, List.set_cons_zero, List.set_cons_succ]
      refine Till.take 2 (some 44) (v := ?_) rfl rfl (by kernel_rfl) (by kernel_rfl) (by kernel_rfl) (by kernel_rfl) (fun _ _ _ h => h) (Or.inl ⟨by rfl, ?_⟩) (by assumption) ?_
      rotate_left
      · (intro w hSw; (try dsimp only at hSw); go_simp; try with_reducible rfl)
      try simp only [Act.put, List.setIfInBounds_toArray, List.set_cons_zero, List.set_cons_succ]
      refine Till.take 3 (some 45) (v := ?_) rfl rfl (by kernel_rfl) (by kernel_rfl) (by kernel_rfl) (by kernel_rfl) (fun _ _ _ h => h) (Or.inl ⟨by rfl, ?_⟩) (by assumption) ?_
      rotate_left
      · (intro w hSw; (try dsimp only at hSw); go_simp; try with_reducible rfl)
      try simp only [Act.put, List.setIfInBounds_toArray, List.set_cons_zero, List.set_cons_succ]
      refine Till.take 4 (some 46) (v := ?_) rfl rfl (by kernel_rfl) (by kernel_rfl) (by kernel_rfl) (by kernel_rfl) (fun _ _ _ h => h) (Or.inl ⟨by rfl, ?_⟩) (by assumption) ?_
      rotate_left
      · (intro w hSw; (try dsimp only at hSw); go_simp; try with_reducible rfl)
      try simp only [Act.put, List.setIfInBounds_toArray, List.set_cons_zero, List.set_cons_succ]
      refine Till.take 5 (some 47) (v := ?_) rfl rfl (by kernel_rfl) (by kernel_rfl) (by kernel_rfl) (by kernel_rfl) (fun _ _ _ h => h) (Or.inl ⟨by rfl, ?_⟩) (by assumption) ?_
      rotate_left
      · (intro w hSw; (try dsimp only at hSw); go_simp; try with_reducible rfl)
      try simp only [Act.put, List.setIfInBounds_toArray, List.set_cons_zero, List.set_cons_succ]
      refine Till.take 6 (some 48) (v := ?_) rfl rfl (by kernel_rfl) (by kernel_rfl) (by kernel_rfl) (by kernel_rfl) (fun _ _ _ h => h) (Or.inl ⟨by rfl, ?_⟩) (by assumption) ?_
      rotate_left
      · (intro w hSw; (try dsimp only at hSw); go_simp; try with_reducible rfl)
      try simp only [Act.put, List.setIfInBounds_toArray, List.set_cons_zero, List.set_cons_succ]
      refine Till.take 7 (some 49) (v := ?_) rfl rfl (by kernel_rfl) (by kernel_rfl) (by kernel_rfl) (by kernel_rfl) (fun _ _ _ h => h) (Or.inl ⟨by rfl, ?_⟩) (by assumption) ?_
      rotate_left
      · (intro w hSw; (try dsimp only at hSw); go_simp; try with_reducible rfl)
      try simp only [Act.put, List.setIfInBounds_toArray, List.set_cons_zero, List.set_cons_succ]
      refine Till.take 8 (some 50) (v := ?_) rfl rfl (by kernel_rfl) (by kernel_rfl) (by kernel_rfl) (by kernel_rfl) (fun _ _ _ h => h) (Or.inl ⟨by rfl, ?_⟩) (by assumption) ?_
      rotate_left
      · (intro w hSw; (try dsimp only at hSw); go_simp; try with_reducible rfl)
      try simp only [Act.put, List.setIfInBounds_toArray, List.set_cons_zero, List.set_cons_succ]
      refine Till.take 9 (some 51) (v := ?_) rfl rfl (by kernel_rfl) (by kernel_rfl) (by kernel_rfl) (by kernel_rfl) (fun _ _ _ h => h) (Or.inl ⟨by rfl, ?_⟩) (by assumption) ?_
      rotate_left
      · (intro w hSw; (try dsimp only at hSw); go_simp; try with_reducible rfl)
      try simp only [Act.put, List.setIfInBounds_toArray, List.set_cons_zero, List.set_cons_succ]
      refine Till.take 10 (some 52) (v := ?_) rfl rfl (by kernel_rfl) (by kernel_rfl) (by kernel_rfl) (by kernel_rfl) (fun _ _ _ h => h) (Or.inl ⟨by rfl, ?_⟩) (by assumption) ?_
      rotate_left
      · (intro w hSw; (try dsimp only at hSw); go_simp; try with_reducible rfl)
      try simp only [Act.put, List.setIfInBounds_toArray, List.set_cons_zero, List.set_cons_succ]
      refine Till.take 11 (some 53) (v := ?_) rfl rfl (by kernel_rfl) (by kernel_rfl) (by kernel_rfl) (by kernel_rfl) (fun _ _ _ h => h) (Or.inl ⟨by rfl, ?_⟩) (by assumption) ?_
      rotate_left
      · (intro w hSw; (try dsimp only at hSw); go_simp; try with_reducible rfl)
      try simp only [Act.put, List.setIfInBounds_toArray, List.set_cons_zero, List.set_cons_succ]
      refine Till.take 12 (some 54) (v := ?_) rfl rfl (by kernel_rfl) (by kernel_rfl) (by kernel_rfl) (by kernel_rfl) (fun _ _ _ h => h) (Or.inl ⟨by rfl, ?_⟩) (by assumption) ?_
      rotate_left
      · (intro w hSw; (try dsimp only at hSw); go_simp; try with_reducible rfl)
      try simp only [Act.put, List.setIfInBounds_toArray, List.set_cons_zero, List.set_cons_succ]
      refine Till.take 13 (some 55) (v := ?_) rfl rfl (by kernel_rfl) (by kernel_rfl) (by kernel_rfl) (by kernel_rfl) (fun _ _ _ h => h) (Or.inl ⟨by rfl, ?_⟩) (by assumption) ?_
      rotate_left
      · (intro w hSw; (try dsimp only at hSw); go_simp; try with_reducible rfl)
      try simp only [Act.put, List.setIfInBounds_toArray, List.set_cons_zero, List.set_cons_succ]
      refine Till.take 14 (some 56) (v := ?_) rfl rfl (by kernel_rfl) (by kernel_rfl) (by kernel_rfl) (by kernel_rfl) (fun _ _ _ h => h) (Or.inl ⟨by rfl, ?_⟩) (by assumption) ?_
      rotate_left
      · (intro w hSw; (try dsimp only at hSw); go_simp; try with_reducible rfl)
      try simp only [Act.put, List.setIfInBounds_toArray, List.set_cons_zero, List.set_cons_succ]
      refine Till.take 15 (some 57) (v := ?_) rfl rfl (by kernel_rfl) (by kernel_rfl) (by kernel_rfl) (by kernel_rfl) (fun _ _ _ h => h) (Or.inl ⟨by rfl, ?_⟩) (by assumption) ?_
      rotate_left
      · (intro w hSw; (try dsimp only at hSw); go_simp; try with_reducible rfl)
      try simp only [Act.put, List.setIfInBounds_toArray, List.set_cons_zero, List.set_cons_succ]
      refine Till.one 16 rfl (by kernel_rfl) (fun K hK => ?_)
      go_simp
      have hDA := D0.alloc D0.size (.cells #[.int .i64 sl, .int .i64 hi] 63)
      have hownA := (own_below hown D0 (own_lt hown)).alloc (.cells #[.int .i64 sl, .int .i64 hi] 63)
      have hQA := (hQr.below D0 hQr.lt).alloc (.cells #[.int .i64 sl, .int .i64 hi] 63)
      have hHS := And.intro (ext_of_below hDA _ _ kk0) (And.intro (ext_of_below hDA _ _ c0) (And.intro (ext_of_below hDA _ _ x0) (ext_of_below hDA _ _ x1)))
      refine hK.out _ _ (fun _ => hHS) (fun _ => ?_)
      clear hK K
      try simp only [Act.put, List.setIfInBounds_toArray, List.set_cons_zero, List.set_cons_succ]
      have hnews : ∀ j u, ([.int .i64 sl, .int .i64 hi] : List Value)[j]? = some u → (wd.alloc (.cells #[.int .i64 sl, .int .i64 hi] 63)).cell? ((⟨wd.heap.size, 0, none⟩ : Addr).add j) = some u := World.news_of_block (w := wd.alloc (.cells #[.int .i64 sl, .int .i64 hi] 63)) (Blk.new wd #[.int .i64 sl, .int .i64 hi] 63)
      have hll := HUL.out
      have hds := hds.out
      have hvs := hBel.size
      have hn1 : v.ownBlock ≠ some bb := fun e => by have := hwb _ e; omega
      have hn3 : v.ownBlock ≠ some w.heap.size := fun e => by have := hwb _ e; omega
      obtain ⟨i0, hi0, hzz⟩ := Option.map_eq_some_iff.1 info_knee
      simp only [Prod.mk.injEq] at hzz
      obtain ⟨hz0, hz1, hz2⟩ := hzz
      refine Till.one 17 rfl (by kernel_rfl) (fun K hK => ?_)
      refine step_append_lies _ (by rfl) _ _ _ (by rfl) W0.heap.size 63 i0 _ 2 16 Tryd.underlying22 hi0 hz0 hz1 hz2 rfl (by omega) _ rs.length _ (by rfl) hownA ⟨wd.heap.size, 0, none⟩ 1 1 [.int .i64 sl, .int .i64 hi] (by rfl) (by rfl) hnews (by simp [Value.oneCell']) (by omega) (by unfold maxLen; omega) (by omega) (by rw [World.size_alloc]; omega) _ rfl ?_
      intro g6' k6 w6 hown6 hgrow6 hat6 hlt6
      refine hK.out _ _ (fun _ => ⟨hgrow6.cell hHS.1 (fun e => hn2 e.symm), hgrow6.cell hHS.2.1 (fun e => hn3 e.symm), hgrow6.cell hHS.2.2.1 (fun e => hn1 e.symm), hgrow6.cell hHS.2.2.2 (fun e => hn1 e.symm)⟩) (fun hHeld4 => ?_)
      clear hK K
      try simp only [Act.put]
      have hQ6 := hQA.grown hgrow6 hn2
      have hD6 : Below W0.heap.size wr w6 := (hDA.mono (by omega)).grown hgrow6 (by rw [World.size_alloc]; omega) (fun k e => hwb k e)
      have hB6 : Below w.heap.size w w6 := (hBel.trans (hDA.mono hBel.size)).grown hgrow6 (by rw [World.size_alloc]; omega) (fun k e => by have := hwb k e; omega)
      have hownF : w6.ownsRow W0.heap.size 63 2 (.slice (some ⟨g6', 0, none⟩) (rs.length + 1) k6) (rs ++ [(⟨sl, hi⟩ : Sp)]).length ((rs ++ [(⟨sl, hi⟩ : Sp)]).flatMap spCells) := by simpa [spCells] using hown6
      have hgb : W0.heap.size ≤ g6' := (hownF.lt g6' rfl).1
      have e0 := hQ6.cell 0 _ rfl
      have g0 := hQ6.frozen 0
      have hQ7 : Blk (w6.setCell ⟨pS, 0, none⟩ (.slice (some ⟨g6', 0, none⟩) (rs.length + 1) k6)) pS #[.slice (some ⟨g6', 0, none⟩) (rs.length + 1) k6, .int .i64 l.factor] 24 := by simpa using hQ6.set 0 (.slice (some ⟨g6', 0, none⟩) (rs.length + 1) k6)
      have HQ7 := Lib.hid hQ7
      have HO7 := Lib.hid (own_othr hownF ⟨pS, 0, none⟩ (.slice (some ⟨g6', 0, none⟩) (rs.length + 1) k6) (by simp only [Value.ownBlock, ne_eq, Option.some.injEq]; omega))
      have HS7 := Lib.hid ((hBS.trans (BelS.of_below hD6)).set ⟨pS, 0, none⟩ (.slice (some ⟨g6', 0, none⟩) (rs.length + 1) k6) (.inr rfl))
      have HB7 := Lib.hid (hB6.setCell (p := ⟨pS, 0, none⟩) (by simp only; omega) (.slice (some ⟨g6', 0, none⟩) (rs.length + 1) k6))
      have HGD7 := Lib.hid HGD.out
      have hh4 := hHeld4 (by decide)
      clear hown6 hgrow6 hownF hownA hnews hHS hQ6 hQ7 hQA hD6 hB6 hDA D0 hown hQr hBel hBS hi0 hz0 hz1 hz2 hll hHH hHeld x0 x1 c0 kk0
      refine Till.take 18 (some 60) (v := ?_) rfl rfl (by kernel_rfl) (by kernel_rfl) (by kernel_rfl) (by kernel_rfl) (fun _ _ _ h => h) (Or.inl ⟨by rfl, ?_⟩) (by assumption) ?_
      rotate_left
      · (intro w hSw; (try dsimp only at hSw); go_simp; try with_reducible rfl)
      try simp only [Act.put, List.setIfInBounds_toArray, List.set_cons_zero, List.set_cons_succ]
      refine Till.one 19 rfl (by kernel_rfl) (fun K hK => ?_)
      go_simp
      refine hK.out _ _ (fun h => absurd rfl h) (fun _ => ?_)
      clear hK K
      refine Till.done (by kernel_rfl) ?_ _
      clear hh4 hHeld4 e0 g0 y0
      go_wp2
      go_roundw
      case rel => exact ⟨k + 1, _, rs ++ [⟨sl, hi⟩], by omega, by go_num, HGD7, HQ7.out, HO7.out, HS7.out, HB7.out⟩
      case measure => simp [intOf]; omega
    · obtain rfl : k = l.knees.length := by omega
      have hrs : rs = slowW l.knees := by rw [hgd.out, List.take_of_length_le (by rw [slowW_len]; exact Nat.le_refl _)]
      have hi64 := slowW_i64 (HR.out _ hBel)
      rw [← hrs] at hi64
      have hlen : rs.length = l.knees.length := by rw [hrs, slowW_len]
      have hRS := own_RSps hown (by omega) hi64
      have hRS0 := hRS
      obtain ⟨a', cap', rfl, -⟩ := hRS
      obtain ⟨sl, hsl⟩ : ∃ sl : Lr, sl = ⟨rs, l.factor⟩ := ⟨_, rfl⟩
      have hRL : RLr wr (.agg #[.slice a' rs.length cap', .int .i64 l.factor]) sl := by rw [hsl]; exact ⟨_, rfl, hRS0, hI⟩
      have HRS := Lib.hid (fun V (hV : Below wr.heap.size wr V) => hRL.mono (ext_of_below hV))
      have HSL : Hid (sl = ⟨slowW l.knees, l.factor⟩) := Lib.hid (by rw [hsl, hrs])
      have hA5 := hBel
      have hR5 := Below.refl wr.heap.size wr
      have hB5 := hBr
      have hM5 := hMr
      have hX5 := hXr
      have hQ5 := hQr
      clear hlen hrs hi64 hRS0 hRL hsl hgd hown hBS hBel hBr hMr hXr hQr hA4 hB4 hM4 hX4 hQ4
      generalize rs.length = ns at *
      have c0 := hB5.cell 0 _ rfl
      have c1 := hB5.cell 1 _ rfl
      go_wp2_with fail
      refine (checkLehrP_any _ l _ (HR.out _ hA5)).mono ?_
      rintro e w6 ⟨rfl, hb⟩
      have hA6 := hA5.trans (hb.mono hA5.size)
      have hR6 := hR5.trans (hb.mono hR5.size)
      have hB6 := hB5.below hb hB5.lt
      have hM6 := hM5.below hb hM5.lt
      have hX6 := hX5.below hb hX5.lt
      have hQ6 := hQ5.below hb hQ5.lt
      clear hb hA5 hR5 hB5 hM5 hX5 hQ5
      clear c0 c1
      by_cases hE : checkL l = 0
      case neg =>
        have hne : (checkL l != 0) = true := by simpa using hE
        generalize checkL l = ee at *
        clear hE hR6 hB6 hM6 hX6 hQ6
        go_wp2_with fail
        refine (lives5_any _ (HC.out _ hA6)).mono ?_
        rintro e wl ⟨rfl, hbl⟩
        have hAl := hA6.trans (hbl.mono hA6.size)
        clear hbl hA6
        go_wp2
        go_ret
        exact ⟨rfl, hAl⟩
      have HOK := Lib.hid (okLr_of hE)
      rw [hE]
      clear hE
      have q0 := hQ6.cell 0 _ rfl
      have q1 := hQ6.cell 1 _ rfl
      go_wp2_with fail
      refine (checkLehrP_any _ sl _ (HRS.out _ hR6)).mono ?_
      rintro e w7 ⟨rfl, hb⟩
      have hA7 := hA6.trans (hb.mono hA6.size)
      have hR7 := hR6.trans (hb.mono hR6.size)
      have hB7 := hB6.below hb hB6.lt
      have hM7 := hM6.below hb hM6.lt
      have hX7 := hX6.below hb hX6.lt
      have hQ7 := hQ6.below hb hQ6.lt
      clear hb hA6 hR6 hB6 hM6 hX6 hQ6
      clear q0 q1
      by_cases hE : checkL sl = 0
      case neg =>
        have hne : (checkL sl != 0) = true := by simpa using hE
        generalize checkL sl = ee at *
        clear hE hR7 hB7 hM7 hX7 hQ7
        go_wp2_with fail
        refine (lives5_any _ (HC.out _ hA7)).mono ?_
        rintro e wl ⟨rfl, hbl⟩
        have hAl := hA7.trans (hbl.mono hA7.size)
        clear hbl hA7
        go_wp2
        go_ret
        exact ⟨rfl, hAl⟩
      have HOKS : Hid (sl = slowL l ∧ OkLr (slowL l)) := Lib.hid (by
        have e : sl = slowL l := by rw [HSL.out, slowW_ok HOK.out, slowL]
        exact ⟨e, e ▸ okLr_of hE⟩)
      rw [hE]
      clear hE HSL
      have c0 := hB7.cell 0 _ rfl
      have c1 := hB7.cell 1 _ rfl
      have x7 := hX7.cell 7 _ rfl
      have x8 := hX7.cell 8 _ rfl
      go_wp2_with fail
      refine (steepP_any _ l x.temps _ (HR.out _ hA7)).mono ?_
      rintro e w8 ⟨rfl, hb⟩
      have hA8 := hA7.trans (hb.mono hA7.size)
      have hR8 := hR7.trans (hb.mono hR7.size)
      have hB8 := hB7.below hb hB7.lt
      have hM8 := hM7.below hb hM7.lt
      have hX8 := hX7.below hb hX7.lt
      have hQ8 := hQ7.below hb hQ7.lt
      clear hb hA7 hR7 hB7 hM7 hX7 hQ7
      clear c0 c1 x7 x8
      obtain ⟨n1, d1, n2, d2, er, he1, he2, hcase⟩ := slow_steepF HOK.out HOKS.out.2 x.temps
      rw [← HOKS.out.1] at he2
      rw [he1]
      have HE := Lib.hid he2
      have HCS := Lib.hid hcase
      clear he1 he2 hcase
      have hA9 := hA8.alloc hA8.size (.cells #[.int .i64 n1, .int .i64 d1] 36)
      have hR9 := hR8.alloc hR8.size (.cells #[.int .i64 n1, .int .i64 d1] 36)
      have hB9 := hB8.alloc (.cells #[.int .i64 n1, .int .i64 d1] 36)
      have hM9 := hM8.alloc (.cells #[.int .i64 n1, .int .i64 d1] 36)
      have hX9 := hX8.alloc (.cells #[.int .i64 n1, .int .i64 d1] 36)
      have hQ9 := hQ8.alloc (.cells #[.int .i64 n1, .int .i64 d1] 36)
      have hP9 := Blk.new w8 #[.int .i64 n1, .int .i64 d1] 36
      clear hA8 hR8 hB8 hM8 hX8 hQ8
      have q0 := hQ9.cell 0 _ rfl
      have q1 := hQ9.cell 1 _ rfl
      have x7 := hX9.cell 7 _ rfl
      have x8 := hX9.cell 8 _ rfl
      go_wp2_with fail
      generalize w8.alloc (.cells #[.int .i64 n1, .int .i64 d1] 36) = w9 at *
      refine (steepP_any _ sl x.temps _ (HRS.out _ hR9)).mono ?_
      rintro e w10 ⟨rfl, hb⟩
      have hA10 := hA9.trans (hb.mono hA9.size)
      have hR10 := hR9.trans (hb.mono hR9.size)
      have hB10 := hB9.below hb hB9.lt
      have hM10 := hM9.below hb hM9.lt
      have hX10 := hX9.below hb hX9.lt
      have hQ10 := hQ9.below hb hQ9.lt
      have hP10 := hP9.below hb hP9.lt
      clear hb hA9 hR9 hB9 hM9 hX9 hQ9 hP9
      clear q0 q1 x7 x8
      generalize w8.heap.size = p8 at *
      rw [HE.out]
      clear HE
      have hA11 := hA10.alloc hA10.size (.cells #[.int .i64 n2, .int .i64 d2] 36)
      have hR11 := hR10.alloc hR10.size (.cells #[.int .i64 n2, .int .i64 d2] 36)
      have hB11 := hB10.alloc (.cells #[.int .i64 n2, .int .i64 d2] 36)
      have hM11 := hM10.alloc (.cells #[.int .i64 n2, .int .i64 d2] 36)
      have hX11 := hX10.alloc (.cells #[.int .i64 n2, .int .i64 d2] 36)
      have hQ11 := hQ10.alloc (.cells #[.int .i64 n2, .int .i64 d2] 36)
      have hP11 := hP10.alloc (.cells #[.int .i64 n2, .int .i64 d2] 36)
      have hO11 := Blk.new w10 #[.int .i64 n2, .int .i64 d2] 36
      clear hA10 hR10 hB10 hM10 hX10 hQ10 hP10
      have r0 := hP11.cell 0 _ rfl
      have r1 := hP11.cell 1 _ rfl
      have s0 := hO11.cell 0 _ rfl
      have s1 := hO11.cell 1 _ rfl
      have c0 := hB11.cell 0 _ rfl
      have c1 := hB11.cell 1 _ rfl
      have x11 := hX11.cell 11 _ rfl
      rcases HCS.out with hne | ⟨rfl, b1, b2, b3, b4, hre⟩
      · have hq : (er == 0) = false := by simpa using hne
        clear hne
        go_wp2_with fail
        generalize w10.alloc (.cells #[.int .i64 n2, .int .i64 d2] 36) = w11 at *
        clear r0 r1 s0 s1 hP11 hO11 HCS
        refine (heldP_any _ l x.temp _ (HR.out _ hA11)).mono ?_
        rintro e w12 ⟨rfl, hb⟩
        have hA12 := hA11.trans (hb.mono hA11.size)
        have hR12 := hR11.trans (hb.mono hR11.size)
        have hB12 := hB11.below hb hB11.lt
        have hM12 := hM11.below hb hM11.lt
        have hX12 := hX11.below hb hX11.lt
        have hQ12 := hQ11.below hb hQ11.lt
        clear hb hA11 hR11 hB11 hM11 hX11 hQ11
        clear c0 c1 x11
        obtain ⟨h1, h2, eh, he1, he2, hu⟩ := slow_heldF HOK.out HOKS.out.2 x.temp
        rw [← HOKS.out.1] at he2
        rw [he1]
        have HE := Lib.hid he2
        have HU := Lib.hid hu
        clear he1 he2 hu
        have q0 := hQ12.cell 0 _ rfl
        have q1 := hQ12.cell 1 _ rfl
        have x11 := hX12.cell 11 _ rfl
        go_wp2_with fail
        refine (heldP_any _ sl x.temp _ (HRS.out _ hR12)).mono ?_
        rintro e w13 ⟨rfl, hb⟩
        have hA13 := hA12.trans (hb.mono hA12.size)
        have hR13 := hR12.trans (hb.mono hR12.size)
        have hB13 := hB12.below hb hB12.lt
        have hM13 := hM12.below hb hM12.lt
        have hX13 := hX12.below hb hX12.lt
        have hQ13 := hQ12.below hb hQ12.lt
        clear hb hA12 hR12 hB12 hM12 hX12 hQ12
        clear q0 q1 x11
        rw [HE.out]
        clear HE
        have hu := HU.out
        clear HU
        have z1 := wrap_id (2 * h1) (by unfold I64; omega)
        have g1 : decide (h2 < 2 * h1) = false := decide_eq_false (by omega)
        clear hu
        have c0 := hB13.cell 0 _ rfl
        have c1 := hB13.cell 1 _ rfl
        have x7 := hX13.cell 7 _ rfl
        have x8 := hX13.cell 8 _ rfl
        have x12 := hX13.cell 12 _ rfl
        go_wp2_with fail
        clear z1 g1
        refine (strainP_any _ l x.temps x.wall _ (HR.out _ hA13)).mono ?_
        rintro e w14 ⟨rfl, hb⟩
        have hA14 := hA13.trans (hb.mono hA13.size)
        have hR14 := hR13.trans (hb.mono hR13.size)
        have hB14 := hB13.below hb hB13.lt
        have hM14 := hM13.below hb hM13.lt
        have hX14 := hX13.below hb hX13.lt
        have hQ14 := hQ13.below hb hQ13.lt
        clear hb hA13 hR13 hB13 hM13 hX13 hQ13
        clear c0 c1 x7 x8 x12
        obtain ⟨s1, s2, es, he1, he2, hu⟩ := slow_strainF HOK.out HOKS.out.2 x.temps x.wall
        rw [← HOKS.out.1] at he2
        rw [he1]
        have HE := Lib.hid he2
        have HU := Lib.hid hu
        clear he1 he2 hu
        have q0 := hQ14.cell 0 _ rfl
        have q1 := hQ14.cell 1 _ rfl
        have x7 := hX14.cell 7 _ rfl
        have x8 := hX14.cell 8 _ rfl
        have x12 := hX14.cell 12 _ rfl
        go_wp2_with fail
        refine (strainP_any _ sl x.temps x.wall _ (HRS.out _ hR14)).mono ?_
        rintro e w15 ⟨rfl, hb⟩
        have hA15 := hA14.trans (hb.mono hA14.size)
        have hR15 := hR14.trans (hb.mono hR14.size)
        have hB15 := hB14.below hb hB14.lt
        have hM15 := hM14.below hb hM14.lt
        have hX15 := hX14.below hb hX14.lt
        have hQ15 := hQ14.below hb hQ14.lt
        clear hb hA14 hR14 hB14 hM14 hX14 hQ14
        clear q0 q1 x7 x8 x12
        rw [HE.out]
        clear HE
        have hu := HU.out
        clear HU
        have g1 : decide (s1 < s2) = false := decide_eq_false (by omega)
        clear hu
        have c0 := hB15.cell 0 _ rfl
        have c1 := hB15.cell 1 _ rfl
        have m0 := hM15.cell 0 _ rfl
        have m1 := hM15.cell 1 _ rfl
        have m2 := hM15.cell 2 _ rfl
        have m3 := hM15.cell 3 _ rfl
        have m4 := hM15.cell 4 _ rfl
        have m5 := hM15.cell 5 _ rfl
        have m6 := hM15.cell 6 _ rfl
        have x12 := hX15.cell 12 _ rfl
        have x14 := hX15.cell 14 _ rfl
        have x15 := hX15.cell 15 _ rfl
        have x16 := hX15.cell 16 _ rfl
        have x17 := hX15.cell 17 _ rfl
        have x19 := hX15.cell 19 _ rfl
        go_wp2_with fail
        clear g1 m0 m1 m2 m3 m4 m5 m6
        refine (annealP_any _ _ _ l b x.recipe x.property x.below x.soak x.wall x.limit _ (HR.out _ hA15) (HBT.out _ hA15) (HRC.out _ hA15)).mono ?_
        rintro e w16 ⟨rfl, hb⟩
        have hA16 := hA15.trans (hb.mono hA15.size)
        have hR16 := hR15.trans (hb.mono hR15.size)
        have hB16 := hB15.below hb hB15.lt
        have hM16 := hM15.below hb hM15.lt
        have hX16 := hX15.below hb hX15.lt
        have hQ16 := hQ15.below hb hQ15.lt
        clear hb hA15 hR15 hB15 hM15 hX15 hQ15
        clear c0 c1 x12 x14 x15 x16 x17 x19
        obtain ⟨b1, b2, ea, he1, he2, hu⟩ := slow_annF HOK.out HOKS.out.2 (B1.valI b x.recipe x.property) x.below x.soak x.wall x.limit
        rw [← HOKS.out.1] at he2
        rw [he1]
        have HE := Lib.hid he2
        have HU := Lib.hid hu
        clear he1 he2 hu
        have q0 := hQ16.cell 0 _ rfl
        have q1 := hQ16.cell 1 _ rfl
        have x12 := hX16.cell 12 _ rfl
        have x14 := hX16.cell 14 _ rfl
        have x15 := hX16.cell 15 _ rfl
        have x16 := hX16.cell 16 _ rfl
        have x17 := hX16.cell 17 _ rfl
        have x19 := hX16.cell 19 _ rfl
        have m0 := hM16.cell 0 _ rfl
        have m1 := hM16.cell 1 _ rfl
        have m2 := hM16.cell 2 _ rfl
        have m3 := hM16.cell 3 _ rfl
        have m4 := hM16.cell 4 _ rfl
        have m5 := hM16.cell 5 _ rfl
        have m6 := hM16.cell 6 _ rfl
        go_wp2_with fail
        refine (annealP_any _ _ _ sl b x.recipe x.property x.below x.soak x.wall x.limit _ (HRS.out _ hR16) (HBT.out _ hA16) (HRC.out _ hA16)).mono ?_
        rintro e w17 ⟨rfl, hb⟩
        have hA17 := hA16.trans (hb.mono hA16.size)
        have hR17 := hR16.trans (hb.mono hR16.size)
        have hB17 := hB16.below hb hB16.lt
        have hM17 := hM16.below hb hM16.lt
        have hX17 := hX16.below hb hX16.lt
        have hQ17 := hQ16.below hb hQ16.lt
        clear hb hA16 hR16 hB16 hM16 hX16 hQ16
        clear q0 q1 x12 x14 x15 x16 x17 x19
        rw [HE.out]
        clear HE
        have hu := HU.out
        clear HU
        clear hR17 hB17 hM17 hX17 hQ17 m0 m1 m2 m3 m4 m5 m6
        cases b1 with
        | false =>
          clear hu
          go_wp2_with fail
          refine (lives5_any _ (HC.out _ hA17)).mono ?_
          rintro e wl ⟨rfl, hbl⟩
          have hAl := hA17.trans (hbl.mono hA17.size)
          clear hbl hA17
          go_wp2
          go_ret
          exact ⟨rfl, hAl⟩
        | true =>
          rw [hu rfl]
          clear hu
          go_wp2_with fail
          refine (lives5_any _ (HC.out _ hA17)).mono ?_
          rintro e wl ⟨rfl, hbl⟩
          have hAl := hA17.trans (hbl.mono hA17.size)
          clear hbl hA17
          go_wp2
          go_ret
          exact ⟨rfl, hAl⟩
      · have m1 := mulB (a := 2 * n2) (A := 20000) (b := d1) (B := 2000) (by omega) (by omega)
        have z1 := wrap_id (2 * n2) (by unfold I64; omega)
        have z2 := wrap_id (2 * n2 * d1) (by unfold I64; omega)
        have z3 : wrap64 (n1 * d2) = 2 * n2 * d1 := by rw [← hre]; exact z2
        have g1 : decide (d1 < 1) = false := decide_eq_false (by omega)
        have g2 : decide (d2 < 1) = false := decide_eq_false (by omega)
        clear m1 b1 b2 b3 b4 hre
        go_wp2_with fail
        clear z1 z2 z3 g1 g2
        generalize w10.alloc (.cells #[.int .i64 n2, .int .i64 d2] 36) = w11 at *
        clear r0 r1 s0 s1 hP11 hO11 HCS
        refine (heldP_any _ l x.temp _ (HR.out _ hA11)).mono ?_
        rintro e w12 ⟨rfl, hb⟩
        have hA12 := hA11.trans (hb.mono hA11.size)
        have hR12 := hR11.trans (hb.mono hR11.size)
        have hB12 := hB11.below hb hB11.lt
        have hM12 := hM11.below hb hM11.lt
        have hX12 := hX11.below hb hX11.lt
        have hQ12 := hQ11.below hb hQ11.lt
        clear hb hA11 hR11 hB11 hM11 hX11 hQ11
        clear c0 c1 x11
        obtain ⟨h1, h2, eh, he1, he2, hu⟩ := slow_heldF HOK.out HOKS.out.2 x.temp
        rw [← HOKS.out.1] at he2
        rw [he1]
        have HE := Lib.hid he2
        have HU := Lib.hid hu
        clear he1 he2 hu
        have q0 := hQ12.cell 0 _ rfl
        have q1 := hQ12.cell 1 _ rfl
        have x11 := hX12.cell 11 _ rfl
        go_wp2_with fail
        refine (heldP_any _ sl x.temp _ (HRS.out _ hR12)).mono ?_
        rintro e w13 ⟨rfl, hb⟩
        have hA13 := hA12.trans (hb.mono hA12.size)
        have hR13 := hR12.trans (hb.mono hR12.size)
        have hB13 := hB12.below hb hB12.lt
        have hM13 := hM12.below hb hM12.lt
        have hX13 := hX12.below hb hX12.lt
        have hQ13 := hQ12.below hb hQ12.lt
        clear hb hA12 hR12 hB12 hM12 hX12 hQ12
        clear q0 q1 x11
        rw [HE.out]
        clear HE
        have hu := HU.out
        clear HU
        have z1 := wrap_id (2 * h1) (by unfold I64; omega)
        have g1 : decide (h2 < 2 * h1) = false := decide_eq_false (by omega)
        clear hu
        have c0 := hB13.cell 0 _ rfl
        have c1 := hB13.cell 1 _ rfl
        have x7 := hX13.cell 7 _ rfl
        have x8 := hX13.cell 8 _ rfl
        have x12 := hX13.cell 12 _ rfl
        go_wp2_with fail
        clear z1 g1
        refine (strainP_any _ l x.temps x.wall _ (HR.out _ hA13)).mono ?_
        rintro e w14 ⟨rfl, hb⟩
        have hA14 := hA13.trans (hb.mono hA13.size)
        have hR14 := hR13.trans (hb.mono hR13.size)
        have hB14 := hB13.below hb hB13.lt
        have hM14 := hM13.below hb hM13.lt
        have hX14 := hX13.below hb hX13.lt
        have hQ14 := hQ13.below hb hQ13.lt
        clear hb hA13 hR13 hB13 hM13 hX13 hQ13
        clear c0 c1 x7 x8 x12
        obtain ⟨s1, s2, es, he1, he2, hu⟩ := slow_strainF HOK.out HOKS.out.2 x.temps x.wall
        rw [← HOKS.out.1] at he2
        rw [he1]
        have HE := Lib.hid he2
        have HU := Lib.hid hu
        clear he1 he2 hu
        have q0 := hQ14.cell 0 _ rfl
        have q1 := hQ14.cell 1 _ rfl
        have x7 := hX14.cell 7 _ rfl
        have x8 := hX14.cell 8 _ rfl
        have x12 := hX14.cell 12 _ rfl
        go_wp2_with fail
        refine (strainP_any _ sl x.temps x.wall _ (HRS.out _ hR14)).mono ?_
        rintro e w15 ⟨rfl, hb⟩
        have hA15 := hA14.trans (hb.mono hA14.size)
        have hR15 := hR14.trans (hb.mono hR14.size)
        have hB15 := hB14.below hb hB14.lt
        have hM15 := hM14.below hb hM14.lt
        have hX15 := hX14.below hb hX14.lt
        have hQ15 := hQ14.below hb hQ14.lt
        clear hb hA14 hR14 hB14 hM14 hX14 hQ14
        clear q0 q1 x7 x8 x12
        rw [HE.out]
        clear HE
        have hu := HU.out
        clear HU
        have g1 : decide (s1 < s2) = false := decide_eq_false (by omega)
        clear hu
        have c0 := hB15.cell 0 _ rfl
        have c1 := hB15.cell 1 _ rfl
        have m0 := hM15.cell 0 _ rfl
        have m1 := hM15.cell 1 _ rfl
        have m2 := hM15.cell 2 _ rfl
        have m3 := hM15.cell 3 _ rfl
        have m4 := hM15.cell 4 _ rfl
        have m5 := hM15.cell 5 _ rfl
        have m6 := hM15.cell 6 _ rfl
        have x12 := hX15.cell 12 _ rfl
        have x14 := hX15.cell 14 _ rfl
        have x15 := hX15.cell 15 _ rfl
        have x16 := hX15.cell 16 _ rfl
        have x17 := hX15.cell 17 _ rfl
        have x19 := hX15.cell 19 _ rfl
        go_wp2_with fail
        clear g1 m0 m1 m2 m3 m4 m5 m6
        refine (annealP_any _ _ _ l b x.recipe x.property x.below x.soak x.wall x.limit _ (HR.out _ hA15) (HBT.out _ hA15) (HRC.out _ hA15)).mono ?_
        rintro e w16 ⟨rfl, hb⟩
        have hA16 := hA15.trans (hb.mono hA15.size)
        have hR16 := hR15.trans (hb.mono hR15.size)
        have hB16 := hB15.below hb hB15.lt
        have hM16 := hM15.below hb hM15.lt
        have hX16 := hX15.below hb hX15.lt
        have hQ16 := hQ15.below hb hQ15.lt
        clear hb hA15 hR15 hB15 hM15 hX15 hQ15
        clear c0 c1 x12 x14 x15 x16 x17 x19
        obtain ⟨b1, b2, ea, he1, he2, hu⟩ := slow_annF HOK.out HOKS.out.2 (B1.valI b x.recipe x.property) x.below x.soak x.wall x.limit
        rw [← HOKS.out.1] at he2
        rw [he1]
        have HE := Lib.hid he2
        have HU := Lib.hid hu
        clear he1 he2 hu
        have q0 := hQ16.cell 0 _ rfl
        have q1 := hQ16.cell 1 _ rfl
        have x12 := hX16.cell 12 _ rfl
        have x14 := hX16.cell 14 _ rfl
        have x15 := hX16.cell 15 _ rfl
        have x16 := hX16.cell 16 _ rfl
        have x17 := hX16.cell 17 _ rfl
        have x19 := hX16.cell 19 _ rfl
        have m0 := hM16.cell 0 _ rfl
        have m1 := hM16.cell 1 _ rfl
        have m2 := hM16.cell 2 _ rfl
        have m3 := hM16.cell 3 _ rfl
        have m4 := hM16.cell 4 _ rfl
        have m5 := hM16.cell 5 _ rfl
        have m6 := hM16.cell 6 _ rfl
        go_wp2_with fail
        refine (annealP_any _ _ _ sl b x.recipe x.property x.below x.soak x.wall x.limit _ (HRS.out _ hR16) (HBT.out _ hA16) (HRC.out _ hA16)).mono ?_
        rintro e w17 ⟨rfl, hb⟩
        have hA17 := hA16.trans (hb.mono hA16.size)
        have hR17 := hR16.trans (hb.mono hR16.size)
        have hB17 := hB16.below hb hB16.lt
        have hM17 := hM16.below hb hM16.lt
        have hX17 := hX16.below hb hX16.lt
        have hQ17 := hQ16.below hb hQ16.lt
        clear hb hA16 hR16 hB16 hM16 hX16 hQ16
        clear q0 q1 x12 x14 x15 x16 x17 x19
        rw [HE.out]
        clear HE
        have hu := HU.out
        clear HU
        clear hR17 hB17 hM17 hX17 hQ17 m0 m1 m2 m3 m4 m5 m6
        cases b1 with
        | false =>
          clear hu
          go_wp2_with fail
          refine (lives5_any _ (HC.out _ hA17)).mono ?_
          rintro e wl ⟨rfl, hbl⟩
          have hAl := hA17.trans (hbl.mono hA17.size)
          clear hbl hA17
          go_wp2
          go_ret
          exact ⟨rfl, hAl⟩
        | true =>
          rw [hu rfl]
          clear hu
          go_wp2_with fail
          refine (lives5_any _ (HC.out _ hA17)).mono ?_
          rintro e wl ⟨rfl, hbl⟩
          have hAl := hA17.trans (hbl.mono hA17.size)
          clear hbl hA17
          go_wp2
          go_ret
          exact ⟨rfl, hAl⟩

end Go.Proofs.YtmmlocjiegkjeaaDoor
