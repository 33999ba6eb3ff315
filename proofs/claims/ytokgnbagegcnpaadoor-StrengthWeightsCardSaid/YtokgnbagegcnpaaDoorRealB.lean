/- A bottle with certain measures, each in its span: real by its contract; no statement is proved here. -/
import Derived.Test.YtokgnbagegcnpaaDoorPick
import Derived.Test.YtokgnbagegcnpaaDoorSLives
import Derived.Test.YtokgnbagegcnpaaDoorSOwn
namespace Go.Proofs.YtokgnbagegcnpaaDoor
open Go.RowKit Go.PlainAid
set_option linter.unusedVariables false
set_option linter.unusedSimpArgs false
attribute [local go_sem] Oper.semAt_some

theorem own_other {w : World} {base : Nat} {e : TypeId} {size : Nat} {v : Value} {n : Nat} {xs : List Value} (h : w.ownsRow base e size v n xs) (p : Addr) (x : Value) (hp : v.ownBlock ≠ some p.block) : (w.setCell p x).ownsRow base e size v n xs := by
  obtain ⟨h1, h2⟩ := h
  refine ⟨h1, ?_⟩
  rcases h2 with h2 | ⟨g, cap, cur, hv, hg, hh, r⟩
  · exact Or.inl h2
  · refine Or.inr ⟨g, cap, cur, hv, hg, ?_, r⟩
    rw [Below.heap_setCell _ _ _ _ (fun e => by subst e; subst hv; exact hp rfl)]
    exact hh
theorem own_RRgs {w : World} {base : Nat} {e : TypeId} {v : Value} {l : List Rg} (h : w.ownsRow base e 10 v l.length (l.flatMap rgCells)) (hm : l.length ≤ 140737488351232) (hi : ∀ x ∈ l, I64r x) : RRgs w v l :=
  own_RSl h hm fun g cap _ hc i hil => ⟨fun j x hj => by
    have hj' : j < 10 := by
      have := (List.getElem?_eq_some_iff.1 hj).1
      exact this
    exact flat_cell (c := rgCells) (n := 10) (fun _ => rfl) hc i j hil hj' _ hj, hi _ (List.getElem_mem hil)⟩
theorem info_ring : (Tryd.prog.info? 95).map (fun i => (i.zero, i.size, i.bytes)) = some (some (.agg #[.int .i64 0, .int .i64 0, .int .i64 0, .int .i64 0, .int .i64 0, .int .i64 0, .int .i64 0, .int .i64 0, .int .i64 0, .int .i64 0]), 10, 80) := by kernel_rfl

def GoodR (l rs : List Rg) : Prop := ∀ j (h : j < rs.length) (h' : j < l.length), OkR rs[j] ∧ InR rs[j] l[j]
theorem goodR_nil (l : List Rg) : GoodR l [] := fun j h => absurd h (by simp)
theorem goodR_snoc {l rs : List Rg} {c : Rg} (h : GoodR l rs) (hl : rs.length < l.length) (hc : OkR c) (hi : InR c l[rs.length]) : GoodR l (rs ++ [c]) := fun j h1 h2 => by
  by_cases e : j < rs.length
  · have := h j e h2
    rw [List.getElem_append_left e]
    exact this
  · have : j = rs.length := by rw [List.length_append, List.length_singleton] at h1; omega
    subst this
    simpa using ⟨hc, hi⟩
theorem okR_I {r : Rg} (h : OkR r) : I64r r := by
  have h1 := h.radius
  have h2 := h.height
  have h3 := h.share
  have h4 := h.factor
  have h5 := h.hit
  unfold I64r I64s I64
  omega

def RealP (w : World) (b : Bot) (e : Ending) (w' : World) : Prop := ∃ v rs, e = .returned (.agg #[v, .int .i64 b.flaw, .int .i64 b.tough]) ∧ RBot w' (.agg #[v, .int .i64 b.flaw, .int .i64 b.tough]) ⟨rs, b.flaw, b.tough⟩ ∧ rs.length = b.rings.length ∧ GoodR b.rings rs ∧ Below w.heap.size w w'

set_option maxHeartbeats 8000000 in
set_option maxRecDepth 100000 in
theorem real_any (vb vp : Value) (b : Bot) (pl : List Int) (w : World) (h : RBot w vb b) (hp : RU8s w vp pl) (hok : OkS b) :
    Calls Tryd.prog 45 #[vb, vp] w (RealP w b) := by
  have hp0 := hp
  obtain ⟨v0, rfl, hr, hI⟩ := h
  obtain ⟨a, cap, rfl, hc1, ⟨hc2, hm⟩, hl⟩ := hr
  obtain ⟨ap, kp, rfl, -, -, -⟩ := hp
  have hA : Below w.heap.size w (((w.alloc (.cells #[.slice a b.rings.length cap, .int .i64 b.flaw, .int .i64 b.tough] 24)).alloc (.cells #[.slice none 0 0, .int .i64 0, .int .i64 0] 24)).alloc (.cells #[.slice none 0 0, .int .i64 b.flaw, .int .i64 b.tough] 24)) := ((below_boxS w _).alloc (by simp) _).alloc (by simp only [World.size_alloc]; omega) _
  have hB := ((Blk.new w #[.slice a b.rings.length cap, .int .i64 b.flaw, .int .i64 b.tough] 24).alloc (.cells #[.slice none 0 0, .int .i64 0, .int .i64 0] 24)).alloc (.cells #[.slice none 0 0, .int .i64 b.flaw, .int .i64 b.tough] 24)
  have hO := (Blk.new (w.alloc (.cells #[.slice a b.rings.length cap, .int .i64 b.flaw, .int .i64 b.tough] 24)) #[.slice none 0 0, .int .i64 0, .int .i64 0] 24).alloc (.cells #[.slice none 0 0, .int .i64 b.flaw, .int .i64 b.tough] 24)
  have hQ := Blk.new ((w.alloc (.cells #[.slice a b.rings.length cap, .int .i64 b.flaw, .int .i64 b.tough] 24)).alloc (.cells #[.slice none 0 0, .int .i64 0, .int .i64 0] 24)) #[.slice none 0 0, .int .i64 b.flaw, .int .i64 b.tough] 24
  simp only [World.size_alloc, Nat.add_assoc, Nat.reduceAdd] at hO hQ
  have hz : (((w.alloc (.cells #[.slice a b.rings.length cap, .int .i64 b.flaw, .int .i64 b.tough] 24)).alloc (.cells #[.slice none 0 0, .int .i64 0, .int .i64 0] 24)).alloc (.cells #[.slice none 0 0, .int .i64 b.flaw, .int .i64 b.tough] 24)).heap.size = w.heap.size + 3 := by simp
  replace hz := And.intro (Nat.le_of_eq hz) (Nat.le_of_eq hz.symm)
  have HP := Lib.hid (fun V (hV : Below w.heap.size w V) => hp0.mono (ext_of_below hV))
  have hmo := hok.most
  go_enter Tryd.func45, Tryd.ntmps45
  go_wp2_with fail
  generalize ((w.alloc (.cells #[.slice a b.rings.length cap, .int .i64 b.flaw, .int .i64 b.tough] 24)).alloc (.cells #[.slice none 0 0, .int .i64 0, .int .i64 0] 24)).alloc (.cells #[.slice none 0 0, .int .i64 b.flaw, .int .i64 b.tough] 24) = W0 at *
  go_loopw [6] (fun i wr => ∃ (k : Nat) (v : Value) (rs : List Rg), k ≤ b.rings.length ∧ i = .int .i64 k ∧ Hid (rs.length = k ∧ GoodR b.rings rs) ∧ Blk wr (w.heap.size + 2) #[v, .int .i64 b.flaw, .int .i64 b.tough] 24 ∧ wr.ownsRow W0.heap.size 95 10 v rs.length (rs.flatMap rgCells) ∧ BelS (fun j => j = w.heap.size + 2) W0.heap.size W0 wr ∧ Below w.heap.size w wr) (fun i _ => b.rings.length - (intOf i).toNat)
  case atStart => exact ⟨0, _, [], Nat.zero_le _, rfl, ⟨rfl, goodR_nil _⟩, hQ, World.ownsRow_nil _ _ _ _, BelS.refl _ _ _, hA⟩
  case round =>
    obtain ⟨k, v, rs, hk, rfl, hgd, hQr, hown, hBS, hBel⟩ := hrel
    have hBr := hBS.blk hB (by omega) (by omega)
    have hOr := hBS.blk hO (by omega) (by omega)
    have c0 := hBr.cell 0 _ rfl
    have lz := hBS.size
    by_cases hlt : k < b.rings.length
    · obtain ⟨bb, o1, rfl, hcr, -⟩ := hl k hlt
      have htb := cell_lt (hcr 0 _ rfl)
      simp only at htb
      have i3 : (0 : Int) ≤ (k : Int) := Int.natCast_nonneg _
      have i4 : (k : Int) < (b.rings.length : Int) := by omega
      have i5 : (k : Int) ≤ 24 := by omega
      obtain ⟨hul, hgr⟩ := hgd.out
      have hokr := hok.rings k hlt
      have HGD : Hid (∀ c : Rg, OkR c → InR c b.rings[k] → GoodR b.rings (rs ++ [c])) := Lib.hid (fun c h1 h2 => goodR_snoc hgr (by omega) h1 (by simpa only [hul] using h2))
      generalize b.rings[k] = r at *
      have hx : ∀ j, j < 10 → wr.cell? ⟨bb, o1 + k * 10 + j, none⟩ = (rgCells r)[j]? := fun j hj => by
        have hj' : j < (rgCells r).length := hj
        rw [List.getElem?_eq_getElem hj']
        exact ext_of_below hBel _ _ (hcr j _ (List.getElem?_eq_getElem hj'))
      have x0 := hx 0 (by omega)
      have x1 := hx 1 (by omega)
      have x2 := hx 2 (by omega)
      have x3 := hx 3 (by omega)
      have x4 := hx 4 (by omega)
      have x5 := hx 5 (by omega)
      have x6 := hx 6 (by omega)
      have x7 := hx 7 (by omega)
      have x8 := hx 8 (by omega)
      have x9 := hx 9 (by omega)
      simp only [rgCells, Nat.add_zero, List.getElem?_cons_zero, List.getElem?_cons_succ] at x0 x1 x2 x3 x4 x5 x6 x7 x8 x9
      have hX := Blk.new wr #[.int .i64 r.radius.lo, .int .i64 r.radius.hi, .int .i64 r.height.lo, .int .i64 r.height.hi, .int .i64 r.share.lo, .int .i64 r.share.hi, .int .i64 r.factor.lo, .int .i64 r.factor.hi, .int .i64 r.hit.lo, .int .i64 r.hit.hi] 95
      have hownX := hown.alloc (.cells #[.int .i64 r.radius.lo, .int .i64 r.radius.hi, .int .i64 r.height.lo, .int .i64 r.height.hi, .int .i64 r.share.lo, .int .i64 r.share.hi, .int .i64 r.factor.lo, .int .i64 r.factor.hi, .int .i64 r.hit.lo, .int .i64 r.hit.hi] 95)
      have hQX := hQr.alloc (.cells #[.int .i64 r.radius.lo, .int .i64 r.radius.hi, .int .i64 r.height.lo, .int .i64 r.height.hi, .int .i64 r.share.lo, .int .i64 r.share.hi, .int .i64 r.factor.lo, .int .i64 r.factor.hi, .int .i64 r.hit.lo, .int .i64 r.hit.hi] 95)
      have hBelX := hBel.alloc hBel.size (.cells #[.int .i64 r.radius.lo, .int .i64 r.radius.hi, .int .i64 r.height.lo, .int .i64 r.height.hi, .int .i64 r.share.lo, .int .i64 r.share.hi, .int .i64 r.factor.lo, .int .i64 r.factor.hi, .int .i64 r.hit.lo, .int .i64 r.hit.hi] 95)
      have hBSX := hBS.trans (BelS.of_below ((below_boxS wr (.cells #[.int .i64 r.radius.lo, .int .i64 r.radius.hi, .int .i64 r.height.lo, .int .i64 r.height.hi, .int .i64 r.share.lo, .int .i64 r.share.hi, .int .i64 r.factor.lo, .int .i64 r.factor.hi, .int .i64 r.hit.lo, .int .i64 r.hit.hi] 95)).mono hBS.size))
      have HU := Lib.hid hul
      have HOK := Lib.hid hokr
      have hwb : ∀ g, v.ownBlock = some g → W0.heap.size ≤ g := fun g hg => (hown.lt g hg).1
      have hwl := own_lt hown
      have hn1 : v.ownBlock ≠ some wr.heap.size := fun e => by have := hwl _ e; omega
      have hn2 : v.ownBlock ≠ some (w.heap.size + 2) := fun e => by have := hwb _ e; omega
      clear hgd hul hgr hokr hcr hx hown hBr hOr hBel hBS hwl
      have lQ := hQr.lt
      go_wp2_with fail
      generalize wr.alloc (.cells #[.int .i64 r.radius.lo, .int .i64 r.radius.hi, .int .i64 r.height.lo, .int .i64 r.height.hi, .int .i64 r.share.lo, .int .i64 r.share.hi, .int .i64 r.factor.lo, .int .i64 r.factor.hi, .int .i64 r.hit.lo, .int .i64 r.hit.hi] 95) = V0 at *
      clear x0 x1 x2 x3 x4 x5 x6 x7 x8 x9 c0
      have HSV : Hid (∀ V, Below V0.heap.size V0 V → (fun w' : World => w'.cell? ⟨w.heap.size + 2, 0, none⟩ = some v ∧ w'.cell? ⟨wr.heap.size, 0, none⟩ = some (.int .i64 r.radius.lo) ∧ w'.cell? ⟨wr.heap.size, 1, none⟩ = some (.int .i64 r.radius.hi) ∧ w'.cell? ⟨wr.heap.size, 2, none⟩ = some (.int .i64 r.height.lo) ∧ w'.cell? ⟨wr.heap.size, 3, none⟩ = some (.int .i64 r.height.hi) ∧ w'.cell? ⟨wr.heap.size, 4, none⟩ = some (.int .i64 r.share.lo) ∧ w'.cell? ⟨wr.heap.size, 5, none⟩ = some (.int .i64 r.share.hi) ∧ w'.cell? ⟨wr.heap.size, 6, none⟩ = some (.int .i64 r.factor.lo) ∧ w'.cell? ⟨wr.heap.size, 7, none⟩ = some (.int .i64 r.factor.hi) ∧ w'.cell? ⟨wr.heap.size, 8, none⟩ = some (.int .i64 r.hit.lo) ∧ w'.cell? ⟨wr.heap.size, 9, none⟩ = some (.int .i64 r.hit.hi)) V) := Lib.hid (fun V hV => ⟨ext_of_below hV _ _ (hQX.cell 0 _ rfl), ext_of_below hV _ _ (hX.cell 0 _ rfl), ext_of_below hV _ _ (hX.cell 1 _ rfl), ext_of_below hV _ _ (hX.cell 2 _ rfl), ext_of_below hV _ _ (hX.cell 3 _ rfl), ext_of_below hV _ _ (hX.cell 4 _ rfl), ext_of_below hV _ _ (hX.cell 5 _ rfl), ext_of_below hV _ _ (hX.cell 6 _ rfl), ext_of_below hV _ _ (hX.cell 7 _ rfl), ext_of_below hV _ _ (hX.cell 8 _ rfl), ext_of_below hV _ _ (hX.cell 9 _ rfl)⟩)
      have D0 : Below V0.heap.size V0 V0.drew := (Below.refl _ _).drew
      have qr := HOK.out.radius
      have qh := HOK.out.height
      have qf := HOK.out.factor
      have qi := HOK.out.hit
      have y0 : IntKind.i64.wrap (4 * (k : Int)) = 4 * (k : Int) := (IntWalk.i64_left _).trans (wrap_id _ (by unfold I64; omega))
      have y1 : IntKind.i64.wrap (4 * (k : Int) + 1) = 4 * (k : Int) + 1 := (IntWalk.i64_left _).trans (wrap_id _ (by unfold I64; omega))
      have y2 : IntKind.i64.wrap (4 * (k : Int) + 2) = 4 * (k : Int) + 2 := (IntWalk.i64_left _).trans (wrap_id _ (by unfold I64; omega))
      have y3 : IntKind.i64.wrap (4 * (k : Int) + 3) = 4 * (k : Int) + 3 := (IntWalk.i64_left _).trans (wrap_id _ (by unfold I64; omega))
      refine wp_region_till (fun w' : World => w'.cell? ⟨w.heap.size + 2, 0, none⟩ = some v ∧ w'.cell? ⟨wr.heap.size, 0, none⟩ = some (.int .i64 r.radius.lo) ∧ w'.cell? ⟨wr.heap.size, 1, none⟩ = some (.int .i64 r.radius.hi) ∧ w'.cell? ⟨wr.heap.size, 2, none⟩ = some (.int .i64 r.height.lo) ∧ w'.cell? ⟨wr.heap.size, 3, none⟩ = some (.int .i64 r.height.hi) ∧ w'.cell? ⟨wr.heap.size, 4, none⟩ = some (.int .i64 r.share.lo) ∧ w'.cell? ⟨wr.heap.size, 5, none⟩ = some (.int .i64 r.share.hi) ∧ w'.cell? ⟨wr.heap.size, 6, none⟩ = some (.int .i64 r.factor.lo) ∧ w'.cell? ⟨wr.heap.size, 7, none⟩ = some (.int .i64 r.factor.hi) ∧ w'.cell? ⟨wr.heap.size, 8, none⟩ = some (.int .i64 r.hit.lo) ∧ w'.cell? ⟨wr.heap.size, 9, none⟩ = some (.int .i64 r.hit.hi)) 43 (by kernel_rfl) (HSV.out _ D0) (fun hHeld => ?_)
      refine Till.take 0 (some 25) (v := ?_) rfl rfl (by kernel_rfl) (by kernel_rfl) (by kernel_rfl) (by kernel_rfl) (fun _ _ _ h => h) (Or.inl ⟨by rfl, ?_⟩) (by assumption) ?_
      rotate_left
      · (intro w hSw; (try dsimp only at hSw); go_simp; try with_reducible rfl)
      try simp only [Act.put, List.setIfInBounds_toArray, List.set_cons_zero, List.set_cons_succ]
      refine Till.take 1 (some 26) (v := ?_) rfl rfl (by kernel_rfl) (by kernel_rfl) (by kernel_rfl) (by kernel_rfl) (fun _ _ _ h => h) (Or.inl ⟨by rfl, ?_⟩) (by assumption) ?_
      rotate_left
      · (intro w hSw; (try dsimp only at hSw); go_simp; try with_reducible rfl)
      try simp only [Act.put, List.setIfInBounds_toArray, List.set_cons_zero, List.set_cons_succ]
      refine Till.take 2 (some 27) (v := ?_) rfl rfl (by kernel_rfl) (by kernel_rfl) (by kernel_rfl) (by kernel_rfl) (fun _ _ _ h => h) (Or.inl ⟨by rfl, ?_⟩) (by assumption) ?_
      rotate_left
      · (intro w hSw; (try dsimp only at hSw); go_simp; try with_reducible rfl)
      try simp only [Act.put, List.setIfInBounds_toArray, List.set_cons_zero, List.set_cons_succ]
      refine Till.take 3 (some 28) (v := ?_) rfl rfl (by kernel_rfl) (by kernel_rfl) (by kernel_rfl) (by kernel_rfl) (fun _ _ _ h => h) (Or.inl ⟨by rfl, ?_⟩) (by assumption) ?_
      rotate_left
      · (intro w hSw; (try dsimp only at hSw); go_simp; try with_reducible rfl)
      try simp only [Act.put, List.setIfInBounds_toArray, List.set_cons_zero, List.set_cons_succ]
      refine Till.take 4 (some 29) (v := ?_) rfl rfl (by kernel_rfl) (by kernel_rfl) (by kernel_rfl) (by kernel_rfl) (fun _ _ _ h => h) (Or.inl ⟨by rfl, ?_⟩) (by assumption) ?_
      rotate_left
      · (intro w hSw; (try dsimp only at hSw); go_simp; try with_reducible rfl)
      try simp only [Act.put, List.setIfInBounds_toArray, List.set_cons_zero, List.set_cons_succ]
      refine Till.take 5 (some 30) (v := ?_) rfl rfl (by kernel_rfl) (by kernel_rfl) (by kernel_rfl) (by kernel_rfl) (fun _ _ _ h => h) (Or.inl ⟨by rfl, ?_⟩) (by assumption) ?_
      rotate_left
      · (intro w hSw; (try dsimp only at hSw); go_simp; try with_reducible rfl)
      try simp only [Act.put, List.setIfInBounds_toArray, List.set_cons_zero, List.set_cons_succ]
      refine Till.take 6 (some 31) (v := ?_) rfl rfl (by kernel_rfl) (by kernel_rfl) (by kernel_rfl) (by kernel_rfl) (fun _ _ _ h => h) (Or.inl ⟨by rfl, ?_⟩) (by assumption) ?_
      rotate_left
      · (intro w hSw; (try dsimp only at hSw); go_simp; try with_reducible rfl)
      try simp only [Act.put, List.setIfInBounds_toArray, List.set_cons_zero, List.set_cons_succ]
      refine Till.take 10 (some 35) (v := ?_) rfl rfl (by kernel_rfl) (by kernel_rfl) (by kernel_rfl) (by kernel_rfl) (fun _ _ _ h => h) (Or.inl ⟨by rfl, ?_⟩) (by assumption) ?_
      rotate_left
      · (intro w hSw; (try dsimp only at hSw); go_simp; try with_reducible rfl)
      try simp only [Act.put, List.setIfInBounds_toArray, List.set_cons_zero, List.set_cons_succ]
      refine Till.take 11 (some 36) (v := ?_) rfl rfl (by kernel_rfl) (by kernel_rfl) (by kernel_rfl) (by kernel_rfl) (fun _ _ _ h => h) (Or.inl ⟨by rfl, ?_⟩) (by assumption) ?_
      rotate_left
      · (intro w hSw; (try dsimp only at hSw); go_simp; try with_reducible rfl)
      try simp only [Act.put, List.setIfInBounds_toArray, List.set_cons_zero, List.set_cons_succ]
      refine Till.take 12 (some 37) (v := ?_) rfl rfl (by kernel_rfl) (by kernel_rfl) (by kernel_rfl) (by kernel_rfl) (fun _ _ _ h => h) (Or.inl ⟨by rfl, ?_⟩) (by assumption) ?_
      rotate_left
      · (intro w hSw; (try dsimp only at hSw); go_simp; try with_reducible rfl)
      try simp only [Act.put, List.setIfInBounds_toArray, List.set_cons_zero, List.set_cons_succ]
      refine Till.take 13 (some 38) (v := ?_) rfl rfl (by kernel_rfl) (by kernel_rfl) (by kernel_rfl) (by kernel_rfl) (fun _ _ _ h => h) (Or.inl ⟨by rfl, ?_⟩) (by assumption) ?_
      rotate_left
      · (intro w hSw; (try dsimp only at hSw); go_simp; try with_reducible rfl)
      try simp only [Act.put, List.setIfInBounds_toArray, List.set_cons_zero, List.set_cons_succ]
      refine Till.take 14 (some 39) (v := ?_) rfl rfl (by kernel_rfl) (by kernel_rfl) (by kernel_rfl) (by kernel_rfl) (fun _ _ _ h => h) (Or.inl ⟨by rfl, ?_⟩) (by assumption) ?_
      rotate_left
      · (intro w hSw; (try dsimp only at hSw); go_simp; try with_reducible rfl)
      try simp only [Act.put, List.setIfInBounds_toArray, List.set_cons_zero, List.set_cons_succ]
      refine Till.take 15 (some 40) (v := ?_) rfl rfl (by kernel_rfl) (by kernel_rfl) (by kernel_rfl) (by kernel_rfl) (fun _ _ _ h => h) (Or.inl ⟨by rfl, ?_⟩) (by assumption) ?_
      rotate_left
      · (intro w hSw; (try dsimp only at hSw); go_simp; try with_reducible rfl)
      try simp only [Act.put, List.setIfInBounds_toArray, List.set_cons_zero, List.set_cons_succ]
      refine Till.take 19 (some 44) (v := ?_) rfl rfl (by kernel_rfl) (by kernel_rfl) (by kernel_rfl) (by kernel_rfl) (fun _ _ _ h => h) (Or.inl ⟨by rfl, ?_⟩) (by assumption) ?_
      rotate_left
      · (intro w hSw; (try dsimp only at hSw); go_simp; try with_reducible rfl)
      try simp only [Act.put, List.setIfInBounds_toArray, List.set_cons_zero, List.set_cons_succ]
      refine Till.take 20 (some 45) (v := ?_) rfl rfl (by kernel_rfl) (by kernel_rfl) (by kernel_rfl) (by kernel_rfl) (fun _ _ _ h => h) (Or.inl ⟨by rfl, ?_⟩) (by assumption) ?_
      rotate_left
      · (intro w hSw; (try dsimp only at hSw); go_simp; try with_reducible rfl)
      try simp only [Act.put, List.setIfInBounds_toArray, List.set_cons_zero, List.set_cons_succ]
      refine Till.take 21 (some 46) (v := ?_) rfl rfl (by kernel_rfl) (by kernel_rfl) (by kernel_rfl) (by kernel_rfl) (fun _ _ _ h => h) (Or.inl ⟨by rfl, ?_⟩) (by assumption) ?_
      rotate_left
      · (intro w hSw; (try dsimp only at hSw); go_simp; try with_reducible rfl)
      try simp only [Act.put, List.setIfInBounds_toArray, List.set_cons_zero, List.set_cons_succ]
      refine Till.take 22 (some 47) (v := ?_) rfl rfl (by kernel_rfl) (by kernel_rfl) (by kernel_rfl) (by kernel_rfl) (fun _ _ _ h => h) (Or.inl ⟨by rfl, ?_⟩) (by assumption) ?_
      rotate_left
      · (intro w hSw; (try dsimp only at hSw); go_simp; try with_reducible rfl)
      try simp only [Act.put, List.setIfInBounds_toArray, List.set_cons_zero, List.set_cons_succ]
      refine Till.take 23 (some 48) (v := ?_) rfl rfl (by kernel_rfl) (by kernel_rfl) (by kernel_rfl) (by kernel_rfl) (fun _ _ _ h => h) (Or.inl ⟨by rfl, ?_⟩) (by assumption) ?_
      rotate_left
      · (intro w hSw; (try dsimp only at hSw); go_simp; try with_reducible rfl)
      try simp only [Act.put, List.setIfInBounds_toArray, List.set_cons_zero, List.set_cons_succ]
      refine Till.take 24 (some 49) (v := ?_) rfl rfl (by kernel_rfl) (by kernel_rfl) (by kernel_rfl) (by kernel_rfl) (fun _ _ _ h => h) (Or.inl ⟨by rfl, ?_⟩) (by assumption) ?_
      rotate_left
      · (intro w hSw; (try dsimp only at hSw); go_simp; try with_reducible rfl)
      try simp only [Act.put, List.setIfInBounds_toArray, List.set_cons_zero, List.set_cons_succ]
      refine Till.take 25 (some 50) (v := ?_) rfl rfl (by kernel_rfl) (by kernel_rfl) (by kernel_rfl) (by kernel_rfl) (fun _ _ _ h => h) (Or.inl ⟨by rfl, ?_⟩) (by assumption) ?_
      rotate_left
      · (intro w hSw; (try dsimp only at hSw); go_simp; try with_reducible rfl)
      try simp only [Act.put, List.setIfInBounds_toArray, List.set_cons_zero, List.set_cons_succ]
      refine Till.take 26 (some 51) (v := ?_) rfl rfl (by kernel_rfl) (by kernel_rfl) (by kernel_rfl) (by kernel_rfl) (fun _ _ _ h => h) (Or.inl ⟨by rfl, ?_⟩) (by assumption) ?_
      rotate_left
      · (intro w hSw; (try dsimp only at hSw); go_simp; try with_reducible rfl)
      try simp only [Act.put, List.setIfInBounds_toArray, List.set_cons_zero, List.set_cons_succ]
      refine Till.take 30 (some 55) (v := ?_) rfl rfl (by kernel_rfl) (by kernel_rfl) (by kernel_rfl) (by kernel_rfl) (fun _ _ _ h => h) (Or.inl ⟨by rfl, ?_⟩) (by assumption) ?_
      rotate_left
      · (intro w hSw; (try dsimp only at hSw); go_simp; try with_reducible rfl)
      try simp only [Act.put, List.setIfInBounds_toArray, List.set_cons_zero, List.set_cons_succ]
      refine Till.take 31 (some 56) (v := ?_) rfl rfl (by kernel_rfl) (by kernel_rfl) (by kernel_rfl) (by kernel_rfl) (fun _ _ _ h => h) (Or.inl ⟨by rfl, ?_⟩) (by assumption) ?_
      rotate_left
      · (intro w hSw; (try dsimp only at hSw); go_simp; try with_reducible rfl)
      try simp only [Act.put, List.setIfInBounds_toArray, List.set_cons_zero, List.set_cons_succ]
      refine Till.take 32 (some 57) (v := ?_) rfl rfl (by kernel_rfl) (by kernel_rfl) (by kernel_rfl) (by kernel_rfl) (fun _ _ _ h => h) (Or.inl ⟨by rfl, ?_⟩) (by assumption) ?_
      rotate_left
      · (intro w hSw; (try dsimp only at hSw); go_simp; try with_reducible rfl)
      try simp only [Act.put, List.setIfInBounds_toArray, List.set_cons_zero, List.set_cons_succ]
      refine Till.take 33 (some 58) (v := ?_) rfl rfl (by kernel_rfl) (by kernel_rfl) (by kernel_rfl) (by kernel_rfl) (fun _ _ _ h => h) (Or.inl ⟨by rfl, ?_⟩) (by assumption) ?_
      rotate_left
      · (intro w hSw; (try dsimp only at hSw); go_simp; try with_reducible rfl)
      try simp only [Act.put, List.setIfInBounds_toArray, List.set_cons_zero, List.set_cons_succ]
      refine Till.take 34 (some 59) (v := ?_) rfl rfl (by kernel_rfl) (by kernel_rfl) (by kernel_rfl) (by kernel_rfl) (fun _ _ _ h => h) (Or.inl ⟨by rfl, ?_⟩) (by assumption) ?_
      rotate_left
      · (intro w hSw; (try dsimp only at hSw); go_simp; try with_reducible rfl)
      try simp only [Act.put, List.setIfInBounds_toArray, List.set_cons_zero, List.set_cons_succ]
      refine Till.take 35 (some 60) (v := ?_) rfl rfl (by kernel_rfl) (by kernel_rfl) (by kernel_rfl) (by kernel_rfl) (fun _ _ _ h => h) (Or.inl ⟨by rfl, ?_⟩) (by assumption) ?_
      rotate_left
      · (intro w hSw; (try dsimp only at hSw); go_simp; try with_reducible rfl)
      try simp only [Act.put, List.setIfInBounds_toArray, List.set_cons_zero, List.set_cons_succ]
      refine Till.one 7 rfl (by kernel_rfl) (fun K hK => ?_)
      go_simp
      go_at_call 48
      refine (atP_any _ pl (4 * (k : Int)) _ (HP.out _ (hBelX.trans (D0.mono hBelX.size))) (by omega) (by unfold I64; omega)).mono ?_
      rintro e V ⟨m0, rfl, hm0, hb⟩
      have D1 := D0.trans (hb.mono D0.size)
      refine hK.out _ _ (fun _ => HSV.out _ D1) (fun _ => ?_)
      clear hK K hb
      try simp only [Act.put, List.setIfInBounds_toArray, List.set_cons_zero, List.set_cons_succ]
      refine Till.one 8 rfl (by kernel_rfl) (fun K hK => ?_)
      go_simp
      go_at_call 47
      refine (pick_any r.radius m0 _ (by omega) hm0).mono ?_
      rintro e V ⟨n0, rfl, hn_0, hb⟩
      have D2 := D1.trans (hb.mono D1.size)
      refine hK.out _ _ (fun _ => HSV.out _ D2) (fun _ => ?_)
      clear hK K hb
      try simp only [Act.put, List.setIfInBounds_toArray, List.set_cons_zero, List.set_cons_succ]
      refine Till.one 9 rfl (by kernel_rfl) (fun K hK => ?_)
      go_simp
      go_at_call 46
      refine (exact_any n0 _).mono ?_
      rintro e Z0 ⟨rfl, hb⟩
      have D3 := D2.trans (hb.mono D2.size)
      refine hK.out _ _ (fun _ => HSV.out _ D3) (fun hHeld0 => ?_)
      clear hK K hb D0 D1 D2
      try simp only [Act.put, List.setIfInBounds_toArray, List.set_cons_zero, List.set_cons_succ]
      refine Till.one 16 rfl (by kernel_rfl) (fun K hK => ?_)
      go_simp
      go_at_call 48
      refine (atP_any _ pl (4 * (k : Int) + 1) _ (HP.out _ (hBelX.trans (D3.mono hBelX.size))) (by omega) (by unfold I64; omega)).mono ?_
      rintro e V ⟨m1, rfl, hm1, hb⟩
      have D4 := D3.trans (hb.mono D3.size)
      refine hK.out _ _ (fun _ => HSV.out _ D4) (fun _ => ?_)
      clear hK K hb
      try simp only [Act.put, List.setIfInBounds_toArray, List.set_cons_zero, List.set_cons_succ]
      refine Till.one 17 rfl (by kernel_rfl) (fun K hK => ?_)
      go_simp
      go_at_call 47
      refine (pick_any r.height m1 _ (by omega) hm1).mono ?_
      rintro e V ⟨n1, rfl, hn_1, hb⟩
      have D5 := D4.trans (hb.mono D4.size)
      refine hK.out _ _ (fun _ => HSV.out _ D5) (fun _ => ?_)
      clear hK K hb
      try simp only [Act.put, List.setIfInBounds_toArray, List.set_cons_zero, List.set_cons_succ]
      refine Till.one 18 rfl (by kernel_rfl) (fun K hK => ?_)
      go_simp
      go_at_call 46
      refine (exact_any n1 _).mono ?_
      rintro e Z1 ⟨rfl, hb⟩
      have D6 := D5.trans (hb.mono D5.size)
      refine hK.out _ _ (fun _ => HSV.out _ D6) (fun hHeld1 => ?_)
      clear hK K hb D3 D4 D5
      try simp only [Act.put, List.setIfInBounds_toArray, List.set_cons_zero, List.set_cons_succ]
      refine Till.one 27 rfl (by kernel_rfl) (fun K hK => ?_)
      go_simp
      go_at_call 48
      refine (atP_any _ pl (4 * (k : Int) + 2) _ (HP.out _ (hBelX.trans (D6.mono hBelX.size))) (by omega) (by unfold I64; omega)).mono ?_
      rintro e V ⟨m2, rfl, hm2, hb⟩
      have D7 := D6.trans (hb.mono D6.size)
      refine hK.out _ _ (fun _ => HSV.out _ D7) (fun _ => ?_)
      clear hK K hb
      try simp only [Act.put, List.setIfInBounds_toArray, List.set_cons_zero, List.set_cons_succ]
      refine Till.one 28 rfl (by kernel_rfl) (fun K hK => ?_)
      go_simp
      go_at_call 47
      refine (pick_any r.factor m2 _ (by omega) hm2).mono ?_
      rintro e V ⟨n2, rfl, hn_2, hb⟩
      have D8 := D7.trans (hb.mono D7.size)
      refine hK.out _ _ (fun _ => HSV.out _ D8) (fun _ => ?_)
      clear hK K hb
      try simp only [Act.put, List.setIfInBounds_toArray, List.set_cons_zero, List.set_cons_succ]
      refine Till.one 29 rfl (by kernel_rfl) (fun K hK => ?_)
      go_simp
      go_at_call 46
      refine (exact_any n2 _).mono ?_
      rintro e Z2 ⟨rfl, hb⟩
      have D9 := D8.trans (hb.mono D8.size)
      refine hK.out _ _ (fun _ => HSV.out _ D9) (fun hHeld2 => ?_)
      clear hK K hb D6 D7 D8
      try simp only [Act.put, List.setIfInBounds_toArray, List.set_cons_zero, List.set_cons_succ]
      refine Till.one 36 rfl (by kernel_rfl) (fun K hK => ?_)
      go_simp
      go_at_call 48
      refine (atP_any _ pl (4 * (k : Int) + 3) _ (HP.out _ (hBelX.trans (D9.mono hBelX.size))) (by omega) (by unfold I64; omega)).mono ?_
      rintro e V ⟨m3, rfl, hm3, hb⟩
      have D10 := D9.trans (hb.mono D9.size)
      refine hK.out _ _ (fun _ => HSV.out _ D10) (fun _ => ?_)
      clear hK K hb
      try simp only [Act.put, List.setIfInBounds_toArray, List.set_cons_zero, List.set_cons_succ]
      refine Till.one 37 rfl (by kernel_rfl) (fun K hK => ?_)
      go_simp
      go_at_call 47
      refine (pick_any r.hit m3 _ (by omega) hm3).mono ?_
      rintro e V ⟨n3, rfl, hn_3, hb⟩
      have D11 := D10.trans (hb.mono D10.size)
      refine hK.out _ _ (fun _ => HSV.out _ D11) (fun _ => ?_)
      clear hK K hb
      try simp only [Act.put, List.setIfInBounds_toArray, List.set_cons_zero, List.set_cons_succ]
      refine Till.one 38 rfl (by kernel_rfl) (fun K hK => ?_)
      go_simp
      go_at_call 46
      refine (exact_any n3 _).mono ?_
      rintro e Z3 ⟨rfl, hb⟩
      have D12 := D11.trans (hb.mono D11.size)
      refine hK.out _ _ (fun _ => HSV.out _ D12) (fun hHeld3 => ?_)
      clear hK K hb D9 D10 D11
      try simp only [Act.put, List.setIfInBounds_toArray, List.set_cons_zero, List.set_cons_succ]
      have hh := HSV.out _ D12
      refine Till.take 39 (some 64) (v := ?_) rfl rfl (by kernel_rfl) (by kernel_rfl) (by kernel_rfl) (by kernel_rfl) (fun _ _ _ h => h) (Or.inl ⟨by rfl, ?_⟩) (by assumption) ?_
      rotate_left
      · (intro w hSw; (try dsimp only at hSw); go_simp; try with_reducible rfl)
      try simp only [Act.put, List.setIfInBounds_toArray, List.set_cons_zero, List.set_cons_succ]
      refine Till.one 40 rfl (by kernel_rfl) (fun K hK => ?_)
      go_simp
      have hDA := D12.alloc D12.size (.cells #[.int .i64 n0, .int .i64 n0, .int .i64 n1, .int .i64 n1, .int .i64 r.share.lo, .int .i64 r.share.hi, .int .i64 n2, .int .i64 n2, .int .i64 n3, .int .i64 n3] 95)
      have hownA := (own_below hownX D12 (own_lt hownX)).alloc (.cells #[.int .i64 n0, .int .i64 n0, .int .i64 n1, .int .i64 n1, .int .i64 r.share.lo, .int .i64 r.share.hi, .int .i64 n2, .int .i64 n2, .int .i64 n3, .int .i64 n3] 95)
      refine hK.out _ _ (fun _ => HSV.out _ hDA) (fun _ => ?_)
      clear hK K
      try simp only [Act.put, List.setIfInBounds_toArray, List.set_cons_zero, List.set_cons_succ]
      have hnews : ∀ j u, ([.int .i64 n0, .int .i64 n0, .int .i64 n1, .int .i64 n1, .int .i64 r.share.lo, .int .i64 r.share.hi, .int .i64 n2, .int .i64 n2, .int .i64 n3, .int .i64 n3] : List Value)[j]? = some u → (Z3.alloc (.cells #[.int .i64 n0, .int .i64 n0, .int .i64 n1, .int .i64 n1, .int .i64 r.share.lo, .int .i64 r.share.hi, .int .i64 n2, .int .i64 n2, .int .i64 n3, .int .i64 n3] 95)).cell? ((⟨Z3.heap.size, 0, none⟩ : Addr).add j) = some u := World.news_of_block (w := Z3.alloc (.cells #[.int .i64 n0, .int .i64 n0, .int .i64 n1, .int .i64 n1, .int .i64 r.share.lo, .int .i64 r.share.hi, .int .i64 n2, .int .i64 n2, .int .i64 n3, .int .i64 n3] 95)) (Blk.new Z3 #[.int .i64 n0, .int .i64 n0, .int .i64 n1, .int .i64 n1, .int .i64 r.share.lo, .int .i64 r.share.hi, .int .i64 n2, .int .i64 n2, .int .i64 n3, .int .i64 n3] 95)
      have hHS := HSV.out _ hDA
      dsimp only at hHS
      have hll := HU.out
      have hQA := hQX.below hDA hQX.lt
      have hvs := hBelX.size
      have hvd := D12.size
      have hvw := hBSX.size
      obtain ⟨i0, hi, hzz⟩ := Option.map_eq_some_iff.1 info_ring
      simp only [Prod.mk.injEq] at hzz
      obtain ⟨hz0, hz1, hz2⟩ := hzz
      refine Till.one 41 rfl (by kernel_rfl) (fun K hK => ?_)
      refine step_append_lies _ (by rfl) _ _ _ (by rfl) W0.heap.size 95 i0 _ 10 80 Tryd.underlying22 hi hz0 hz1 hz2 rfl (by omega) _ rs.length _ (by rfl) hownA ⟨Z3.heap.size, 0, none⟩ 1 1 [.int .i64 n0, .int .i64 n0, .int .i64 n1, .int .i64 n1, .int .i64 r.share.lo, .int .i64 r.share.hi, .int .i64 n2, .int .i64 n2, .int .i64 n3, .int .i64 n3] (by rfl) (by rfl) hnews (by simp [Value.oneCell']) (by omega) (by unfold maxLen; omega) (by omega) (by rw [World.size_alloc]; omega) _ rfl ?_
      intro g6' k6 w6 hown6 hgrow6 hat6 hlt6
      refine hK.out _ _ (fun _ => ⟨hgrow6.cell hHS.1 (fun e => hn2 e.symm), hgrow6.cell hHS.2.1 (fun e => hn1 e.symm), hgrow6.cell hHS.2.2.1 (fun e => hn1 e.symm), hgrow6.cell hHS.2.2.2.1 (fun e => hn1 e.symm), hgrow6.cell hHS.2.2.2.2.1 (fun e => hn1 e.symm), hgrow6.cell hHS.2.2.2.2.2.1 (fun e => hn1 e.symm), hgrow6.cell hHS.2.2.2.2.2.2.1 (fun e => hn1 e.symm), hgrow6.cell hHS.2.2.2.2.2.2.2.1 (fun e => hn1 e.symm), hgrow6.cell hHS.2.2.2.2.2.2.2.2.1 (fun e => hn1 e.symm), hgrow6.cell hHS.2.2.2.2.2.2.2.2.2.1 (fun e => hn1 e.symm), hgrow6.cell hHS.2.2.2.2.2.2.2.2.2.2 (fun e => hn1 e.symm)⟩) (fun hHeld4 => ?_)
      clear hK K
      try simp only [Act.put]
      have hQ6 := hQA.grown hgrow6 hn2
      have hD6 : Below W0.heap.size V0 w6 := (hDA.mono (by omega)).grown hgrow6 (by rw [World.size_alloc]; omega) (fun k e => hwb k e)
      have hB6 : Below w.heap.size w w6 := (hBelX.trans (hDA.mono hBelX.size)).grown hgrow6 (by rw [World.size_alloc]; omega) (fun k e => by have := hwb k e; omega)
      have hownF : w6.ownsRow W0.heap.size 95 10 (.slice (some ⟨g6', 0, none⟩) (rs.length + 1) k6) (rs ++ [(⟨⟨n0, n0⟩, ⟨n1, n1⟩, r.share, ⟨n2, n2⟩, ⟨n3, n3⟩⟩ : Rg)]).length ((rs ++ [(⟨⟨n0, n0⟩, ⟨n1, n1⟩, r.share, ⟨n2, n2⟩, ⟨n3, n3⟩⟩ : Rg)]).flatMap rgCells) := by simpa [rgCells] using hown6
      have hgb : W0.heap.size ≤ g6' := (hownF.lt g6' rfl).1
      have HG2 := Lib.hid (HGD.out ⟨⟨n0, n0⟩, ⟨n1, n1⟩, r.share, ⟨n2, n2⟩, ⟨n3, n3⟩⟩ ⟨by simp only; omega, by simp only; omega, HOK.out.share, by simp only; omega, by simp only; omega⟩ ⟨⟨by simp only; omega, by simp only; omega⟩, ⟨by simp only; omega, by simp only; omega⟩, ⟨by simp only; omega, by simp only; omega⟩, rfl⟩)
      have HUL : Hid ((rs ++ [(⟨⟨n0, n0⟩, ⟨n1, n1⟩, r.share, ⟨n2, n2⟩, ⟨n3, n3⟩⟩ : Rg)]).length = k + 1) := Lib.hid (by simp [hll])
      generalize (⟨⟨n0, n0⟩, ⟨n1, n1⟩, r.share, ⟨n2, n2⟩, ⟨n3, n3⟩⟩ : Rg) = C at *
      have e0 := hQ6.cell 0 _ rfl
      have g0 := hQ6.frozen 0
      have hQ7 : Blk (w6.setCell ⟨w.heap.size + 2, 0, none⟩ (.slice (some ⟨g6', 0, none⟩) (rs.length + 1) k6)) (w.heap.size + 2) #[.slice (some ⟨g6', 0, none⟩) (rs.length + 1) k6, .int .i64 b.flaw, .int .i64 b.tough] 24 := by simpa using hQ6.set 0 (.slice (some ⟨g6', 0, none⟩) (rs.length + 1) k6)
      have HQ7 := Lib.hid hQ7
      have HO7 := Lib.hid (own_other hownF ⟨w.heap.size + 2, 0, none⟩ (.slice (some ⟨g6', 0, none⟩) (rs.length + 1) k6) (by simp only [Value.ownBlock, ne_eq, Option.some.injEq]; omega))
      have HS7 := Lib.hid ((hBSX.trans (BelS.of_below hD6)).set ⟨w.heap.size + 2, 0, none⟩ (.slice (some ⟨g6', 0, none⟩) (rs.length + 1) k6) (.inr rfl))
      have HB7 := Lib.hid (hB6.setCell (p := ⟨w.heap.size + 2, 0, none⟩) (by simp only; omega) (.slice (some ⟨g6', 0, none⟩) (rs.length + 1) k6))
      have hh4 := hHeld4 (by decide)
      clear hown6 hgrow6 hownF hownA hnews hHS hQ6 hQ7 hQA hD6 hB6 hDA D12 hownX hQX hX hBelX hBSX HSV hi hz0 hz1 hz2 hll hh hHeld hHeld0 hHeld1 hHeld2 hHeld3 hn_0 hn_1 hn_2 hn_3 hm0 hm1 hm2 hm3 qr qh qf qi
      refine Till.take 42 (some 67) (v := ?_) rfl rfl (by kernel_rfl) (by kernel_rfl) (by kernel_rfl) (by kernel_rfl) (fun _ _ _ h => h) (Or.inl ⟨by rfl, ?_⟩) (by assumption) ?_
      rotate_left
      · (intro w hSw; (try dsimp only at hSw); go_simp; try with_reducible rfl)
      try simp only [Act.put, List.setIfInBounds_toArray, List.set_cons_zero, List.set_cons_succ]
      refine Till.one 43 rfl (by kernel_rfl) (fun K hK => ?_)
      go_simp
      refine hK.out _ _ (fun h => absurd rfl h) (fun _ => ?_)
      clear hK K
      refine Till.done (by kernel_rfl) ?_ _
      clear hh4 hHeld4 e0 g0 y0 y1 y2 y3
      go_wp2
      go_roundw
      case rel => exact ⟨k + 1, _, rs ++ [C], by omega, by go_num, ⟨HUL.out, HG2.out⟩, HQ7.out, HO7.out, HS7.out, HB7.out⟩
      case measure => simp [intOf]; omega
    · obtain rfl : k = b.rings.length := by omega
      obtain ⟨g1, g2⟩ := hgd.out
      have q0 := hQr.cell 0 _ rfl
      have q1 := hQr.cell 1 _ rfl
      have q2 := hQr.cell 2 _ rfl
      have o0 := hOr.cell 0 _ rfl
      have o1 := hOr.cell 1 _ rfl
      have o2 := hOr.cell 2 _ rfl
      have f0 := hOr.frozen 0
      have f1 := hOr.frozen 1
      have f2 := hOr.frozen 2
      have hwb : v.ownBlock ≠ some (w.heap.size + 1) := fun e => by have := (hown.lt _ e).1; omega
      have HF := Lib.hid (((hOr.set 0 v).set 1 (.int .i64 b.flaw)).set 2 (.int .i64 b.tough))
      have HA := Lib.hid (((hBel.setCell (p := ⟨w.heap.size + 1, 0, none⟩) (by simp only; omega) v).setCell (p := ⟨w.heap.size + 1, 1, none⟩) (by simp only; omega) (.int .i64 b.flaw)).setCell (p := ⟨w.heap.size + 1, 2, none⟩) (by simp only; omega) (.int .i64 b.tough))
      have hownF := own_other (own_other (own_other hown ⟨w.heap.size + 1, 0, none⟩ v hwb) ⟨w.heap.size + 1, 1, none⟩ (.int .i64 b.flaw) hwb) ⟨w.heap.size + 1, 2, none⟩ (.int .i64 b.tough) hwb
      have HR := Lib.hid (own_RRgs hownF (by omega) (fun x hx => by
        obtain ⟨j, hj, rfl⟩ := List.getElem_of_mem hx
        exact okR_I (g2 j hj (by omega)).1))
      have HG := Lib.hid (And.intro g1 g2)
      have hf := hok.flaw
      have ht := hok.tough
      have hs1 : ∀ g, v.ownBlock = some g → True := fun _ _ => trivial
      rcases own_cells hown with ⟨rfl, -⟩ | ⟨g, cp, rfl, -, -, -⟩
      · clear hgd g1 g2 hQr hown hBS hBel hBr hOr hownF hl
        go_wp2
        have r0 := HF.out.cell 0 (.slice none 0 0) (by simp)
        have r1 := HF.out.cell 1 (.int .i64 b.flaw) (by simp)
        have r2 := HF.out.cell 2 (.int .i64 b.tough) (by simp)
        refine ⟨rfl, .agg #[.slice none 0 0, .int .i64 b.flaw, .int .i64 b.tough], ?_, _, rs, rfl, ⟨_, rfl, HR.out, hI⟩, HG.out.1, HG.out.2, HA.out⟩
        simp [results, Tryd.results45, go_sem, r0, r1, r2]
      · clear hgd g1 g2 hQr hown hBS hBel hBr hOr hownF hl
        go_wp2
        have r0 := HF.out.cell 0 (.slice (some ⟨g, 0, none⟩) rs.length cp) (by simp)
        have r1 := HF.out.cell 1 (.int .i64 b.flaw) (by simp)
        have r2 := HF.out.cell 2 (.int .i64 b.tough) (by simp)
        refine ⟨rfl, .agg #[.slice (some ⟨g, 0, none⟩) rs.length cp, .int .i64 b.flaw, .int .i64 b.tough], ?_, _, rs, rfl, ⟨_, rfl, HR.out, hI⟩, HG.out.1, HG.out.2, HA.out⟩
        simp [results, Tryd.results45, go_sem, r0, r1, r2]

end Go.Proofs.YtokgnbagegcnpaaDoor
