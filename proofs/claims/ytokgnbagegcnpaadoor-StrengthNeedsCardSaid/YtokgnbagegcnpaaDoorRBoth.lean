/- The specification's bears, both, Holds; no statement is proved here. -/
import Derived.Test.YtokgnbagegcnpaaDoorRLoad
import Derived.Test.YtokgnbagegcnpaaDoorRStr
import Derived.Test.YtokgnbagegcnpaaDoorTill
namespace Go.Proofs.YtokgnbagegcnpaaDoor
open Go.RowKit Go.PlainAid
set_option linter.unusedVariables false
set_option linter.unusedSimpArgs false

set_option maxHeartbeats 1000000 in
set_option maxRecDepth 100000 in
theorem rbears5_any (vb : Value) (b : Bot) (s : Int) (w : World) (h : RBot w vb b) (hok : OkS b) (hs : 0 ≤ s ∧ s ≤ 8000000000000) :
    Calls Tryd.prog 136 #[vb, .int .i64 s] w (BearsP w b s) := by
  obtain ⟨v0, rfl, hr, hI⟩ := h
  obtain ⟨a, cap, rfl, -, -, -⟩ := hr
  have hA := below_boxS w (.cells #[.slice a b.rings.length cap, .int .i64 b.flaw, .int .i64 b.tough] 24)
  have hB := Blk.new w #[.slice a b.rings.length cap, .int .i64 b.flaw, .int .i64 b.tough] 24
  have hrt := hok.root
  have hlt := root_lt hrt hok.q_le
  have hfl := hok.flaw
  have hto := hok.tough
  have hq1 := hok.q
  have hq2 := hok.q_le
  have c1 := hB.cell 1 _ rfl
  have c2 := hB.cell 2 _ rfl
  have HA := Lib.hid hA
  by_cases hbig : s < 100000000
  · have m0 : 0 ≤ s * s := Int.mul_nonneg hs.1 hs.1
    have m1 : s * s ≤ 100000000 * 100000000 := Int.mul_le_mul (by omega) (by omega) hs.1 (by omega)
    have q1 : wrap64 (s * s) = s * s := wrap_id _ (by unfold I64; omega)
    have hn : ¬ b.flaw = 0 := by omega
    have q2 : wrap64 (b.tough.tdiv b.flaw) = b.tough / b.flaw := by
      rw [Int.tdiv_eq_ediv_of_nonneg hto.1]
      exact wrap_id _ (by unfold I64; omega)
    have HI : Hid (s ≤ rootF (b.tough / b.flaw) ↔ s * s ≤ b.tough / b.flaw) := Lib.hid (hrt.le_iff hs.1)
    clear hrt hlt hB hA hfl hto hq1 hq2
    obtain ⟨Q, hQ⟩ : ∃ Q, b.tough / b.flaw = Q := ⟨_, rfl⟩
    rw [hQ] at q2
    have HQ := Lib.hid hQ
    clear hQ
    by_cases hle : s * s ≤ Q
    · go_enter Tryd.func136, Tryd.ntmps136
      go_wp2
      go_ret
      exact ⟨true, rfl, by rw [HI.out, HQ.out]; simpa using hle, HA.out⟩
    · go_enter Tryd.func136, Tryd.ntmps136
      go_wp2
      go_ret
      exact ⟨false, rfl, by rw [HI.out, HQ.out]; simpa using hle, HA.out⟩
  · have HL := Lib.hid hlt
    clear hrt hlt hB hA hfl hto hq1 hq2
    go_enter Tryd.func136, Tryd.ntmps136
    go_wp2
    go_ret
    exact ⟨false, rfl, ⟨fun h => (by cases h), fun h => (by have := HL.out; omega)⟩, HA.out⟩


def AllTo (b : Bot) (ts : List Sp) (l : Ld) (m : Int) (k : Nat) : Prop := ∀ i, i < k → (strAt b ts l i).hi ≤ m
def AnyTo (b : Bot) (ts : List Sp) (l : Ld) (m : Int) (k : Nat) : Prop := ∃ i, i < k ∧ m < (strAt b ts l i).lo
theorem allTo_succ {b : Bot} {ts : List Sp} {l : Ld} {m : Int} {k : Nat} {h r : Bool} (h1 : h = true ↔ AllTo b ts l m k) (h2 : r = true ↔ (strAt b ts l k).hi ≤ m) : (h && r) = true ↔ AllTo b ts l m (k + 1) := by
  rw [Bool.and_eq_true, h1, h2]
  constructor
  · rintro ⟨p, q⟩ i hi
    by_cases e : i = k
    · rw [e]; exact q
    · exact p i (by omega)
  · intro p
    exact ⟨fun i hi => p i (by omega), p k (by omega)⟩
theorem anyTo_succ {b : Bot} {ts : List Sp} {l : Ld} {m : Int} {k : Nat} {h r : Bool} (h1 : h = true ↔ AnyTo b ts l m k) (h2 : r = true ↔ (strAt b ts l k).lo ≤ m) : (h || !r) = true ↔ AnyTo b ts l m (k + 1) := by
  have h3 : (!r) = true ↔ m < (strAt b ts l k).lo := by
    rw [Bool.not_eq_true', ← Bool.not_eq_true, h2]; omega
  rw [Bool.or_eq_true, h1, h3]
  constructor
  · rintro (⟨i, hi, q⟩ | q)
    · exact ⟨i, by omega, q⟩
    · exact ⟨k, by omega, q⟩
  · rintro ⟨i, hi, q⟩
    by_cases e : i = k
    · rw [e] at q; exact .inr q
    · exact .inl ⟨i, by omega, q⟩
def BothQ (b : Bot) (ts : List Sp) (l : Ld) (m : Int) (k : Nat) (hh br : Bool) : Prop := (hh = true ↔ AllTo b ts l m k) ∧ (br = true ↔ AnyTo b ts l m k)
def BothI (b : Bot) (ts : List Sp) (l : Ld) (m : Int) (k : Nat) (e1 e2 : Value) : Prop := ∃ hh br : Bool, e1 = .bool hh ∧ e2 = .bool br ∧ (hh = true ↔ AllTo b ts l m k) ∧ (br = true ↔ AnyTo b ts l m k)
/-- whether a bottle surely holds, whether it surely breaks. -/
def BothP (w : World) (b : Bot) (ts : List Sp) (l : Ld) (m : Int) (e : Ending) (w' : World) : Prop := ∃ h br, e = .returned (.tuple #[.bool h, .bool br]) ∧ (h = true ↔ HoldsW b ts l m) ∧ (br = true ↔ BreaksW b ts l m) ∧ Below w.heap.size w w'

set_option maxHeartbeats 4000000 in
set_option maxRecDepth 100000 in
theorem rboth_any (vb vt : Value) (b : Bot) (ts : List Sp) (l : Ld) (w : World) (h : RBot w vb b) (ht : RSps w vt ts) (hok : OkWall b ts l) :
    Calls Tryd.prog 78 #[vb, vt, .agg #[.int .i64 l.press, .int .i64 l.force, .int .i64 l.speed, .int .i64 l.other]] w (BothP w b ts l (rootF (b.tough / b.flaw))) := by
  have h0 := h
  obtain ⟨v0, rfl, hr, hI⟩ := h
  obtain ⟨a, cap, rfl, -, ⟨-, hm⟩, hrl⟩ := hr
  obtain ⟨ta, tc, rfl, -, ⟨-, htm⟩, htl⟩ := ht
  have hA : Below w.heap.size w ((w.alloc (.cells #[.slice a b.rings.length cap, .int .i64 b.flaw, .int .i64 b.tough] 24)).alloc (.cells #[.int .i64 l.press, .int .i64 l.force, .int .i64 l.speed, .int .i64 l.other] 27)) := (below_boxS w _).alloc (by simp) _
  have hB := (Blk.new w #[.slice a b.rings.length cap, .int .i64 b.flaw, .int .i64 b.tough] 24).alloc (.cells #[.int .i64 l.press, .int .i64 l.force, .int .i64 l.speed, .int .i64 l.other] 27)
  have hL := Blk.new (w.alloc (.cells #[.slice a b.rings.length cap, .int .i64 b.flaw, .int .i64 b.tough] 24)) #[.int .i64 l.press, .int .i64 l.force, .int .i64 l.speed, .int .i64 l.other] 27
  rw [World.size_alloc] at hL
  have HR := Lib.hid (fun V (hV : Below w.heap.size w V) => h0.mono (ext_of_below hV))
  have HTL := Lib.hid htl
  have HRL := Lib.hid hrl
  have HOK := Lib.hid hok
  have hlen := hok.len
  have HLEN := Lib.hid hlen
  have hmo := hok.bot.most
  clear h0 htl hrl hok hlen
  go_enter Tryd.func78, Tryd.ntmps78
  go_wp2_with fail
  generalize (w.alloc (.cells #[.slice a b.rings.length cap, .int .i64 b.flaw, .int .i64 b.tough] 24)).alloc _ = W0 at *
  go_loopw [8, 9, 10] (fun e1 e2 i wr => ∃ k : Nat, k ≤ ts.length ∧ i = .int .i64 k ∧ BothI b ts l (rootF (b.tough / b.flaw)) k e1 e2 ∧ Below W0.heap.size W0 wr) (fun _ _ i _ => ts.length - (intOf i).toNat)
  case atStart => exact ⟨0, Nat.zero_le _, rfl, ⟨true, false, rfl, rfl, ⟨fun _ i h => absurd h (by omega), fun _ => rfl⟩, ⟨fun h => (by cases h), fun ⟨i, h, _⟩ => absurd h (by omega)⟩⟩, Below.refl _ _⟩
  case round =>
    obtain ⟨k, hk, rfl, ⟨hh, br, rfl, rfl, hq'⟩, hb⟩ := hrel
    have hq : Hid (BothQ b ts l (rootF (b.tough / b.flaw)) k hh br) := Lib.hid hq'
    clear hq'
    have hAr := hA.trans (hb.mono hA.size)
    by_cases hlt : k < ts.length
    · have hBr := hB.below hb hB.lt
      have hLr := hL.below hb hL.lt
      have hkr : k < b.rings.length := by rw [← HLEN.out]; exact hlt
      obtain ⟨tb, tq, rfl, s1, s2, -⟩ := HTL.out k hlt
      obtain ⟨rb, ro, rfl, hc, -⟩ := HRL.out k hkr
      have hx : ∀ j, j < 10 → wr.cell? ⟨rb, ro + k * 10 + j, none⟩ = (rgCells b.rings[k])[j]? := fun j hj => by
        have hj' : j < (rgCells b.rings[k]).length := hj
        rw [List.getElem?_eq_getElem hj']
        exact ext_of_below hAr _ _ (hc j _ (List.getElem?_eq_getElem hj'))
      have t0 := ext_of_below hAr _ _ s1
      have t1 := ext_of_below hAr _ _ s2
      have hOR := HOK.out.bot.rings k hkr
      have hOT := HOK.out.thick k hlt
      have hat := strAt_eq (l := l) hkr hlt
      have hst := fun V => rstress_any b.rings[k] ts[k] l V hOR hOT HOK.out.load
      have hin := strR_in hOR hOT HOK.out.load
      rw [← hat] at hst hin
      have HQ := Lib.hid hq.out
      generalize ts[k] = T at *
      generalize b.rings[k] = R at *
      generalize hQ : strAt b ts l k = Q at *
      have HE := Lib.hid hQ
      clear hc hat hq hQ
      have x0 := hx 0 (by omega)
      have x1 := hx 1 (by omega)
      have x2 := hx 2 (by omega)
      have x3 := hx 3 (by omega)
      have x4 := hx 4 (by omega)
      have x5 := hx 5 (by omega)
      have x6 := hx 6 (by omega)
      have x7 := hx 7 (by omega)
      have x8 := hx 8 (by omega)
      have x9 := hx 9 (by omega)
      simp only [rgCells, Nat.add_zero, List.getElem?_cons_zero, List.getElem?_cons_succ] at x0 x1 x2 x3 x4 x5 x6 x7 x8 x9
      simp only [rgCells] at hst
      simp only [Addr.add] at t1
      have c0 := hBr.cell 0 _ rfl
      have l0 := hLr.cell 0 _ rfl
      have l1 := hLr.cell 1 _ rfl
      have l2 := hLr.cell 2 _ rfl
      have l3 := hLr.cell 3 _ rfl
      have i1 : (0 : Int) ≤ (k : Int) := Int.natCast_nonneg _
      have i2 : (k : Int) < (ts.length : Int) := by omega
      have i3 : (k : Int) < (b.rings.length : Int) := by omega
      clear hx s1 s2 hkr
      have HSV : Hid (∀ V, Below wr.heap.size wr V → (fun w' : World => w'.cell? ⟨w.heap.size, 0, none⟩ = some (.slice (some ⟨rb, ro, none⟩) b.rings.length cap) ∧ w'.cell? ⟨tb, tq + k * 2, none⟩ = some (.int .i64 T.lo) ∧ w'.cell? ⟨tb, tq + k * 2 + 1, none⟩ = some (.int .i64 T.hi) ∧ w'.cell? ⟨rb, ro + k * 10, none⟩ = some (.int .i64 R.radius.lo) ∧ w'.cell? ⟨rb, ro + k * 10 + 1, none⟩ = some (.int .i64 R.radius.hi) ∧ w'.cell? ⟨rb, ro + k * 10 + 2, none⟩ = some (.int .i64 R.height.lo) ∧ w'.cell? ⟨rb, ro + k * 10 + 3, none⟩ = some (.int .i64 R.height.hi) ∧ w'.cell? ⟨rb, ro + k * 10 + 4, none⟩ = some (.int .i64 R.share.lo) ∧ w'.cell? ⟨rb, ro + k * 10 + 5, none⟩ = some (.int .i64 R.share.hi) ∧ w'.cell? ⟨rb, ro + k * 10 + 6, none⟩ = some (.int .i64 R.factor.lo) ∧ w'.cell? ⟨rb, ro + k * 10 + 7, none⟩ = some (.int .i64 R.factor.hi) ∧ w'.cell? ⟨rb, ro + k * 10 + 8, none⟩ = some (.int .i64 R.hit.lo) ∧ w'.cell? ⟨rb, ro + k * 10 + 9, none⟩ = some (.int .i64 R.hit.hi) ∧ w'.cell? ⟨w.heap.size + 1, 0, none⟩ = some (.int .i64 l.press) ∧ w'.cell? ⟨w.heap.size + 1, 1, none⟩ = some (.int .i64 l.force) ∧ w'.cell? ⟨w.heap.size + 1, 2, none⟩ = some (.int .i64 l.speed) ∧ w'.cell? ⟨w.heap.size + 1, 3, none⟩ = some (.int .i64 l.other)) V) := Lib.hid (fun V hV => ⟨ext_of_below hV _ _ c0, ext_of_below hV _ _ t0, ext_of_below hV _ _ t1, ext_of_below hV _ _ x0, ext_of_below hV _ _ x1, ext_of_below hV _ _ x2, ext_of_below hV _ _ x3, ext_of_below hV _ _ x4, ext_of_below hV _ _ x5, ext_of_below hV _ _ x6, ext_of_below hV _ _ x7, ext_of_below hV _ _ x8, ext_of_below hV _ _ x9, ext_of_below hV _ _ l0, ext_of_below hV _ _ l1, ext_of_below hV _ _ l2, ext_of_below hV _ _ l3⟩)
      have D0 : Below wr.heap.size wr wr.drew := (Below.refl _ _).drew
      clear c0 t0 t1 x0 x1 x2 x3 x4 x5 x6 x7 x8 x9 l0 l1 l2 l3 hLr
      have HB0 := Lib.hid hBr
      clear hBr
      go_wp2_with fail
      refine wp_region_till (fun w' : World => w'.cell? ⟨w.heap.size, 0, none⟩ = some (.slice (some ⟨rb, ro, none⟩) b.rings.length cap) ∧ w'.cell? ⟨tb, tq + k * 2, none⟩ = some (.int .i64 T.lo) ∧ w'.cell? ⟨tb, tq + k * 2 + 1, none⟩ = some (.int .i64 T.hi) ∧ w'.cell? ⟨rb, ro + k * 10, none⟩ = some (.int .i64 R.radius.lo) ∧ w'.cell? ⟨rb, ro + k * 10 + 1, none⟩ = some (.int .i64 R.radius.hi) ∧ w'.cell? ⟨rb, ro + k * 10 + 2, none⟩ = some (.int .i64 R.height.lo) ∧ w'.cell? ⟨rb, ro + k * 10 + 3, none⟩ = some (.int .i64 R.height.hi) ∧ w'.cell? ⟨rb, ro + k * 10 + 4, none⟩ = some (.int .i64 R.share.lo) ∧ w'.cell? ⟨rb, ro + k * 10 + 5, none⟩ = some (.int .i64 R.share.hi) ∧ w'.cell? ⟨rb, ro + k * 10 + 6, none⟩ = some (.int .i64 R.factor.lo) ∧ w'.cell? ⟨rb, ro + k * 10 + 7, none⟩ = some (.int .i64 R.factor.hi) ∧ w'.cell? ⟨rb, ro + k * 10 + 8, none⟩ = some (.int .i64 R.hit.lo) ∧ w'.cell? ⟨rb, ro + k * 10 + 9, none⟩ = some (.int .i64 R.hit.hi) ∧ w'.cell? ⟨w.heap.size + 1, 0, none⟩ = some (.int .i64 l.press) ∧ w'.cell? ⟨w.heap.size + 1, 1, none⟩ = some (.int .i64 l.force) ∧ w'.cell? ⟨w.heap.size + 1, 2, none⟩ = some (.int .i64 l.speed) ∧ w'.cell? ⟨w.heap.size + 1, 3, none⟩ = some (.int .i64 l.other)) 99 (by kernel_rfl) (HSV.out _ D0) (fun hHeld => ?_)
      refine Till.take 0 (some 18) (v := ?_) rfl rfl (by kernel_rfl) (by kernel_rfl) (by kernel_rfl) (by kernel_rfl) (fun _ _ _ h => h) (Or.inl ⟨by rfl, ?_⟩) (by assumption) ?_
      rotate_left
      · (intro w hSw; (try dsimp only at hSw); go_simp; try with_reducible rfl)
      try simp only [Act.put, List.setIfInBounds_toArray, List.set_cons_zero, List.set_cons_succ]
      refine Till.take 1 (some 19) (v := ?_) rfl rfl (by kernel_rfl) (by kernel_rfl) (by kernel_rfl) (by kernel_rfl) (fun _ _ _ h => h) (Or.inl ⟨by rfl, ?_⟩) (by assumption) ?_
      rotate_left
      · (intro w hSw; (try dsimp only at hSw); go_simp; try with_reducible rfl)
      try simp only [Act.put, List.setIfInBounds_toArray, List.set_cons_zero, List.set_cons_succ]
      refine Till.take 2 (some 20) (v := ?_) rfl rfl (by kernel_rfl) (by kernel_rfl) (by kernel_rfl) (by kernel_rfl) (fun _ _ _ h => h) (Or.inl ⟨by rfl, ?_⟩) (by assumption) ?_
      rotate_left
      · (intro w hSw; (try dsimp only at hSw); go_simp; try with_reducible rfl)
      try simp only [Act.put, List.setIfInBounds_toArray, List.set_cons_zero, List.set_cons_succ]
      refine Till.take 3 (some 21) (v := ?_) rfl rfl (by kernel_rfl) (by kernel_rfl) (by kernel_rfl) (by kernel_rfl) (fun _ _ _ h => h) (Or.inl ⟨by rfl, ?_⟩) (by assumption) ?_
      rotate_left
      · (intro w hSw; (try dsimp only at hSw); go_simp; try with_reducible rfl)
      try simp only [Act.put, List.setIfInBounds_toArray, List.set_cons_zero, List.set_cons_succ]
      refine Till.take 4 (some 22) (v := ?_) rfl rfl (by kernel_rfl) (by kernel_rfl) (by kernel_rfl) (by kernel_rfl) (fun _ _ _ h => h) (Or.inl ⟨by rfl, ?_⟩) (by assumption) ?_
      rotate_left
      · (intro w hSw; (try dsimp only at hSw); go_simp; try with_reducible rfl)
      try simp only [Act.put, List.setIfInBounds_toArray, List.set_cons_zero, List.set_cons_succ]
      refine Till.take 5 (some 23) (v := ?_) rfl rfl (by kernel_rfl) (by kernel_rfl) (by kernel_rfl) (by kernel_rfl) (fun _ _ _ h => h) (Or.inl ⟨by rfl, ?_⟩) (by assumption) ?_
      rotate_left
      · (intro w hSw; (try dsimp only at hSw); go_simp; try with_reducible rfl)
      try simp only [Act.put, List.setIfInBounds_toArray, List.set_cons_zero, List.set_cons_succ]
      refine Till.take 6 (some 24) (v := ?_) rfl rfl (by kernel_rfl) (by kernel_rfl) (by kernel_rfl) (by kernel_rfl) (fun _ _ _ h => h) (Or.inl ⟨by rfl, ?_⟩) (by assumption) ?_
      rotate_left
      · (intro w hSw; (try dsimp only at hSw); go_simp; try with_reducible rfl)
      try simp only [Act.put, List.setIfInBounds_toArray, List.set_cons_zero, List.set_cons_succ]
      refine Till.take 7 (some 25) (v := ?_) rfl rfl (by kernel_rfl) (by kernel_rfl) (by kernel_rfl) (by kernel_rfl) (fun _ _ _ h => h) (Or.inl ⟨by rfl, ?_⟩) (by assumption) ?_
      rotate_left
      · (intro w hSw; (try dsimp only at hSw); go_simp; try with_reducible rfl)
      try simp only [Act.put, List.setIfInBounds_toArray, List.set_cons_zero, List.set_cons_succ]
      refine Till.take 8 (some 26) (v := ?_) rfl rfl (by kernel_rfl) (by kernel_rfl) (by kernel_rfl) (by kernel_rfl) (fun _ _ _ h => h) (Or.inl ⟨by rfl, ?_⟩) (by assumption) ?_
      rotate_left
      · (intro w hSw; (try dsimp only at hSw); go_simp; try with_reducible rfl)
      try simp only [Act.put, List.setIfInBounds_toArray, List.set_cons_zero, List.set_cons_succ]
      refine Till.take 9 (some 27) (v := ?_) rfl rfl (by kernel_rfl) (by kernel_rfl) (by kernel_rfl) (by kernel_rfl) (fun _ _ _ h => h) (Or.inl ⟨by rfl, ?_⟩) (by assumption) ?_
      rotate_left
      · (intro w hSw; (try dsimp only at hSw); go_simp; try with_reducible rfl)
      try simp only [Act.put, List.setIfInBounds_toArray, List.set_cons_zero, List.set_cons_succ]
      generalize wr.drew = U at *
      refine Till.two 10 11 rfl rfl (by kernel_rfl) (fun K hK => ?_) (fun K hK => ?_)
      · go_simp
        go_at_call 73
        refine (hst _).mono ?_
        rintro e V1 ⟨rfl, hbb⟩
        have D1 := D0.trans (hbb.mono D0.size)
        refine hK.out _ _ (fun _ => HSV.out _ D1) (fun _ => ?_)
        clear hK K hbb hst
        try simp only [Act.put, List.setIfInBounds_toArray, List.set_cons_zero, List.set_cons_succ]
        have D2 : Below wr.heap.size wr (V1.alloc (.cells #[.int .i64 0, .int .i64 0] 29)) := D1.alloc D1.size _
        refine Till.one 11 rfl (by kernel_rfl) (fun K hK => ?_)
        go_simp
        refine hK.out _ _ (fun _ => HSV.out _ D2) (fun _ => ?_)
        clear hK K
        try simp only [Act.put, List.setIfInBounds_toArray, List.set_cons_zero, List.set_cons_succ]
        have HN := Lib.hid (Blk.new V1 #[.int .i64 Q.lo, .int .i64 Q.hi] 29)
        have HD3 := Lib.hid (D1.alloc D1.size (.cells #[.int .i64 Q.lo, .int .i64 Q.hi] 29))
        clear D0 D1 D2
        refine Till.one 12 rfl (by kernel_rfl) (fun K hK => ?_)
        go_simp
        refine hK.out _ _ (fun _ => HSV.out _ HD3.out) (fun _ => ?_)
        clear hK K
        try simp only [Act.put, List.setIfInBounds_toArray, List.set_cons_zero, List.set_cons_succ]
        refine Till.done (by kernel_rfl) ?_ _
        generalize V1.alloc (.cells #[.int .i64 Q.lo, .int .i64 Q.hi] 29) = W6 at *
        generalize V1.heap.size = pN at *
        clear hHeld HSV
        have hN := HN.out
        have hD := HD3.out
        clear HN HD3
        have hB6 := HB0.out.below hD HB0.out.lt
        have hb6 := hb.trans (hD.mono hb.size)
        have hA6 := hAr.trans (hD.mono hAr.size)
        clear HB0 hD hb hAr
        cases hh with
        | false =>
          cases br with
          | true =>
            go_wp2
            go_roundw
            case rel => first | exact ⟨k + 1, by omega, by go_num, ⟨_, _, rfl, rfl, allTo_succ HQ.out.1 (r := decide ((strAt b ts l k).hi ≤ rootF (b.tough / b.flaw))) (by simp), anyTo_succ HQ.out.2 (r := decide ((strAt b ts l k).lo ≤ rootF (b.tough / b.flaw))) (by simp)⟩, hb6⟩ | exact ⟨_, _, _, ⟨k + 1, by omega, by go_num, ⟨_, _, rfl, rfl, allTo_succ HQ.out.1 (r := decide ((strAt b ts l k).hi ≤ rootF (b.tough / b.flaw))) (by simp), anyTo_succ HQ.out.2 (r := decide ((strAt b ts l k).lo ≤ rootF (b.tough / b.flaw))) (by simp)⟩, hb6⟩, rfl, rfl, rfl⟩
            case measure => simp [intOf]; omega
          | false =>
            have c0 := hB6.cell 0 _ rfl
            have c1 := hB6.cell 1 _ rfl
            have c2 := hB6.cell 2 _ rfl
            have d0 := hN.cell 0 _ rfl
            go_wp2_with fail
            refine (rbears5_any _ b Q.lo _ (HR.out _ hA6) HOK.out.bot ⟨hin.1.1, hin.1.2⟩).mono ?_
            rintro e w8 ⟨r2, rfl, hr2, hb8⟩
            have hbF := hb6.trans (hb8.mono hb6.size)
            rw [← HE.out] at hr2
            clear c0 c1 c2 d0 hb8
            go_wp2
            go_roundw
            case rel => first | exact ⟨k + 1, by omega, by go_num, ⟨_, _, rfl, rfl, allTo_succ HQ.out.1 (r := decide ((strAt b ts l k).hi ≤ rootF (b.tough / b.flaw))) (by simp), anyTo_succ HQ.out.2 hr2⟩, hbF⟩ | exact ⟨_, _, _, ⟨k + 1, by omega, by go_num, ⟨_, _, rfl, rfl, allTo_succ HQ.out.1 (r := decide ((strAt b ts l k).hi ≤ rootF (b.tough / b.flaw))) (by simp), anyTo_succ HQ.out.2 hr2⟩, hbF⟩, rfl, rfl, rfl⟩
            case measure => simp [intOf]; omega
        | true =>
          have c0 := hB6.cell 0 _ rfl
          have c1 := hB6.cell 1 _ rfl
          have c2 := hB6.cell 2 _ rfl
          have d1 := hN.cell 1 _ rfl
          go_wp2_with fail
          refine (rbears5_any _ b Q.hi _ (HR.out _ hA6) HOK.out.bot ⟨hin.2.1, hin.2.2⟩).mono ?_
          rintro e w7 ⟨r1, rfl, hr1, hb7⟩
          have hB7 := hB6.below hb7 hB6.lt
          have hN7 := hN.below hb7 hN.lt
          have hA7 := hA6.trans (hb7.mono hA6.size)
          have hbE := hb6.trans (hb7.mono hb6.size)
          rw [← HE.out] at hr1
          clear c0 c1 c2 d1 hb7 hB6 hN hA6 hb6
          cases br with
          | true =>
            go_wp2
            go_roundw
            case rel => first | exact ⟨k + 1, by omega, by go_num, ⟨_, _, rfl, rfl, allTo_succ HQ.out.1 hr1, anyTo_succ HQ.out.2 (r := decide ((strAt b ts l k).lo ≤ rootF (b.tough / b.flaw))) (by simp)⟩, hbE⟩ | exact ⟨_, _, _, ⟨k + 1, by omega, by go_num, ⟨_, _, rfl, rfl, allTo_succ HQ.out.1 hr1, anyTo_succ HQ.out.2 (r := decide ((strAt b ts l k).lo ≤ rootF (b.tough / b.flaw))) (by simp)⟩, hbE⟩, rfl, rfl, rfl⟩
            case measure => simp [intOf]; omega
          | false =>
            have c0 := hB7.cell 0 _ rfl
            have c1 := hB7.cell 1 _ rfl
            have c2 := hB7.cell 2 _ rfl
            have d0 := hN7.cell 0 _ rfl
            go_wp2_with fail
            refine (rbears5_any _ b Q.lo _ (HR.out _ hA7) HOK.out.bot ⟨hin.1.1, hin.1.2⟩).mono ?_
            rintro e w8 ⟨r2, rfl, hr2, hb8⟩
            have hbF := hbE.trans (hb8.mono hbE.size)
            rw [← HE.out] at hr2
            clear c0 c1 c2 d0 hb8
            go_wp2
            go_roundw
            case rel => first | exact ⟨k + 1, by omega, by go_num, ⟨_, _, rfl, rfl, allTo_succ HQ.out.1 hr1, anyTo_succ HQ.out.2 hr2⟩, hbF⟩ | exact ⟨_, _, _, ⟨k + 1, by omega, by go_num, ⟨_, _, rfl, rfl, allTo_succ HQ.out.1 hr1, anyTo_succ HQ.out.2 hr2⟩, hbF⟩, rfl, rfl, rfl⟩
            case measure => simp [intOf]; omega

      · have D1 : Below wr.heap.size wr (U.alloc (.cells #[.int .i64 0, .int .i64 0] 29)) := D0.alloc D0.size _
        have hN0 := Blk.new U #[.int .i64 0, .int .i64 0] 29
        have lN := D0.size
        go_simp
        refine hK.out _ _ (fun _ => HSV.out _ D1) (fun _ => ?_)
        clear hK K
        try simp only [Act.put, List.setIfInBounds_toArray, List.set_cons_zero, List.set_cons_succ]
        generalize U.alloc (.cells #[.int .i64 0, .int .i64 0] 29) = U1 at *
        generalize U.heap.size = pN at *
        refine Till.one 10 rfl (by kernel_rfl) (fun K hK => ?_)
        go_simp
        go_at_call 73
        refine (hst _).mono ?_
        rintro e V1 ⟨rfl, hbb⟩
        have D2 := D1.trans (hbb.mono D1.size)
        have hN := hN0.below hbb hN0.lt
        refine hK.out _ _ (fun _ => HSV.out _ D2) (fun _ => ?_)
        clear hK K hbb hst hN0
        try simp only [Act.put, List.setIfInBounds_toArray, List.set_cons_zero, List.set_cons_succ]
        have e0 := hN.cell 0 _ rfl
        have e1 := hN.cell 1 _ rfl
        have g0 := hN.frozen 0
        have g1 := hN.frozen 1
        have HN : Hid (Blk ((V1.setCell ⟨pN, 0, none⟩ (.int .i64 Q.lo)).setCell ⟨pN, 1, none⟩ (.int .i64 Q.hi)) pN #[.int .i64 Q.lo, .int .i64 Q.hi] 29) := Lib.hid (by
          have := (hN.set 0 (.int .i64 Q.lo)).set 1 (.int .i64 Q.hi)
          simpa using this)
        have HD3 := Lib.hid ((D2.setCell (p := ⟨pN, 0, none⟩) (by simp only; omega) (.int .i64 Q.lo)).setCell (p := ⟨pN, 1, none⟩) (by simp only; omega) (.int .i64 Q.hi))
        clear hN D0 D1 D2
        refine Till.one 12 rfl (by kernel_rfl) (fun K hK => ?_)
        go_simp
        refine hK.out _ _ (fun _ => HSV.out _ HD3.out) (fun _ => ?_)
        clear hK K
        try simp only [Act.put, List.setIfInBounds_toArray, List.set_cons_zero, List.set_cons_succ]
        refine Till.done (by kernel_rfl) ?_ _
        clear e0 e1 g0 g1 lN
        generalize (V1.setCell ⟨pN, 0, none⟩ (.int .i64 Q.lo)).setCell ⟨pN, 1, none⟩ (.int .i64 Q.hi) = W6 at *
        clear hHeld HSV
        have hN := HN.out
        have hD := HD3.out
        clear HN HD3
        have hB6 := HB0.out.below hD HB0.out.lt
        have hb6 := hb.trans (hD.mono hb.size)
        have hA6 := hAr.trans (hD.mono hAr.size)
        clear HB0 hD hb hAr
        cases hh with
        | false =>
          cases br with
          | true =>
            go_wp2
            go_roundw
            case rel => first | exact ⟨k + 1, by omega, by go_num, ⟨_, _, rfl, rfl, allTo_succ HQ.out.1 (r := decide ((strAt b ts l k).hi ≤ rootF (b.tough / b.flaw))) (by simp), anyTo_succ HQ.out.2 (r := decide ((strAt b ts l k).lo ≤ rootF (b.tough / b.flaw))) (by simp)⟩, hb6⟩ | exact ⟨_, _, _, ⟨k + 1, by omega, by go_num, ⟨_, _, rfl, rfl, allTo_succ HQ.out.1 (r := decide ((strAt b ts l k).hi ≤ rootF (b.tough / b.flaw))) (by simp), anyTo_succ HQ.out.2 (r := decide ((strAt b ts l k).lo ≤ rootF (b.tough / b.flaw))) (by simp)⟩, hb6⟩, rfl, rfl, rfl⟩
            case measure => simp [intOf]; omega
          | false =>
            have c0 := hB6.cell 0 _ rfl
            have c1 := hB6.cell 1 _ rfl
            have c2 := hB6.cell 2 _ rfl
            have d0 := hN.cell 0 _ rfl
            go_wp2_with fail
            refine (rbears5_any _ b Q.lo _ (HR.out _ hA6) HOK.out.bot ⟨hin.1.1, hin.1.2⟩).mono ?_
            rintro e w8 ⟨r2, rfl, hr2, hb8⟩
            have hbF := hb6.trans (hb8.mono hb6.size)
            rw [← HE.out] at hr2
            clear c0 c1 c2 d0 hb8
            go_wp2
            go_roundw
            case rel => first | exact ⟨k + 1, by omega, by go_num, ⟨_, _, rfl, rfl, allTo_succ HQ.out.1 (r := decide ((strAt b ts l k).hi ≤ rootF (b.tough / b.flaw))) (by simp), anyTo_succ HQ.out.2 hr2⟩, hbF⟩ | exact ⟨_, _, _, ⟨k + 1, by omega, by go_num, ⟨_, _, rfl, rfl, allTo_succ HQ.out.1 (r := decide ((strAt b ts l k).hi ≤ rootF (b.tough / b.flaw))) (by simp), anyTo_succ HQ.out.2 hr2⟩, hbF⟩, rfl, rfl, rfl⟩
            case measure => simp [intOf]; omega
        | true =>
          have c0 := hB6.cell 0 _ rfl
          have c1 := hB6.cell 1 _ rfl
          have c2 := hB6.cell 2 _ rfl
          have d1 := hN.cell 1 _ rfl
          go_wp2_with fail
          refine (rbears5_any _ b Q.hi _ (HR.out _ hA6) HOK.out.bot ⟨hin.2.1, hin.2.2⟩).mono ?_
          rintro e w7 ⟨r1, rfl, hr1, hb7⟩
          have hB7 := hB6.below hb7 hB6.lt
          have hN7 := hN.below hb7 hN.lt
          have hA7 := hA6.trans (hb7.mono hA6.size)
          have hbE := hb6.trans (hb7.mono hb6.size)
          rw [← HE.out] at hr1
          clear c0 c1 c2 d1 hb7 hB6 hN hA6 hb6
          cases br with
          | true =>
            go_wp2
            go_roundw
            case rel => first | exact ⟨k + 1, by omega, by go_num, ⟨_, _, rfl, rfl, allTo_succ HQ.out.1 hr1, anyTo_succ HQ.out.2 (r := decide ((strAt b ts l k).lo ≤ rootF (b.tough / b.flaw))) (by simp)⟩, hbE⟩ | exact ⟨_, _, _, ⟨k + 1, by omega, by go_num, ⟨_, _, rfl, rfl, allTo_succ HQ.out.1 hr1, anyTo_succ HQ.out.2 (r := decide ((strAt b ts l k).lo ≤ rootF (b.tough / b.flaw))) (by simp)⟩, hbE⟩, rfl, rfl, rfl⟩
            case measure => simp [intOf]; omega
          | false =>
            have c0 := hB7.cell 0 _ rfl
            have c1 := hB7.cell 1 _ rfl
            have c2 := hB7.cell 2 _ rfl
            have d0 := hN7.cell 0 _ rfl
            go_wp2_with fail
            refine (rbears5_any _ b Q.lo _ (HR.out _ hA7) HOK.out.bot ⟨hin.1.1, hin.1.2⟩).mono ?_
            rintro e w8 ⟨r2, rfl, hr2, hb8⟩
            have hbF := hbE.trans (hb8.mono hbE.size)
            rw [← HE.out] at hr2
            clear c0 c1 c2 d0 hb8
            go_wp2
            go_roundw
            case rel => first | exact ⟨k + 1, by omega, by go_num, ⟨_, _, rfl, rfl, allTo_succ HQ.out.1 hr1, anyTo_succ HQ.out.2 hr2⟩, hbF⟩ | exact ⟨_, _, _, ⟨k + 1, by omega, by go_num, ⟨_, _, rfl, rfl, allTo_succ HQ.out.1 hr1, anyTo_succ HQ.out.2 hr2⟩, hbF⟩, rfl, rfl, rfl⟩
            case measure => simp [intOf]; omega

    · obtain rfl : k = ts.length := by omega
      have HQ := hq
      have HF := Lib.hid hAr
      clear hb hAr hq hA hB hL
      go_wp2
      go_ret2
      refine ⟨hh, br, rfl, ?_, ?_, HF.out⟩
      · rw [HQ.out.1]; exact ⟨fun h i hi => h i (by rw [HLEN.out]; exact hi), fun h i hi => h i (by rw [← HLEN.out]; exact hi)⟩
      · rw [HQ.out.2]; exact ⟨fun ⟨i, hi, h⟩ => ⟨i, by rw [← HLEN.out]; exact hi, h⟩, fun ⟨i, hi, h⟩ => ⟨i, by rw [HLEN.out]; exact hi, h⟩⟩

end Go.Proofs.YtokgnbagegcnpaaDoor
