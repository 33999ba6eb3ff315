/- The specification's loaded, needed, Needed; no statement is proved here. -/
import Derived.Test.YtokgnbagegcnpaaDoorRBoth
import Derived.Test.YtokgnbagegcnpaaDoorNeedP
import Derived.Test.YtokgnbagegcnpaaDoorSOwn
import Derived.OwnWalk
namespace Go.Proofs.YtokgnbagegcnpaaDoor
open Go.RowKit Go.PlainAid
set_option linter.unusedVariables false
set_option linter.unusedSimpArgs false

def DownI (r : Rg) (l : Ld) (m t n : Int) : Prop := (n = if t = 2000 then 0 else t + 1) ∧ ∀ x, t < x → x ≤ 2000 → needP r l m x = true
theorem downI_start (r : Rg) (l : Ld) (m : Int) : DownI r l m 2000 0 := ⟨by simp, fun x h1 h2 => by omega⟩
theorem downI_step {r : Rg} {l : Ld} {m t n : Int} (h : DownI r l m t n) (h1 : t ≤ 2000) (hp : needP r l m t = true) : DownI r l m (t - 1) t :=
  ⟨by rw [if_neg (by omega)]; omega, fun x a b => by
    by_cases e : x = t
    · rw [e]; exact hp
    · exact h.2 x (by omega) b⟩
theorem downI_end {r : Rg} {l : Ld} {m t n : Int} (hr : OkR r) (hl : OkL l) (h : DownI r l m t n) (h0 : 0 ≤ t) (h1 : t ≤ 2000) (he : t = 0 ∨ needP r l m t = false) : n = needF r l m := by
  have hno : ∀ x, 1 ≤ x → x ≤ t → needP r l m x = false := fun x a b => by
    rcases he with rfl | he
    · omega
    · cases hx : needP r l m x with
      | false => rfl
      | true => rw [needP_mono hr hl a b h1 hx] at he; cases he
  have hfo : IsFO (needP r l m) 2000 n := by
    rw [h.1]
    split
    · rename_i e
      refine ⟨by omega, by omega, fun x a b => ⟨fun hp => ?_, fun hx => by omega⟩⟩
      rw [hno x a (by omega)] at hp; cases hp
    · refine ⟨by omega, by omega, fun x a b => ⟨fun hp => ?_, fun hx => h.2 x (by omega) b⟩⟩
      by_cases e : x ≤ t
      · rw [hno x a e] at hp; cases hp
      · omega
  exact hfo.unique (needF_is hr hl)

set_option maxHeartbeats 1000000 in
set_option maxRecDepth 100000 in
theorem rloaded_any (vb : Value) (b : Bot) (l : Ld) (w : World) (h : RBot w vb b) :
    Calls Tryd.prog 89 #[vb, .agg #[.int .i64 l.press, .int .i64 l.force, .int .i64 l.speed, .int .i64 l.other]] w fun e w' => e = .returned (.int .i64 (bothS b l)) ∧ Below w.heap.size w w' := by
  have h0 := h
  obtain ⟨v0, rfl, hr, hI⟩ := h
  obtain ⟨a, cap, rfl, -, -, -⟩ := hr
  have hA : Below w.heap.size w ((w.alloc (.cells #[.slice a b.rings.length cap, .int .i64 b.flaw, .int .i64 b.tough] 24)).alloc (.cells #[.int .i64 l.press, .int .i64 l.force, .int .i64 l.speed, .int .i64 l.other] 27)) := (below_boxS w _).alloc (by simp) _
  have hL := Blk.new (w.alloc (.cells #[.slice a b.rings.length cap, .int .i64 b.flaw, .int .i64 b.tough] 24)) #[.int .i64 l.press, .int .i64 l.force, .int .i64 l.speed, .int .i64 l.other] 27
  rw [World.size_alloc] at hL
  have HR := Lib.hid (fun V (hV : Below w.heap.size w V) => h0.mono (ext_of_below hV))
  clear h0
  go_enter Tryd.func89, Tryd.ntmps89
  go_wp2_with fail
  generalize (w.alloc (.cells #[.slice a b.rings.length cap, .int .i64 b.flaw, .int .i64 b.tough] 24)).alloc _ = W2 at *
  refine (rcheck5_any _ b _ (HR.out _ hA)).mono ?_
  rintro e w3 ⟨rfl, hb3⟩
  have hA3 := hA.trans (hb3.mono hA.size)
  have hL3 := hL.below hb3 hL.lt
  clear hA hL hb3
  by_cases hc : checkS b = 0
  case neg =>
    have hne : (checkS b != 0) = true := by simpa using hc
    have HF := Lib.hid (show bothS b l = checkS b by rw [bothS, if_neg hc])
    clear hL3 hc
    go_wp2
    go_ret
    exact ⟨ret_int HF.out.symm, hA3⟩
  have HF := Lib.hid (show bothS b l = loadS l by rw [bothS, if_pos hc])
  rw [hc]
  clear hc
  have c0 := hL3.cell 0 _ rfl
  have c1 := hL3.cell 1 _ rfl
  have c2 := hL3.cell 2 _ rfl
  have c3 := hL3.cell 3 _ rfl
  go_wp2_with fail
  refine (rload_any l _).mono ?_
  rintro e w5 ⟨rfl, hb5⟩
  have hA5 := hA3.trans (hb5.mono hA3.size)
  clear hA3 hL3 hb5 c0 c1 c2 c3
  by_cases hl : loadS l = 0
  · rw [decide_eq_true hl]
    have HL := Lib.hid hl
    clear hl
    go_wp2
    go_ret
    exact ⟨ret_int (by rw [HF.out, HL.out]), hA5⟩
  · rw [decide_eq_false hl]
    have HL := Lib.hid ((loadS_01 l).resolve_left hl)
    clear hl
    go_wp2
    go_ret
    exact ⟨ret_int (by rw [HF.out, HL.out]), hA5⟩

def NeedP (w : World) (l : List Int) (e : Ending) (w' : World) : Prop := ∃ v, e = .returned v ∧ RInts (vis (w.heap.size ≤ ·) w') v l ∧ Below w.heap.size w w'

set_option maxHeartbeats 1500000 in
set_option maxRecDepth 100000 in
theorem rneeded_any (vb : Value) (b : Bot) (l : Ld) (w : World) (h : RBot w vb b) (hok : OkS b) (hl : OkL l) :
    Calls Tryd.prog 90 #[vb, .agg #[.int .i64 l.press, .int .i64 l.force, .int .i64 l.speed, .int .i64 l.other]] w (NeedP w (needS b l)) := by
  have h0 := h
  obtain ⟨v0, rfl, hr, hI⟩ := h
  obtain ⟨a, cap, rfl, -, ⟨-, hm⟩, hrl⟩ := hr
  have hA : Below w.heap.size w ((w.alloc (.cells #[.slice a b.rings.length cap, .int .i64 b.flaw, .int .i64 b.tough] 24)).alloc (.cells #[.int .i64 l.press, .int .i64 l.force, .int .i64 l.speed, .int .i64 l.other] 27)) := (below_boxS w _).alloc (by simp) _
  have hB := (Blk.new w #[.slice a b.rings.length cap, .int .i64 b.flaw, .int .i64 b.tough] 24).alloc (.cells #[.int .i64 l.press, .int .i64 l.force, .int .i64 l.speed, .int .i64 l.other] 27)
  have hL := Blk.new (w.alloc (.cells #[.slice a b.rings.length cap, .int .i64 b.flaw, .int .i64 b.tough] 24)) #[.int .i64 l.press, .int .i64 l.force, .int .i64 l.speed, .int .i64 l.other] 27
  rw [World.size_alloc] at hL
  have HR := Lib.hid (fun V (hV : Below w.heap.size w V) => h0.mono (ext_of_below hV))
  have HRL := Lib.hid hrl
  have HOK := Lib.hid hok
  have HL := Lib.hid hl
  have hmo := hok.most
  obtain ⟨i0, hi, hzz⟩ := Option.map_eq_some_iff.1 info_int
  simp only [Prod.mk.injEq] at hzz
  obtain ⟨hz0, hz1, hz2⟩ := hzz
  clear h0 hrl hok hl
  go_enter Tryd.func90, Tryd.ntmps90
  go_wp2_with fail
  generalize (w.alloc (.cells #[.slice a b.rings.length cap, .int .i64 b.flaw, .int .i64 b.tough] 24)).alloc _ = W2 at *
  go_loopw [5, 6] (fun v i wr => ∃ (k : Nat) (us : List Int), k ≤ b.rings.length ∧ i = .int .i64 k ∧ Hid (us = (needS b l).take k) ∧ wr.ownsRow W2.heap.size 3 1 v us.length (us.map (Value.int .i64)) ∧ Below W2.heap.size W2 wr) (fun _ i _ => b.rings.length - (intOf i).toNat)
  case atStart => exact ⟨0, [], Nat.zero_le _, rfl, Lib.hid (by simp), World.ownsRow_nil _ _ _ _, Below.refl _ _⟩
  case round =>
    obtain ⟨k, us, hk, rfl, hu, hown, hb⟩ := hrel
    have hAr := hA.trans (hb.mono hA.size)
    have hBr := hB.below hb hB.lt
    have c0 := hBr.cell 0 _ rfl
    by_cases hlt : k < b.rings.length
    · have hLr := hL.below hb hL.lt
      obtain ⟨rb, ro, rfl, hc, -⟩ := HRL.out k hlt
      have hx : ∀ j, j < 10 → wr.cell? ⟨rb, ro + k * 10 + j, none⟩ = (rgCells b.rings[k])[j]? := fun j hj => by
        have hj' : j < (rgCells b.rings[k]).length := hj
        rw [List.getElem?_eq_getElem hj']
        exact ext_of_below hAr _ _ (hc j _ (List.getElem?_eq_getElem hj'))
      have hkn : k < (needS b l).length := by rw [needS_len]; exact hlt
      have HOR := Lib.hid (HOK.out.rings k hlt)
      have hul : us.length = k := by rw [hu.out, List.length_take]; omega
      have HSN : Hid (∀ n, n = needF b.rings[k] l (rootF (b.tough / b.flaw)) → us ++ [n] = (needS b l).take (k + 1)) := Lib.hid (fun n hn => by
        rw [List.take_succ_eq_append_getElem hkn, ← hu.out, needS_at hkn hlt, hn])
      generalize b.rings[k] = R at *
      have x0 := hx 0 (by omega)
      have x1 := hx 1 (by omega)
      have x2 := hx 2 (by omega)
      have x3 := hx 3 (by omega)
      have x4 := hx 4 (by omega)
      have x5 := hx 5 (by omega)
      have x6 := hx 6 (by omega)
      have x7 := hx 7 (by omega)
      have x8 := hx 8 (by omega)
      have x9 := hx 9 (by omega)
      simp only [rgCells, Nat.add_zero, List.getElem?_cons_zero, List.getElem?_cons_succ] at x0 x1 x2 x3 x4 x5 x6 x7 x8 x9
      have c1 := hBr.cell 1 _ rfl
      have c2 := hBr.cell 2 _ rfl
      have l0 := hLr.cell 0 _ rfl
      have l1 := hLr.cell 1 _ rfl
      have l2 := hLr.cell 2 _ rfl
      have l3 := hLr.cell 3 _ rfl
      have i1 : (0 : Int) ≤ (k : Int) := Int.natCast_nonneg _
      have i3 : (k : Int) < (b.rings.length : Int) := by omega
      have HSV : Hid (∀ V, Below wr.heap.size wr V → (fun w' : World => w'.cell? ⟨w.heap.size, 0, none⟩ = some (.slice (some ⟨rb, ro, none⟩) b.rings.length cap) ∧ w'.cell? ⟨w.heap.size, 1, none⟩ = some (.int .i64 b.flaw) ∧ w'.cell? ⟨w.heap.size, 2, none⟩ = some (.int .i64 b.tough) ∧ w'.cell? ⟨rb, ro + k * 10, none⟩ = some (.int .i64 R.radius.lo) ∧ w'.cell? ⟨rb, ro + k * 10 + 1, none⟩ = some (.int .i64 R.radius.hi) ∧ w'.cell? ⟨rb, ro + k * 10 + 2, none⟩ = some (.int .i64 R.height.lo) ∧ w'.cell? ⟨rb, ro + k * 10 + 3, none⟩ = some (.int .i64 R.height.hi) ∧ w'.cell? ⟨rb, ro + k * 10 + 4, none⟩ = some (.int .i64 R.share.lo) ∧ w'.cell? ⟨rb, ro + k * 10 + 5, none⟩ = some (.int .i64 R.share.hi) ∧ w'.cell? ⟨rb, ro + k * 10 + 6, none⟩ = some (.int .i64 R.factor.lo) ∧ w'.cell? ⟨rb, ro + k * 10 + 7, none⟩ = some (.int .i64 R.factor.hi) ∧ w'.cell? ⟨rb, ro + k * 10 + 8, none⟩ = some (.int .i64 R.hit.lo) ∧ w'.cell? ⟨rb, ro + k * 10 + 9, none⟩ = some (.int .i64 R.hit.hi) ∧ w'.cell? ⟨w.heap.size + 1, 0, none⟩ = some (.int .i64 l.press) ∧ w'.cell? ⟨w.heap.size + 1, 1, none⟩ = some (.int .i64 l.force) ∧ w'.cell? ⟨w.heap.size + 1, 2, none⟩ = some (.int .i64 l.speed) ∧ w'.cell? ⟨w.heap.size + 1, 3, none⟩ = some (.int .i64 l.other)) V) := Lib.hid (fun V hV => ⟨ext_of_below hV _ _ c0, ext_of_below hV _ _ c1, ext_of_below hV _ _ c2, ext_of_below hV _ _ x0, ext_of_below hV _ _ x1, ext_of_below hV _ _ x2, ext_of_below hV _ _ x3, ext_of_below hV _ _ x4, ext_of_below hV _ _ x5, ext_of_below hV _ _ x6, ext_of_below hV _ _ x7, ext_of_below hV _ _ x8, ext_of_below hV _ _ x9, ext_of_below hV _ _ l0, ext_of_below hV _ _ l1, ext_of_below hV _ _ l2, ext_of_below hV _ _ l3⟩)
      have HB0 := Lib.hid hb
      have HO0 := Lib.hid hown
      clear c1 c2 x0 x1 x2 x3 x4 x5 x6 x7 x8 x9 l0 l1 l2 l3 hLr hBr hx hc hb hown hu
      go_wp2_with fail
      clear c0
      go_loopw [7, 8] (fun n t wi => ∃ (tt nn : Int), 0 ≤ tt ∧ tt ≤ 2000 ∧ n = .int .i64 nn ∧ t = .int .i64 tt ∧ Hid (DownI R l (rootF (b.tough / b.flaw)) tt nn) ∧ Below wr.heap.size wr wi) (fun _ t _ => (intOf t).toNat)
      case atStart => exact ⟨2000, 0, by omega, by omega, rfl, rfl, Lib.hid (downI_start _ _ _), Below.refl _ _⟩
      case round =>
        obtain ⟨tt, nn, t0, t1, rfl, rfl, hdn, hbi⟩ := hrel
        have D0 := hbi.drew
        by_cases h1 : 1 ≤ tt
        · have hd := decide_eq_true h1
          have hst := fun V => rstress_any R ⟨tt, tt⟩ l V HOR.out ⟨h1, Int.le_refl _, t1⟩ HL.out
          have hin := strR_in (t := ⟨tt, tt⟩) HOR.out ⟨h1, Int.le_refl _, t1⟩ HL.out
          have HP : Hid (needP R l (rootF (b.tough / b.flaw)) tt = decide ((strR R ⟨tt, tt⟩ l).hi ≤ rootF (b.tough / b.flaw))) := Lib.hid rfl
          simp only [rgCells] at hst
          generalize strR R ⟨tt, tt⟩ l = Q at *
          obtain ⟨-, n1, n2⟩ := hin
          go_wp2_with fail
          refine wp_region_till (fun w' : World => w'.cell? ⟨w.heap.size, 0, none⟩ = some (.slice (some ⟨rb, ro, none⟩) b.rings.length cap) ∧ w'.cell? ⟨w.heap.size, 1, none⟩ = some (.int .i64 b.flaw) ∧ w'.cell? ⟨w.heap.size, 2, none⟩ = some (.int .i64 b.tough) ∧ w'.cell? ⟨rb, ro + k * 10, none⟩ = some (.int .i64 R.radius.lo) ∧ w'.cell? ⟨rb, ro + k * 10 + 1, none⟩ = some (.int .i64 R.radius.hi) ∧ w'.cell? ⟨rb, ro + k * 10 + 2, none⟩ = some (.int .i64 R.height.lo) ∧ w'.cell? ⟨rb, ro + k * 10 + 3, none⟩ = some (.int .i64 R.height.hi) ∧ w'.cell? ⟨rb, ro + k * 10 + 4, none⟩ = some (.int .i64 R.share.lo) ∧ w'.cell? ⟨rb, ro + k * 10 + 5, none⟩ = some (.int .i64 R.share.hi) ∧ w'.cell? ⟨rb, ro + k * 10 + 6, none⟩ = some (.int .i64 R.factor.lo) ∧ w'.cell? ⟨rb, ro + k * 10 + 7, none⟩ = some (.int .i64 R.factor.hi) ∧ w'.cell? ⟨rb, ro + k * 10 + 8, none⟩ = some (.int .i64 R.hit.lo) ∧ w'.cell? ⟨rb, ro + k * 10 + 9, none⟩ = some (.int .i64 R.hit.hi) ∧ w'.cell? ⟨w.heap.size + 1, 0, none⟩ = some (.int .i64 l.press) ∧ w'.cell? ⟨w.heap.size + 1, 1, none⟩ = some (.int .i64 l.force) ∧ w'.cell? ⟨w.heap.size + 1, 2, none⟩ = some (.int .i64 l.speed) ∧ w'.cell? ⟨w.heap.size + 1, 3, none⟩ = some (.int .i64 l.other)) 99 (by kernel_rfl) (HSV.out _ D0) (fun hHeld => ?_)
          refine Till.take 0 (some 16) (v := ?_) rfl rfl (by kernel_rfl) (by kernel_rfl) (by kernel_rfl) (by kernel_rfl) (fun _ _ _ h => h) (Or.inl ⟨by rfl, ?_⟩) (by assumption) ?_
          rotate_left
          · (intro w hSw; (try dsimp only at hSw); go_simp; try with_reducible rfl)
          try simp only [Act.put, List.setIfInBounds_toArray, List.set_cons_zero, List.set_cons_succ]
          refine Till.take 1 (some 17) (v := ?_) rfl rfl (by kernel_rfl) (by kernel_rfl) (by kernel_rfl) (by kernel_rfl) (fun _ _ _ h => h) (Or.inl ⟨by rfl, ?_⟩) (by assumption) ?_
          rotate_left
          · (intro w hSw; (try dsimp only at hSw); go_simp; try with_reducible rfl)
          try simp only [Act.put, List.setIfInBounds_toArray, List.set_cons_zero, List.set_cons_succ]
          refine Till.take 2 (some 18) (v := ?_) rfl rfl (by kernel_rfl) (by kernel_rfl) (by kernel_rfl) (by kernel_rfl) (fun _ _ _ h => h) (Or.inl ⟨by rfl, ?_⟩) (by assumption) ?_
          rotate_left
          · (intro w hSw; (try dsimp only at hSw); go_simp; try with_reducible rfl)
          try simp only [Act.put, List.setIfInBounds_toArray, List.set_cons_zero, List.set_cons_succ]
          refine Till.take 3 (some 19) (v := ?_) rfl rfl (by kernel_rfl) (by kernel_rfl) (by kernel_rfl) (by kernel_rfl) (fun _ _ _ h => h) (Or.inl ⟨by rfl, ?_⟩) (by assumption) ?_
          rotate_left
          · (intro w hSw; (try dsimp only at hSw); go_simp; try with_reducible rfl)
          try simp only [Act.put, List.setIfInBounds_toArray, List.set_cons_zero, List.set_cons_succ]
          refine Till.take 4 (some 20) (v := ?_) rfl rfl (by kernel_rfl) (by kernel_rfl) (by kernel_rfl) (by kernel_rfl) (fun _ _ _ h => h) (Or.inl ⟨by rfl, ?_⟩) (by assumption) ?_
          rotate_left
          · (intro w hSw; (try dsimp only at hSw); go_simp; try with_reducible rfl)
          try simp only [Act.put, List.setIfInBounds_toArray, List.set_cons_zero, List.set_cons_succ]
          refine Till.take 5 (some 21) (v := ?_) rfl rfl (by kernel_rfl) (by kernel_rfl) (by kernel_rfl) (by kernel_rfl) (fun _ _ _ h => h) (Or.inl ⟨by rfl, ?_⟩) (by assumption) ?_
          rotate_left
          · (intro w hSw; (try dsimp only at hSw); go_simp; try with_reducible rfl)
          try simp only [Act.put, List.setIfInBounds_toArray, List.set_cons_zero, List.set_cons_succ]
          refine Till.take 6 (some 22) (v := ?_) rfl rfl (by kernel_rfl) (by kernel_rfl) (by kernel_rfl) (by kernel_rfl) (fun _ _ _ h => h) (Or.inl ⟨by rfl, ?_⟩) (by assumption) ?_
          rotate_left
          · (intro w hSw; (try dsimp only at hSw); go_simp; try with_reducible rfl)
          try simp only [Act.put, List.setIfInBounds_toArray, List.set_cons_zero, List.set_cons_succ]
          refine Till.take 7 (some 23) (v := ?_) rfl rfl (by kernel_rfl) (by kernel_rfl) (by kernel_rfl) (by kernel_rfl) (fun _ _ _ h => h) (Or.inl ⟨by rfl, ?_⟩) (by assumption) ?_
          rotate_left
          · (intro w hSw; (try dsimp only at hSw); go_simp; try with_reducible rfl)
          try simp only [Act.put, List.setIfInBounds_toArray, List.set_cons_zero, List.set_cons_succ]
          refine Till.take 8 (some 24) (v := ?_) rfl rfl (by kernel_rfl) (by kernel_rfl) (by kernel_rfl) (by kernel_rfl) (fun _ _ _ h => h) (Or.inl ⟨by rfl, ?_⟩) (by assumption) ?_
          rotate_left
          · (intro w hSw; (try dsimp only at hSw); go_simp; try with_reducible rfl)
          try simp only [Act.put, List.setIfInBounds_toArray, List.set_cons_zero, List.set_cons_succ]
          refine Till.take 9 (some 25) (v := ?_) rfl rfl (by kernel_rfl) (by kernel_rfl) (by kernel_rfl) (by kernel_rfl) (fun _ _ _ h => h) (Or.inl ⟨by rfl, ?_⟩) (by assumption) ?_
          rotate_left
          · (intro w hSw; (try dsimp only at hSw); go_simp; try with_reducible rfl)
          try simp only [Act.put, List.setIfInBounds_toArray, List.set_cons_zero, List.set_cons_succ]
          refine Till.take 10 (some 26) (v := ?_) rfl rfl (by kernel_rfl) (by kernel_rfl) (by kernel_rfl) (by kernel_rfl) (fun _ _ _ h => h) (Or.inl ⟨by rfl, ?_⟩) (by assumption) ?_
          rotate_left
          · (intro w hSw; (try dsimp only at hSw); go_simp; try with_reducible rfl)
          try simp only [Act.put, List.setIfInBounds_toArray, List.set_cons_zero, List.set_cons_succ]
          refine Till.take 11 (some 27) (v := ?_) rfl rfl (by kernel_rfl) (by kernel_rfl) (by kernel_rfl) (by kernel_rfl) (fun _ _ _ h => h) (Or.inl ⟨by rfl, ?_⟩) (by assumption) ?_
          rotate_left
          · (intro w hSw; (try dsimp only at hSw); go_simp; try with_reducible rfl)
          try simp only [Act.put, List.setIfInBounds_toArray, List.set_cons_zero, List.set_cons_succ]
          refine Till.take 12 (some 28) (v := ?_) rfl rfl (by kernel_rfl) (by kernel_rfl) (by kernel_rfl) (by kernel_rfl) (fun _ _ _ h => h) (Or.inl ⟨by rfl, ?_⟩) (by assumption) ?_
          rotate_left
          · (intro w hSw; (try dsimp only at hSw); go_simp; try with_reducible rfl)
          try simp only [Act.put, List.setIfInBounds_toArray, List.set_cons_zero, List.set_cons_succ]
          refine Till.one 13 rfl (by kernel_rfl) (fun K hK => ?_)
          go_simp
          go_at_call 73
          refine (hst _).mono ?_
          rintro e Z ⟨rfl, hbb⟩
          have D1 := D0.trans (hbb.mono D0.size)
          have hh1 := HSV.out _ D1
          have hfi := field_hi5 (.int .i64 Q.lo) (.int .i64 Q.hi)
          refine hK.out _ _ (fun _ => HSV.out _ D1) (fun hHeld2 => ?_)
          clear hK K hbb hst
          try simp only [Act.put, List.setIfInBounds_toArray, List.set_cons_zero, List.set_cons_succ]
          refine Till.take 14 (some 30) (v := ?_) rfl rfl (by kernel_rfl) (by kernel_rfl) (by kernel_rfl) (by kernel_rfl) (fun _ _ _ h => h) (Or.inl ⟨by rfl, ?_⟩) (by assumption) ?_
          rotate_left
          · (intro w hSw; (try dsimp only at hSw); go_simp; try with_reducible rfl)
          try simp only [Act.put, List.setIfInBounds_toArray, List.set_cons_zero, List.set_cons_succ]
          refine Till.one 15 rfl (by kernel_rfl) (fun K hK => ?_)
          go_simp
          go_at_call 136
          refine (rbears5_any _ b Q.hi _ (HR.out _ (hAr.trans (D1.mono hAr.size))) HOK.out ⟨n1, n2⟩).mono ?_
          rintro e Y ⟨r, rfl, hr, hbb⟩
          have D2 := D1.trans (hbb.mono D1.size)
          have hh2 := HSV.out _ D2
          refine hK.out _ _ (fun _ => HSV.out _ D2) (fun hHeld3 => ?_)
          clear hK K hbb
          try simp only [Act.put, List.setIfInBounds_toArray, List.set_cons_zero, List.set_cons_succ]
          refine Till.take 16 (some 32) (v := ?_) rfl rfl (by kernel_rfl) (by kernel_rfl) (by kernel_rfl) (by kernel_rfl) (fun _ _ _ h => h) (Or.inl ⟨by rfl, ?_⟩) (by assumption) ?_
          rotate_left
          · (intro w hSw; (try dsimp only at hSw); go_simp; try with_reducible rfl)
          try simp only [Act.put, List.setIfInBounds_toArray, List.set_cons_zero, List.set_cons_succ]
          refine Till.done (by kernel_rfl) ?_ _
          have hwt := wrap_id (tt - 1) (by unfold I64; omega)
          clear hHeld hHeld2 hHeld3 hh1 hh2 hfi D0 D1 n1 n2 hbi
          cases r with
          | true =>
            have HN := Lib.hid (downI_step hdn.out t1 (by rw [HP.out]; exact decide_eq_true (hr.1 rfl)))
            clear hr hdn HP
            go_wp2
            go_roundw
            case rel => exact ⟨tt - 1, tt, by omega, by omega, rfl, rfl, HN, D2⟩
            case measure => simp [intOf]; omega
          | false =>
            have HE : Hid (us ++ [nn] = (needS b l).take (k + 1)) := Lib.hid (HSN.out nn (downI_end HOR.out HL.out hdn.out t0 t1 (.inr (by rw [HP.out]; exact decide_eq_false (fun h => by have := hr.2 h; cases this)))))
            clear hr hdn HP hwt
            have hsz := D2.size
            have hownA := (own_below HO0.out D2 (own_lt HO0.out)).alloc (.cells #[.int .i64 nn] 3)
            have hDA := (HB0.out.trans (D2.mono HB0.out.size)).alloc (by have := HB0.out.size; omega) (.cells #[.int .i64 nn] 3)
            have hbs := HB0.out.size
            clear D2
            go_wp2_with (at_builtin; refine wpList_append_own _ rfl _ _ 30 rfl W2.heap.size 3 i0 (.int .i64 0) 1 8 Tryd.underlying30 hi hz0 hz1 hz2 rfl (by decide) _ us.length _ rfl hownA ⟨Y.heap.size, 0, none⟩ 1 1 [.int .i64 nn] rfl rfl (cell_one_new _ _ _) (by simp [Value.oneCell']) (by unfold maxLen; omega) (by omega) (by simp; omega) ?_; intro v6 w6 hown6 hgrow6 _)
            have hB6 := hDA.grown hgrow6 (by simp; omega) (fun q hq => (hownA.lt q hq).1)
            have hownF : w6.ownsRow W2.heap.size 3 1 v6 (us ++ [nn]).length ((us ++ [nn]).map (Value.int .i64)) := by
              rw [List.map_append, List.map_singleton, List.length_append]; exact hown6
            clear hown6 hownA hgrow6 hDA
            go_roundw
            case rel => exact ⟨k + 1, us ++ [nn], by omega, by go_num, HE, hownF, hB6⟩
            case measure => simp [intOf]; omega
        · have hd := decide_eq_false h1
          have HE : Hid (us ++ [nn] = (needS b l).take (k + 1)) := Lib.hid (HSN.out nn (downI_end HOR.out HL.out hdn.out t0 t1 (.inl (by omega))))
          go_wp2_with fail
          refine wp_region_till (fun w' : World => w'.cell? ⟨w.heap.size, 0, none⟩ = some (.slice (some ⟨rb, ro, none⟩) b.rings.length cap) ∧ w'.cell? ⟨w.heap.size, 1, none⟩ = some (.int .i64 b.flaw) ∧ w'.cell? ⟨w.heap.size, 2, none⟩ = some (.int .i64 b.tough) ∧ w'.cell? ⟨rb, ro + k * 10, none⟩ = some (.int .i64 R.radius.lo) ∧ w'.cell? ⟨rb, ro + k * 10 + 1, none⟩ = some (.int .i64 R.radius.hi) ∧ w'.cell? ⟨rb, ro + k * 10 + 2, none⟩ = some (.int .i64 R.height.lo) ∧ w'.cell? ⟨rb, ro + k * 10 + 3, none⟩ = some (.int .i64 R.height.hi) ∧ w'.cell? ⟨rb, ro + k * 10 + 4, none⟩ = some (.int .i64 R.share.lo) ∧ w'.cell? ⟨rb, ro + k * 10 + 5, none⟩ = some (.int .i64 R.share.hi) ∧ w'.cell? ⟨rb, ro + k * 10 + 6, none⟩ = some (.int .i64 R.factor.lo) ∧ w'.cell? ⟨rb, ro + k * 10 + 7, none⟩ = some (.int .i64 R.factor.hi) ∧ w'.cell? ⟨rb, ro + k * 10 + 8, none⟩ = some (.int .i64 R.hit.lo) ∧ w'.cell? ⟨rb, ro + k * 10 + 9, none⟩ = some (.int .i64 R.hit.hi) ∧ w'.cell? ⟨w.heap.size + 1, 0, none⟩ = some (.int .i64 l.press) ∧ w'.cell? ⟨w.heap.size + 1, 1, none⟩ = some (.int .i64 l.force) ∧ w'.cell? ⟨w.heap.size + 1, 2, none⟩ = some (.int .i64 l.speed) ∧ w'.cell? ⟨w.heap.size + 1, 3, none⟩ = some (.int .i64 l.other)) 99 (by kernel_rfl) (HSV.out _ D0) (fun hHeld => ?_)
          refine Till.take 0 (some 16) (v := ?_) rfl rfl (by kernel_rfl) (by kernel_rfl) (by kernel_rfl) (by kernel_rfl) (fun _ _ _ h => h) (Or.inl ⟨by rfl, ?_⟩) (by assumption) ?_
          rotate_left
          · (intro w hSw; (try dsimp only at hSw); go_simp; try with_reducible rfl)
          try simp only [Act.put, List.setIfInBounds_toArray, List.set_cons_zero, List.set_cons_succ]
          refine Till.take 1 (some 17) (v := ?_) rfl rfl (by kernel_rfl) (by kernel_rfl) (by kernel_rfl) (by kernel_rfl) (fun _ _ _ h => h) (Or.inl ⟨by rfl, ?_⟩) (by assumption) ?_
          rotate_left
          · (intro w hSw; (try dsimp only at hSw); go_simp; try with_reducible rfl)
          try simp only [Act.put, List.setIfInBounds_toArray, List.set_cons_zero, List.set_cons_succ]
          refine Till.take 2 (some 18) (v := ?_) rfl rfl (by kernel_rfl) (by kernel_rfl) (by kernel_rfl) (by kernel_rfl) (fun _ _ _ h => h) (Or.inl ⟨by rfl, ?_⟩) (by assumption) ?_
          rotate_left
          · (intro w hSw; (try dsimp only at hSw); go_simp; try with_reducible rfl)
          try simp only [Act.put, List.setIfInBounds_toArray, List.set_cons_zero, List.set_cons_succ]
          refine Till.take 3 (some 19) (v := undef) rfl rfl (by kernel_rfl) (by kernel_rfl) (by kernel_rfl) (by kernel_rfl) (fun _ _ _ h => h) (Or.inr ⟨by rfl, rfl⟩) (by assumption) ?_
          try simp only [Act.put, List.setIfInBounds_toArray, List.set_cons_zero, List.set_cons_succ]
          refine Till.take 4 (some 20) (v := undef) rfl rfl (by kernel_rfl) (by kernel_rfl) (by kernel_rfl) (by kernel_rfl) (fun _ _ _ h => h) (Or.inr ⟨by rfl, rfl⟩) (by assumption) ?_
          try simp only [Act.put, List.setIfInBounds_toArray, List.set_cons_zero, List.set_cons_succ]
          refine Till.take 5 (some 21) (v := undef) rfl rfl (by kernel_rfl) (by kernel_rfl) (by kernel_rfl) (by kernel_rfl) (fun _ _ _ h => h) (Or.inr ⟨by rfl, rfl⟩) (by assumption) ?_
          try simp only [Act.put, List.setIfInBounds_toArray, List.set_cons_zero, List.set_cons_succ]
          refine Till.take 6 (some 22) (v := undef) rfl rfl (by kernel_rfl) (by kernel_rfl) (by kernel_rfl) (by kernel_rfl) (fun _ _ _ h => h) (Or.inr ⟨by rfl, rfl⟩) (by assumption) ?_
          try simp only [Act.put, List.setIfInBounds_toArray, List.set_cons_zero, List.set_cons_succ]
          refine Till.take 7 (some 23) (v := undef) rfl rfl (by kernel_rfl) (by kernel_rfl) (by kernel_rfl) (by kernel_rfl) (fun _ _ _ h => h) (Or.inr ⟨by rfl, rfl⟩) (by assumption) ?_
          try simp only [Act.put, List.setIfInBounds_toArray, List.set_cons_zero, List.set_cons_succ]
          refine Till.take 8 (some 24) (v := undef) rfl rfl (by kernel_rfl) (by kernel_rfl) (by kernel_rfl) (by kernel_rfl) (fun _ _ _ h => h) (Or.inr ⟨by rfl, rfl⟩) (by assumption) ?_
          try simp only [Act.put, List.setIfInBounds_toArray, List.set_cons_zero, List.set_cons_succ]
          refine Till.take 9 (some 25) (v := undef) rfl rfl (by kernel_rfl) (by kernel_rfl) (by kernel_rfl) (by kernel_rfl) (fun _ _ _ h => h) (Or.inr ⟨by rfl, rfl⟩) (by assumption) ?_
          try simp only [Act.put, List.setIfInBounds_toArray, List.set_cons_zero, List.set_cons_succ]
          refine Till.take 10 (some 26) (v := undef) rfl rfl (by kernel_rfl) (by kernel_rfl) (by kernel_rfl) (by kernel_rfl) (fun _ _ _ h => h) (Or.inr ⟨by rfl, rfl⟩) (by assumption) ?_
          try simp only [Act.put, List.setIfInBounds_toArray, List.set_cons_zero, List.set_cons_succ]
          refine Till.take 11 (some 27) (v := undef) rfl rfl (by kernel_rfl) (by kernel_rfl) (by kernel_rfl) (by kernel_rfl) (fun _ _ _ h => h) (Or.inr ⟨by rfl, rfl⟩) (by assumption) ?_
          try simp only [Act.put, List.setIfInBounds_toArray, List.set_cons_zero, List.set_cons_succ]
          refine Till.take 12 (some 28) (v := undef) rfl rfl (by kernel_rfl) (by kernel_rfl) (by kernel_rfl) (by kernel_rfl) (fun _ _ _ h => h) (Or.inr ⟨by rfl, rfl⟩) (by assumption) ?_
          try simp only [Act.put, List.setIfInBounds_toArray, List.set_cons_zero, List.set_cons_succ]
          refine Till.take 13 (some 29) (v := undef) rfl rfl (by kernel_rfl) (by kernel_rfl) (by kernel_rfl) (by kernel_rfl) (fun _ _ _ h => h) (Or.inr ⟨by rfl, rfl⟩) (by assumption) ?_
          try simp only [Act.put, List.setIfInBounds_toArray, List.set_cons_zero, List.set_cons_succ]
          refine Till.take 14 (some 30) (v := undef) rfl rfl (by kernel_rfl) (by kernel_rfl) (by kernel_rfl) (by kernel_rfl) (fun _ _ _ h => h) (Or.inr ⟨by rfl, rfl⟩) (by assumption) ?_
          try simp only [Act.put, List.setIfInBounds_toArray, List.set_cons_zero, List.set_cons_succ]
          refine Till.take 15 (some 31) (v := undef) rfl rfl (by kernel_rfl) (by kernel_rfl) (by kernel_rfl) (by kernel_rfl) (fun _ _ _ h => h) (Or.inr ⟨by rfl, rfl⟩) (by assumption) ?_
          try simp only [Act.put, List.setIfInBounds_toArray, List.set_cons_zero, List.set_cons_succ]
          refine Till.take 16 (some 32) (v := ?_) rfl rfl (by kernel_rfl) (by kernel_rfl) (by kernel_rfl) (by kernel_rfl) (fun _ _ _ h => h) (Or.inl ⟨by rfl, ?_⟩) (by assumption) ?_
          rotate_left
          · (intro w hSw; (try dsimp only at hSw); go_simp; try with_reducible rfl)
          try simp only [Act.put, List.setIfInBounds_toArray, List.set_cons_zero, List.set_cons_succ]
          refine Till.done (by kernel_rfl) ?_ _
          clear hHeld hbi hdn
          generalize wr.drew = Y at *
          have hsz := D0.size
          have hownA := (own_below HO0.out D0 (own_lt HO0.out)).alloc (.cells #[.int .i64 nn] 3)
          have hDA := (HB0.out.trans (D0.mono HB0.out.size)).alloc (by have := HB0.out.size; omega) (.cells #[.int .i64 nn] 3)
          have hbs := HB0.out.size
          clear D0
          go_wp2_with (at_builtin; refine wpList_append_own _ rfl _ _ 30 rfl W2.heap.size 3 i0 (.int .i64 0) 1 8 Tryd.underlying30 hi hz0 hz1 hz2 rfl (by decide) _ us.length _ rfl hownA ⟨Y.heap.size, 0, none⟩ 1 1 [.int .i64 nn] rfl rfl (cell_one_new _ _ _) (by simp [Value.oneCell']) (by unfold maxLen; omega) (by omega) (by simp; omega) ?_; intro v6 w6 hown6 hgrow6 _)
          have hB6 := hDA.grown hgrow6 (by simp; omega) (fun q hq => (hownA.lt q hq).1)
          have hownF : w6.ownsRow W2.heap.size 3 1 v6 (us ++ [nn]).length ((us ++ [nn]).map (Value.int .i64)) := by
            rw [List.map_append, List.map_singleton, List.length_append]; exact hown6
          clear hown6 hownA hgrow6 hDA
          go_roundw
          case rel => exact ⟨k + 1, us ++ [nn], by omega, by go_num, HE, hownF, hB6⟩
          case measure => simp [intOf]; omega
    · obtain rfl : k = b.rings.length := by omega
      have hfull : us = needS b l := by rw [hu.out, ← needS_len b l]; exact List.take_of_length_le (Nat.le_refl _)
      have hbd := needS_bd HOK.out HL.out
      have hlen := needS_len b l
      have hRI : RInts (vis (w.heap.size ≤ ·) wr) u5 us := own_RInts (own_vis hown (fun g hg => Nat.le_trans hA.size (hown.lt g hg).1)) (by rw [hfull, hlen]; omega) (fun y hy => by rw [hfull] at hy; have := hbd y hy; unfold I64; omega)
      rw [hfull] at hRI
      have HI := Lib.hid hRI
      have HF := Lib.hid hAr
      clear hRI hAr hown hfull hbd hu hb hlen
      go_wp2
      go_ret
      exact ⟨u5, rfl, HI.out, HF.out⟩

set_option maxHeartbeats 2000000 in
set_option maxRecDepth 100000 in
theorem rneededP_any (vb : Value) (b : Bot) (l : Ld) (w : World) (h : RBot w vb b) :
    Calls Tryd.prog 31 #[vb, .agg #[.int .i64 l.press, .int .i64 l.force, .int .i64 l.speed, .int .i64 l.other]] w fun e w' => ∃ v, e = .returned (.tuple #[v, .int .i64 (bothS b l)]) ∧ RInts (vis (w.heap.size ≤ ·) w') v (needsS b l) ∧ Below w.heap.size w w' := by
  have h0 := h
  obtain ⟨v0, rfl, hr, hI⟩ := h
  obtain ⟨a, cap, rfl, -, -, -⟩ := hr
  have hA : Below w.heap.size w ((w.alloc (.cells #[.slice a b.rings.length cap, .int .i64 b.flaw, .int .i64 b.tough] 24)).alloc (.cells #[.int .i64 l.press, .int .i64 l.force, .int .i64 l.speed, .int .i64 l.other] 27)) := (below_boxS w _).alloc (by simp) _
  have hB := (Blk.new w #[.slice a b.rings.length cap, .int .i64 b.flaw, .int .i64 b.tough] 24).alloc (.cells #[.int .i64 l.press, .int .i64 l.force, .int .i64 l.speed, .int .i64 l.other] 27)
  have hL := Blk.new (w.alloc (.cells #[.slice a b.rings.length cap, .int .i64 b.flaw, .int .i64 b.tough] 24)) #[.int .i64 l.press, .int .i64 l.force, .int .i64 l.speed, .int .i64 l.other] 27
  rw [World.size_alloc] at hL
  have HR := Lib.hid (fun V (hV : Below w.heap.size w V) => h0.mono (ext_of_below hV))
  clear h0
  go_enter Tryd.func31, Tryd.ntmps31
  go_wp2_with fail
  generalize (w.alloc (.cells #[.slice a b.rings.length cap, .int .i64 b.flaw, .int .i64 b.tough] 24)).alloc _ = W2 at *
  refine (rloaded_any _ b l _ (HR.out _ hA)).mono ?_
  rintro e w3 ⟨rfl, hb3⟩
  have hA3 := hA.trans (hb3.mono hA.size)
  have hB3 := hB.below hb3 hB.lt
  have hL3 := hL.below hb3 hL.lt
  clear hA hB hL hb3
  by_cases hc : bothS b l = 0
  case neg =>
    have hne : (bothS b l != 0) = true := by simpa using hc
    have HF := Lib.hid (show needsS b l = [] by rw [needsS, if_neg hc])
    clear hB3 hL3 hc
    go_wp2
    go_ret2
    exact ⟨_, rfl, by rw [HF.out]; exact rints_nil _, hA3⟩
  have HC := Lib.hid hc
  have HF := Lib.hid (show needsS b l = needS b l by rw [needsS, if_pos hc])
  rw [hc]
  clear hc
  have c0 := hB3.cell 0 _ rfl
  have c1 := hB3.cell 1 _ rfl
  have c2 := hB3.cell 2 _ rfl
  have l0 := hL3.cell 0 _ rfl
  have l1 := hL3.cell 1 _ rfl
  have l2 := hL3.cell 2 _ rfl
  have l3 := hL3.cell 3 _ rfl
  go_wp2_with fail
  refine (rneeded_any _ b l _ (HR.out _ hA3) (both_ok HC.out).1 (both_ok HC.out).2).mono ?_
  rintro e w4 ⟨v, rfl, hv, hb4⟩
  have HV := Lib.hid (hv.mono (ext_vis_of (S := (w3.heap.size ≤ ·)) (T := (w.heap.size ≤ ·)) (Ext.refl w4) (fun k _ h => Nat.le_trans hA3.size h)))
  have HA := Lib.hid (hA3.trans (hb4.mono hA3.size))
  clear hA3 hB3 hL3 hb4 hv c0 c1 c2 l0 l1 l2 l3
  go_wp2
  go_ret2
  exact ⟨v, by rw [HC.out]; rfl, by rw [HF.out]; exact HV.out, HA.out⟩

end Go.Proofs.YtokgnbagegcnpaaDoor
