/- The law FormingAll; no statement is proved here. -/
import Derived.Test.YtnldenjdbgfgmaaFmAi
import Derived.Test.YtnldenjdbgfgmaaFmEl
namespace Go.Proofs.Ytnldenjdbgfgmaa
open Go.RowKit Go.PlainAid
set_option linter.unusedVariables false
set_option linter.unusedSimpArgs false
attribute [local go_sem] beq_self_eq_true bne_self_eq_false

theorem end_num {r : Rt} (h : EndOk r) : Num4 r.n ∧ Den4 r.d := by
  have h1 := h.d; have h2 := h.n
  unfold Num4 Den4; omega
theorem all_ord {c h : Int} {l : List Sp} {s : Sp} {L : List St} (hL : StrI c h l s L) {k : Nat} (hk : k < L.length) : ¬ (L[k]'hk).b.n * (L[k]'hk).a.d < (L[k]'hk).a.n * (L[k]'hk).b.d ∧ ¬ (L[k]'hk).a.n * 1 < 0 * (L[k]'hk).a.d ∧ ¬ c * (L[k]'hk).b.d < (L[k]'hk).b.n * 1 := by
  obtain ⟨i, hb⟩ := hL.iv _ (List.getElem_mem hk)
  generalize L[k] = x at *
  have h1 := (rv_le i.a.d.1 i.b.d.1).1 i.o
  have h2 := (rv_le (r := ⟨0, 1⟩) (s := x.a) (by decide) i.a.d.1).1 (by rw [rv_int]; exact i.z)
  have h3 := (rv_le (r := x.b) (s := ⟨c, 1⟩) i.b.d.1 (show 1 ≤ (1 : Int) by decide)).1 (by rw [rv_int]; exact hb)
  simp only at h2 h3
  omega
theorem all_next {c h : Int} {l : List Sp} {s : Sp} {L : List St} (hL : StrI c h l s L) {k : Nat} (hk : k < L.length) (h0 : k ≠ 0) : (L[k - 1]'(by omega)).b.n * (L[k]'hk).a.d < (L[k]'hk).a.n * (L[k - 1]'(by omega)).b.d := by
  obtain ⟨i, -⟩ := hL.iv _ (List.getElem_mem hk)
  obtain ⟨j, -⟩ := hL.iv _ (List.getElem_mem (show k - 1 < L.length by omega))
  have := List.pairwise_iff_getElem.1 hL.pw (k - 1) k (by omega) hk (by omega)
  exact (rv_lt j.b.d.1 i.a.d.1).1 this
def FinP (c : Int) (L : List St) (qn qd : Int) (B : Bool) : Prop := B = true ↔ InB c L qn qd
theorem bool_of (A B : Prop) [Decidable A] [Decidable B] : ((!decide A && !decide B) = true) ↔ (¬ A ∧ ¬ B) := by
  by_cases a : A <;> by_cases b : B <;> simp [a, b]
theorem all_fin {c h : Int} {l : List Sp} {s : Sp} {L : List St} (H : chkM c h l = 0) (hL : StrI c h l s L) {qn qd : Int} (hd : 1 ≤ qd ∧ qd ≤ 50) (hn : 0 ≤ qn ∧ qn < c * qd) {P : Rt} (hP : WhP c h l qd qn P) (hPd : 1 ≤ P.d) :
    (¬ P.n * 1 < s.lo * P.d ∧ ¬ s.hi * P.d < P.n * 1) ↔ InB c L qn qd := by
  have hc := (chkM_zero H).1
  have hq := dpos hd.1
  have p1 := hP.pos H hd.1 hn.1
  have e1 : (¬ P.n * 1 < s.lo * P.d ∧ ¬ s.hi * P.d < P.n * 1) ↔ InSp s (rv P) := by
    unfold InSp
    rw [← rv_int s.lo, ← rv_int s.hi, rv_le (r := ⟨s.lo, 1⟩) (show 1 ≤ (1 : Int) by decide) hPd, rv_le (s := ⟨s.hi, 1⟩) hPd (show 1 ≤ (1 : Int) by decide)]
    simp only
    omega
  have ht : (0 : Rat) ≤ (qn : Rat) / (qd : Rat) ∧ (qn : Rat) / (qd : Rat) < (c : Rat) := by
    have a1 := (rv_le (r := ⟨0, 1⟩) (s := ⟨qn, qd⟩) (by decide) hd.1).2 (by simp only; omega)
    have a2 := (rv_lt (r := ⟨qn, qd⟩) (s := ⟨c, 1⟩) hd.1 (show 1 ≤ (1 : Int) by decide)).2 (by simp only; omega)
    rw [rv_int] at a1 a2
    rw [rv_div] at a1 a2
    exact ⟨a1, a2⟩
  rw [e1, all_in H hL ht p1]
  unfold InB
  constructor
  · rintro ⟨x, hx, k, hk, h1, h2⟩
    exact ⟨x, hx, k, hk, (hit_iff (hL.iv x hx).1 hd.1).2 ⟨h1, h2⟩⟩
  · rintro ⟨x, hx, k, hk, h1⟩
    obtain ⟨a, b⟩ := (hit_iff (hL.iv x hx).1 hd.1).1 h1
    exact ⟨x, hx, k, hk, a, b⟩

set_option maxHeartbeats 16000000 in
set_option maxRecDepth 100000 in
theorem fAllLaw_any (c h : Int) (va : Value) (l : List Sp) (s : Sp) (num den : Int) (w : World) (hic : I64 c) (hih : I64 h) (hr : RSps w va l) (hs : I64 s.lo ∧ I64 s.hi) (hin : I64 num) (hid : I64 den) :
    Calls Try.prog 5 #[.int .i64 c, .int .i64 h, va, .agg #[.int .i64 s.lo, .int .i64 s.hi], .int .i64 num, .int .i64 den] w (TrueF w) := by
  obtain ⟨aa, ca, rfl, -, ⟨hca, hma⟩, -⟩ := id hr
  have hA := Below.refl w.heap.size w
  have hS := Blk.new w #[.int .i64 s.lo, .int .i64 s.hi] 26
  have hb := below_box w (.cells #[.int .i64 s.lo, .int .i64 s.hi] 26)
  have hr := hr.mono (ext_of_below hb)
  have hA := hA.trans (hb.mono hA.size)
  clear hb
  by_cases n1 : 100 < l.length
  · clear hr hS
    have i1 : (100 : Int) < (l.length : Int) := by omega
    go_enter Try.func5, Try.ntmps5
    go_upto_region 1 with fail
    generalize (w.alloc (.cells #[.int .i64 s.lo, .int .i64 s.hi] 26)) = w1 at *
    go_wp2_with fail
    refine (turns_any _).mono ?_
    rintro e wz ⟨rfl, hb⟩
    have hA := hA.trans (hb.mono hA.size)
    go_wp2
    go_ret
    exact ⟨rfl, hA⟩
  have i1 : ¬ (100 : Int) < (l.length : Int) := by omega
  have s0 := hS.cell 0 _ rfl
  have s1 := hS.cell 1 _ rfl
  have lS := hS.lt
  go_enter Try.func5, Try.ntmps5
  go_upto_region 1 with fail
  generalize (w.alloc (.cells #[.int .i64 s.lo, .int .i64 s.hi] 26)) = w1 at *
  go_wp2_with fail
  have HS := Lib.hid (stretches_any c h aa ca l s _ hr hs)
  refine HS.out.mono ?_
  rintro e w2 ⟨hW, hb⟩
  clear HS s0 s1
  have hr := hr.mono (ext_of_below hb)
  have hS := hS.below hb hS.lt
  have hA := hA.trans (hb.mono hA.size)
  clear hb
  rcases hW with ⟨h1, rfl⟩ | ⟨-, -, rfl⟩ | ⟨H, hSO, vs, rfl, hvs⟩
  · clear hr hS
    obtain ⟨E, hE⟩ : ∃ E, chkM c h l = E := ⟨_, rfl⟩
    rw [hE] at h1 ⊢
    clear hE
    go_wp2_with fail
    refine (turns_any _).mono ?_
    rintro e wz ⟨rfl, hb⟩
    have hA := hA.trans (hb.mono hA.size)
    go_wp2
    go_ret
    exact ⟨rfl, hA⟩
  · clear hr hS
    go_wp2_with fail
    refine (turns_any _).mono ?_
    rintro e wz ⟨rfl, hb⟩
    have hA := hA.trans (hb.mono hA.size)
    go_wp2
    go_ret
    exact ⟨rfl, hA⟩
  have HH := Lib.hid H
  have hc := (chkM_zero H).1
  have hL := str_ok (s := s) H
  clear H
  have hvs := sts_vis hvs
  obtain ⟨al, cl, rfl, -, ⟨-, hml⟩, -⟩ := id hvs
  have HLI := Lib.hid hL
  clear hL
  generalize strE c h l s = LL at *
  have HV := Lib.hid (fun V (hV : Below w2.heap.size w2 V) => hvs.mono (ext_of_below hV))
  go_wp2_with fail
  go_loopw [15] (fun i wr => ∃ k : Nat, k ≤ LL.length ∧ i = .int .i64 k ∧ Below w2.heap.size w2 wr) (fun i _ => LL.length - (intOf i).toNat)
  case atStart => exact ⟨0, Nat.zero_le _, rfl, Below.refl _ _⟩
  case round =>
    obtain ⟨k, hk, rfl, hB⟩ := hrel
    by_cases hlt : k < LL.length
    · skip
      obtain ⟨a', c', he, -, -, h4⟩ := HV.out _ hB
      simp only [Value.slice.injEq, true_and] at he
      obtain ⟨rfl, rfl⟩ := he
      have i2 : (0 : Int) ≤ (k : Int) := Int.natCast_nonneg _
      have i3 : (k : Int) < (LL.length : Int) := by omega
      have zk := wrap_id ((k : Int) + 1) (by unfold I64; omega)
      have c4 : Num4 c ∧ Den4 1 ∧ Num4 0 := by unfold Num4 Den4; omega
      by_cases hz : k = 0
      · skip
        have nk : ¬ (0 : Int) < (k : Int) := by omega
        have nk2 : decide (0 < k) = false := decide_eq_false (by omega)
        have nk3 : decide ((0 : Int) < (k : Int)) = false := decide_eq_false nk
        clear hz nk
        obtain ⟨o1, o2, o3⟩ := all_ord HLI.out hlt
        have hiv := (HLI.out.iv _ (List.getElem_mem hlt)).1
        have ea := end_num hiv.a
        have eb := end_num hiv.b
        obtain ⟨b1, ox, rfl, ⟨q0, q1, q2, q3⟩, -, -⟩ := h4 k hlt
        clear h4
        have e1 := cell_lt q0
        simp only at e1
        generalize LL[k] = x at *
        have D0 : Below wr.heap.size wr wr.drew := (Below.refl _ _).drew
        have HSV : Hid (∀ V, Below wr.heap.size wr V → (fun w' : World => w'.cell? ⟨b1, ox + k * 4, none⟩ = some (.int .i64 x.a.n) ∧ w'.cell? ⟨b1, ox + k * 4 + 1, none⟩ = some (.int .i64 x.a.d) ∧ w'.cell? ⟨b1, ox + k * 4 + 2, none⟩ = some (.int .i64 x.b.n) ∧ w'.cell? ⟨b1, ox + k * 4 + 3, none⟩ = some (.int .i64 x.b.d)) V) := Lib.hid (fun V hV => ⟨ext_of_below hV _ _ q0, ext_of_below hV _ _ q1, ext_of_below hV _ _ q2, ext_of_below hV _ _ q3⟩)
        clear q0 q1 q2 q3
        have HL1 := fun V => rl_any x.b.n x.b.d x.a.n x.a.d V eb.1 eb.2 ea.1 ea.2
        rw [decide_eq_false o1] at HL1
        have HL2 := fun V => rl_any x.a.n x.a.d 0 1 V ea.1 ea.2 c4.2.2 c4.2.1
        rw [decide_eq_false o2] at HL2
        have HL3 := fun V => rl_any c 1 x.b.n x.b.d V c4.1 c4.2.1 eb.1 eb.2
        rw [decide_eq_false o3] at HL3
        clear o1 o2 o3 ea eb hiv
        go_wp2_with fail
        refine wp_region_till (fun w' : World => w'.cell? ⟨b1, ox + k * 4, none⟩ = some (.int .i64 x.a.n) ∧ w'.cell? ⟨b1, ox + k * 4 + 1, none⟩ = some (.int .i64 x.a.d) ∧ w'.cell? ⟨b1, ox + k * 4 + 2, none⟩ = some (.int .i64 x.b.n) ∧ w'.cell? ⟨b1, ox + k * 4 + 3, none⟩ = some (.int .i64 x.b.d)) 49 (by kernel_rfl) (HSV.out _ D0) (fun hHeld => ?_)
        generalize wr.drew = wd at *
        refine Till.take 0 (some 45) (v := ?_) rfl rfl (by kernel_rfl) (by kernel_rfl) (by kernel_rfl) (by kernel_rfl) (fun _ _ _ h => h) (Or.inl ⟨by rfl, ?_⟩) (by assumption) ?_
        rotate_left
        · (intro w hSw; (try dsimp only at hSw); go_simp; try with_reducible rfl)
        try simp only [Act.put, List.setIfInBounds_toArray, List.set_cons_zero, List.set_cons_succ]
        refine Till.take 1 (some 46) (v := ?_) rfl rfl (by kernel_rfl) (by kernel_rfl) (by kernel_rfl) (by kernel_rfl) (fun _ _ _ h => h) (Or.inl ⟨by rfl, ?_⟩) (by assumption) ?_
        rotate_left
        · (intro w hSw; (try dsimp only at hSw); go_simp; try with_reducible rfl)
        try simp only [Act.put, List.setIfInBounds_toArray, List.set_cons_zero, List.set_cons_succ]
        refine Till.take 2 (some 47) (v := ?_) rfl rfl (by kernel_rfl) (by kernel_rfl) (by kernel_rfl) (by kernel_rfl) (fun _ _ _ h => h) (Or.inl ⟨by rfl, ?_⟩) (by assumption) ?_
        rotate_left
        · (intro w hSw; (try dsimp only at hSw); go_simp; try with_reducible rfl)
        try simp only [Act.put, List.setIfInBounds_toArray, List.set_cons_zero, List.set_cons_succ]
        refine Till.take 3 (some 48) (v := ?_) rfl rfl (by kernel_rfl) (by kernel_rfl) (by kernel_rfl) (by kernel_rfl) (fun _ _ _ h => h) (Or.inl ⟨by rfl, ?_⟩) (by assumption) ?_
        rotate_left
        · (intro w hSw; (try dsimp only at hSw); go_simp; try with_reducible rfl)
        try simp only [Act.put, List.setIfInBounds_toArray, List.set_cons_zero, List.set_cons_succ]
        refine Till.take 4 (some 49) (v := ?_) rfl rfl (by kernel_rfl) (by kernel_rfl) (by kernel_rfl) (by kernel_rfl) (fun _ _ _ h => h) (Or.inl ⟨by rfl, ?_⟩) (by assumption) ?_
        rotate_left
        · (intro w hSw; (try dsimp only at hSw); go_simp; try with_reducible rfl)
        try simp only [Act.put, List.setIfInBounds_toArray, List.set_cons_zero, List.set_cons_succ]
        refine Till.take 5 (some 50) (v := ?_) rfl rfl (by kernel_rfl) (by kernel_rfl) (by kernel_rfl) (by kernel_rfl) (fun _ _ _ h => h) (Or.inl ⟨by rfl, ?_⟩) (by assumption) ?_
        rotate_left
        · (intro w hSw; (try dsimp only at hSw); go_simp; try with_reducible rfl)
        try simp only [Act.put, List.setIfInBounds_toArray, List.set_cons_zero, List.set_cons_succ]
        refine Till.take 6 (some 51) (v := ?_) rfl rfl (by kernel_rfl) (by kernel_rfl) (by kernel_rfl) (by kernel_rfl) (fun _ _ _ h => h) (Or.inl ⟨by rfl, ?_⟩) (by assumption) ?_
        rotate_left
        · (intro w hSw; (try dsimp only at hSw); go_simp; try with_reducible rfl)
        try simp only [Act.put, List.setIfInBounds_toArray, List.set_cons_zero, List.set_cons_succ]
        refine Till.take 7 (some 52) (v := ?_) rfl rfl (by kernel_rfl) (by kernel_rfl) (by kernel_rfl) (by kernel_rfl) (fun _ _ _ h => h) (Or.inl ⟨by rfl, ?_⟩) (by assumption) ?_
        rotate_left
        · (intro w hSw; (try dsimp only at hSw); go_simp; try with_reducible rfl)
        try simp only [Act.put, List.setIfInBounds_toArray, List.set_cons_zero, List.set_cons_succ]
        refine Till.take 8 (some 53) (v := ?_) rfl rfl (by kernel_rfl) (by kernel_rfl) (by kernel_rfl) (by kernel_rfl) (fun _ _ _ h => h) (Or.inl ⟨by rfl, ?_⟩) (by assumption) ?_
        rotate_left
        · (intro w hSw; (try dsimp only at hSw); go_simp; try with_reducible rfl)
        try simp only [Act.put, List.setIfInBounds_toArray, List.set_cons_zero, List.set_cons_succ]
        refine Till.take 9 (some 54) (v := ?_) rfl rfl (by kernel_rfl) (by kernel_rfl) (by kernel_rfl) (by kernel_rfl) (fun _ _ _ h => h) (Or.inl ⟨by rfl, ?_⟩) (by assumption) ?_
        rotate_left
        · (intro w hSw; (try dsimp only at hSw); go_simp; try with_reducible rfl)
        try simp only [Act.put, List.setIfInBounds_toArray, List.set_cons_zero, List.set_cons_succ]
        refine Till.one 10 rfl (by kernel_rfl) (fun K hK => ?_)
        go_simp
        go_at_call 16
        refine (HL1 _).mono ?_
        rintro e v1 ⟨rfl, hb1⟩
        have D1 := D0.trans (hb1.mono D0.size)
        have hh1 := HSV.out _ D1
        refine hK.out _ _ (fun _ => hh1) (fun hHeld1 => ?_)
        clear hK K hb1
        try simp only [Act.put, List.setIfInBounds_toArray, List.set_cons_zero, List.set_cons_succ]
        refine Till.take 11 (some 56) (v := ?_) rfl rfl (by kernel_rfl) (by kernel_rfl) (by kernel_rfl) (by kernel_rfl) (fun _ _ _ h => h) (Or.inl ⟨by rfl, ?_⟩) (by assumption) ?_
        rotate_left
        · (intro w hSw; (try dsimp only at hSw); go_simp; try with_reducible rfl)
        try simp only [Act.put, List.setIfInBounds_toArray, List.set_cons_zero, List.set_cons_succ]
        refine Till.take 12 (some 57) (v := ?_) rfl rfl (by kernel_rfl) (by kernel_rfl) (by kernel_rfl) (by kernel_rfl) (fun _ _ _ h => h) (Or.inl ⟨by rfl, ?_⟩) (by assumption) ?_
        rotate_left
        · (intro w hSw; (try dsimp only at hSw); go_simp; try with_reducible rfl)
        try simp only [Act.put, List.setIfInBounds_toArray, List.set_cons_zero, List.set_cons_succ]
        refine Till.take 13 (some 58) (v := ?_) rfl rfl (by kernel_rfl) (by kernel_rfl) (by kernel_rfl) (by kernel_rfl) (fun _ _ _ h => h) (Or.inl ⟨by rfl, ?_⟩) (by assumption) ?_
        rotate_left
        · (intro w hSw; (try dsimp only at hSw); go_simp; try with_reducible rfl)
        try simp only [Act.put, List.setIfInBounds_toArray, List.set_cons_zero, List.set_cons_succ]
        refine Till.take 14 (some 59) (v := ?_) rfl rfl (by kernel_rfl) (by kernel_rfl) (by kernel_rfl) (by kernel_rfl) (fun _ _ _ h => h) (Or.inl ⟨by rfl, ?_⟩) (by assumption) ?_
        rotate_left
        · (intro w hSw; (try dsimp only at hSw); go_simp; try with_reducible rfl)
        try simp only [Act.put, List.setIfInBounds_toArray, List.set_cons_zero, List.set_cons_succ]
        refine Till.take 15 (some 60) (v := ?_) rfl rfl (by kernel_rfl) (by kernel_rfl) (by kernel_rfl) (by kernel_rfl) (fun _ _ _ h => h) (Or.inl ⟨by rfl, ?_⟩) (by assumption) ?_
        rotate_left
        · (intro w hSw; (try dsimp only at hSw); go_simp; try with_reducible rfl)
        try simp only [Act.put, List.setIfInBounds_toArray, List.set_cons_zero, List.set_cons_succ]
        refine Till.take 16 (some 61) (v := ?_) rfl rfl (by kernel_rfl) (by kernel_rfl) (by kernel_rfl) (by kernel_rfl) (fun _ _ _ h => h) (Or.inl ⟨by rfl, ?_⟩) (by assumption) ?_
        rotate_left
        · (intro w hSw; (try dsimp only at hSw); go_simp; try with_reducible rfl)
        try simp only [Act.put, List.setIfInBounds_toArray, List.set_cons_zero, List.set_cons_succ]
        refine Till.one 17 rfl (by kernel_rfl) (fun K hK => ?_)
        go_simp
        go_at_call 17
        refine (lwhole_any 0 _).mono ?_
        rintro e v2 ⟨rfl, hb2⟩
        have D2 := D1.trans (hb2.mono D1.size)
        have hh2 := HSV.out _ D2
        refine hK.out _ _ (fun _ => hh2) (fun hHeld2 => ?_)
        clear hK K hb2
        try simp only [Act.put, List.setIfInBounds_toArray, List.set_cons_zero, List.set_cons_succ]
        refine Till.one 18 rfl (by kernel_rfl) (fun K hK => ?_)
        go_simp
        go_at_call 16
        refine (HL2 _).mono ?_
        rintro e v3 ⟨rfl, hb3⟩
        have D3 := D2.trans (hb3.mono D2.size)
        have hh3 := HSV.out _ D3
        refine hK.out _ _ (fun _ => hh3) (fun hHeld3 => ?_)
        clear hK K hb3
        try simp only [Act.put, List.setIfInBounds_toArray, List.set_cons_zero, List.set_cons_succ]
        refine Till.take 19 (some 64) (v := ?_) rfl rfl (by kernel_rfl) (by kernel_rfl) (by kernel_rfl) (by kernel_rfl) (fun _ _ _ h => h) (Or.inl ⟨by rfl, ?_⟩) (by assumption) ?_
        rotate_left
        · (intro w hSw; (try dsimp only at hSw); go_simp; try with_reducible rfl)
        try simp only [Act.put, List.setIfInBounds_toArray, List.set_cons_zero, List.set_cons_succ]
        refine Till.take 20 (some 65) (v := ?_) rfl rfl (by kernel_rfl) (by kernel_rfl) (by kernel_rfl) (by kernel_rfl) (fun _ _ _ h => h) (Or.inl ⟨by rfl, ?_⟩) (by assumption) ?_
        rotate_left
        · (intro w hSw; (try dsimp only at hSw); go_simp; try with_reducible rfl)
        try simp only [Act.put, List.setIfInBounds_toArray, List.set_cons_zero, List.set_cons_succ]
        refine Till.take 21 (some 66) (v := ?_) rfl rfl (by kernel_rfl) (by kernel_rfl) (by kernel_rfl) (by kernel_rfl) (fun _ _ _ h => h) (Or.inl ⟨by rfl, ?_⟩) (by assumption) ?_
        rotate_left
        · (intro w hSw; (try dsimp only at hSw); go_simp; try with_reducible rfl)
        try simp only [Act.put, List.setIfInBounds_toArray, List.set_cons_zero, List.set_cons_succ]
        refine Till.take 23 (some 68) (v := ?_) rfl rfl (by kernel_rfl) (by kernel_rfl) (by kernel_rfl) (by kernel_rfl) (fun _ _ _ h => h) (Or.inl ⟨by rfl, ?_⟩) (by assumption) ?_
        rotate_left
        · (intro w hSw; (try dsimp only at hSw); go_simp; try with_reducible rfl)
        try simp only [Act.put, List.setIfInBounds_toArray, List.set_cons_zero, List.set_cons_succ]
        refine Till.take 24 (some 69) (v := ?_) rfl rfl (by kernel_rfl) (by kernel_rfl) (by kernel_rfl) (by kernel_rfl) (fun _ _ _ h => h) (Or.inl ⟨by rfl, ?_⟩) (by assumption) ?_
        rotate_left
        · (intro w hSw; (try dsimp only at hSw); go_simp; try with_reducible rfl)
        try simp only [Act.put, List.setIfInBounds_toArray, List.set_cons_zero, List.set_cons_succ]
        refine Till.take 25 (some 70) (v := ?_) rfl rfl (by kernel_rfl) (by kernel_rfl) (by kernel_rfl) (by kernel_rfl) (fun _ _ _ h => h) (Or.inl ⟨by rfl, ?_⟩) (by assumption) ?_
        rotate_left
        · (intro w hSw; (try dsimp only at hSw); go_simp; try with_reducible rfl)
        try simp only [Act.put, List.setIfInBounds_toArray, List.set_cons_zero, List.set_cons_succ]
        refine Till.take 26 (some 71) (v := ?_) rfl rfl (by kernel_rfl) (by kernel_rfl) (by kernel_rfl) (by kernel_rfl) (fun _ _ _ h => h) (Or.inl ⟨by rfl, ?_⟩) (by assumption) ?_
        rotate_left
        · (intro w hSw; (try dsimp only at hSw); go_simp; try with_reducible rfl)
        try simp only [Act.put, List.setIfInBounds_toArray, List.set_cons_zero, List.set_cons_succ]
        refine Till.take 27 (some 72) (v := ?_) rfl rfl (by kernel_rfl) (by kernel_rfl) (by kernel_rfl) (by kernel_rfl) (fun _ _ _ h => h) (Or.inl ⟨by rfl, ?_⟩) (by assumption) ?_
        rotate_left
        · (intro w hSw; (try dsimp only at hSw); go_simp; try with_reducible rfl)
        try simp only [Act.put, List.setIfInBounds_toArray, List.set_cons_zero, List.set_cons_succ]
        refine Till.one 22 rfl (by kernel_rfl) (fun K hK => ?_)
        go_simp
        go_at_call 17
        refine (lwhole_any c _).mono ?_
        rintro e v4 ⟨rfl, hb4⟩
        have D4 := D3.trans (hb4.mono D3.size)
        have hh4 := HSV.out _ D4
        refine hK.out _ _ (fun _ => hh4) (fun hHeld4 => ?_)
        clear hK K hb4
        try simp only [Act.put, List.setIfInBounds_toArray, List.set_cons_zero, List.set_cons_succ]
        refine Till.one 28 rfl (by kernel_rfl) (fun K hK => ?_)
        go_simp
        go_at_call 16
        refine (HL3 _).mono ?_
        rintro e v5 ⟨rfl, hb5⟩
        have D5 := D4.trans (hb5.mono D4.size)
        have hh5 := HSV.out _ D5
        refine hK.out _ _ (fun _ => hh5) (fun hHeld5 => ?_)
        clear hK K hb5
        try simp only [Act.put, List.setIfInBounds_toArray, List.set_cons_zero, List.set_cons_succ]
        refine Till.take 29 (some 74) (v := ?_) rfl rfl (by kernel_rfl) (by kernel_rfl) (by kernel_rfl) (by kernel_rfl) (fun _ _ _ h => h) (Or.inl ⟨by rfl, ?_⟩) (by assumption) ?_
        rotate_left
        · (intro w hSw; (try dsimp only at hSw); go_simp; try with_reducible rfl)
        try simp only [Act.put, List.setIfInBounds_toArray, List.set_cons_zero, List.set_cons_succ]
        refine Till.take 30 (some 75) (v := ?_) rfl rfl (by kernel_rfl) (by kernel_rfl) (by kernel_rfl) (by kernel_rfl) (fun _ _ _ h => h) (Or.inl ⟨by rfl, ?_⟩) (by assumption) ?_
        rotate_left
        · (intro w hSw; (try dsimp only at hSw); go_simp; try with_reducible rfl)
        try simp only [Act.put, List.setIfInBounds_toArray, List.set_cons_zero, List.set_cons_succ]
        refine Till.take 31 (some 76) (v := ?_) rfl rfl (by kernel_rfl) (by kernel_rfl) (by kernel_rfl) (by kernel_rfl) (fun _ _ _ h => h) (Or.inl ⟨by rfl, ?_⟩) (by assumption) ?_
        rotate_left
        · (intro w hSw; (try dsimp only at hSw); go_simp; try with_reducible rfl)
        try simp only [Act.put, List.setIfInBounds_toArray, List.set_cons_zero, List.set_cons_succ]
        refine Till.take 32 (some 77) (v := ?_) rfl rfl (by kernel_rfl) (by kernel_rfl) (by kernel_rfl) (by kernel_rfl) (fun _ _ _ h => h) (Or.inl ⟨by rfl, ?_⟩) (by assumption) ?_
        rotate_left
        · (intro w hSw; (try dsimp only at hSw); go_simp; try with_reducible rfl)
        try simp only [Act.put, List.setIfInBounds_toArray, List.set_cons_zero, List.set_cons_succ]
        refine Till.take 33 (some 78) (v := ?_) rfl rfl (by kernel_rfl) (by kernel_rfl) (by kernel_rfl) (by kernel_rfl) (fun _ _ _ h => h) (Or.inl ⟨by rfl, ?_⟩) (by assumption) ?_
        rotate_left
        · (intro w hSw; (try dsimp only at hSw); go_simp; try with_reducible rfl)
        try simp only [Act.put, List.setIfInBounds_toArray, List.set_cons_zero, List.set_cons_succ]
        refine Till.take 34 (some 79) (v := undef) rfl rfl (by kernel_rfl) (by kernel_rfl) (by kernel_rfl) (by kernel_rfl) (fun _ _ _ h => h) (Or.inr ⟨by rfl, rfl⟩) (by assumption) ?_
        try simp only [Act.put, List.setIfInBounds_toArray, List.set_cons_zero, List.set_cons_succ]
        refine Till.take 35 (some 80) (v := undef) rfl rfl (by kernel_rfl) (by kernel_rfl) (by kernel_rfl) (by kernel_rfl) (fun _ _ _ h => h) (Or.inr ⟨by rfl, rfl⟩) (by assumption) ?_
        try simp only [Act.put, List.setIfInBounds_toArray, List.set_cons_zero, List.set_cons_succ]
        refine Till.take 36 (some 81) (v := undef) rfl rfl (by kernel_rfl) (by kernel_rfl) (by kernel_rfl) (by kernel_rfl) (fun _ _ _ h => h) (Or.inr ⟨by rfl, rfl⟩) (by assumption) ?_
        try simp only [Act.put, List.setIfInBounds_toArray, List.set_cons_zero, List.set_cons_succ]
        refine Till.take 37 (some 82) (v := undef) rfl rfl (by kernel_rfl) (by kernel_rfl) (by kernel_rfl) (by kernel_rfl) (fun _ _ _ h => h) (Or.inr ⟨by rfl, rfl⟩) (by assumption) ?_
        try simp only [Act.put, List.setIfInBounds_toArray, List.set_cons_zero, List.set_cons_succ]
        refine Till.take 38 (some 83) (v := undef) rfl rfl (by kernel_rfl) (by kernel_rfl) (by kernel_rfl) (by kernel_rfl) (fun _ _ _ h => h) (Or.inr ⟨by rfl, rfl⟩) (by assumption) ?_
        try simp only [Act.put, List.setIfInBounds_toArray, List.set_cons_zero, List.set_cons_succ]
        refine Till.take 39 (some 84) (v := undef) rfl rfl (by kernel_rfl) (by kernel_rfl) (by kernel_rfl) (by kernel_rfl) (fun _ _ _ h => h) (Or.inr ⟨by rfl, rfl⟩) (by assumption) ?_
        try simp only [Act.put, List.setIfInBounds_toArray, List.set_cons_zero, List.set_cons_succ]
        refine Till.take 40 (some 85) (v := undef) rfl rfl (by kernel_rfl) (by kernel_rfl) (by kernel_rfl) (by kernel_rfl) (fun _ _ _ h => h) (Or.inr ⟨by rfl, rfl⟩) (by assumption) ?_
        try simp only [Act.put, List.setIfInBounds_toArray, List.set_cons_zero, List.set_cons_succ]
        refine Till.take 41 (some 86) (v := undef) rfl rfl (by kernel_rfl) (by kernel_rfl) (by kernel_rfl) (by kernel_rfl) (fun _ _ _ h => h) (Or.inr ⟨by rfl, rfl⟩) (by assumption) ?_
        try simp only [Act.put, List.setIfInBounds_toArray, List.set_cons_zero, List.set_cons_succ]
        refine Till.take 42 (some 87) (v := undef) rfl rfl (by kernel_rfl) (by kernel_rfl) (by kernel_rfl) (by kernel_rfl) (fun _ _ _ h => h) (Or.inr ⟨by rfl, rfl⟩) (by assumption) ?_
        try simp only [Act.put, List.setIfInBounds_toArray, List.set_cons_zero, List.set_cons_succ]
        refine Till.take 43 (some 88) (v := undef) rfl rfl (by kernel_rfl) (by kernel_rfl) (by kernel_rfl) (by kernel_rfl) (fun _ _ _ h => h) (Or.inr ⟨by rfl, rfl⟩) (by assumption) ?_
        try simp only [Act.put, List.setIfInBounds_toArray, List.set_cons_zero, List.set_cons_succ]
        refine Till.take 44 (some 89) (v := undef) rfl rfl (by kernel_rfl) (by kernel_rfl) (by kernel_rfl) (by kernel_rfl) (fun _ _ _ h => h) (Or.inr ⟨by rfl, rfl⟩) (by assumption) ?_
        try simp only [Act.put, List.setIfInBounds_toArray, List.set_cons_zero, List.set_cons_succ]
        refine Till.take 45 (some 90) (v := undef) rfl rfl (by kernel_rfl) (by kernel_rfl) (by kernel_rfl) (by kernel_rfl) (fun _ _ _ h => h) (Or.inr ⟨by rfl, rfl⟩) (by assumption) ?_
        try simp only [Act.put, List.setIfInBounds_toArray, List.set_cons_zero, List.set_cons_succ]
        refine Till.take 46 (some 91) (v := undef) rfl rfl (by kernel_rfl) (by kernel_rfl) (by kernel_rfl) (by kernel_rfl) (fun _ _ _ h => h) (Or.inr ⟨by rfl, rfl⟩) (by assumption) ?_
        try simp only [Act.put, List.setIfInBounds_toArray, List.set_cons_zero, List.set_cons_succ]
        refine Till.take 47 (some 92) (v := ?_) rfl rfl (by kernel_rfl) (by kernel_rfl) (by kernel_rfl) (by kernel_rfl) (fun _ _ _ h => h) (Or.inl ⟨by rfl, ?_⟩) (by assumption) ?_
        rotate_left
        · (intro w hSw; (try dsimp only at hSw); go_simp; try with_reducible rfl)
        try simp only [Act.put, List.setIfInBounds_toArray, List.set_cons_zero, List.set_cons_succ]
        refine Till.take 48 (some 93) (v := ?_) rfl rfl (by kernel_rfl) (by kernel_rfl) (by kernel_rfl) (by kernel_rfl) (fun _ _ _ h => h) (Or.inl ⟨by rfl, ?_⟩) (by assumption) ?_
        rotate_left
        · (intro w hSw; (try dsimp only at hSw); go_simp; try with_reducible rfl)
        try simp only [Act.put, List.setIfInBounds_toArray, List.set_cons_zero, List.set_cons_succ]
        have HE := Lib.hid (hB.trans (D5.mono hB.size))
        refine Till.done (by kernel_rfl) ?_ _
        go_wp2
        go_roundw
        case rel => exact ⟨k + 1, by omega, by go_num, HE.out⟩
        case measure => simp [intOf]; omega
      · skip
        have hk1 : k - 1 < LL.length := by omega
        have nk2 : decide (0 < k) = true := decide_eq_true (by omega)
        have nk3 : decide ((0 : Int) < (k : Int)) = true := decide_eq_true (by omega)
        have yk := IntWalk.i64_in ((k : Int) - 1) (by omega)
        have yk2 : (k : Int) - 1 = ((k - 1 : Nat) : Int) := by omega
        rw [yk2] at yk
        have j1 : (0 : Int) ≤ ((k - 1 : Nat) : Int) := Int.natCast_nonneg _
        have j2 : ((k - 1 : Nat) : Int) < (LL.length : Int) := by omega
        have hnx := all_next HLI.out hlt hz
        clear hz
        obtain ⟨o1, o2, o3⟩ := all_ord HLI.out hlt
        have hiv := (HLI.out.iv _ (List.getElem_mem hlt)).1
        have ea := end_num hiv.a
        have eb := end_num hiv.b
        have ey := end_num (HLI.out.iv _ (List.getElem_mem hk1)).1.b
        obtain ⟨b1, ox, he1, ⟨q0, q1, q2, q3⟩, -, -⟩ := h4 k hlt
        obtain ⟨b1', ox', he2, ⟨r0, r1, r2, r3⟩, -, -⟩ := h4 (k - 1) hk1
        clear h4
        subst he1
        simp only [Option.some.injEq, Addr.mk.injEq, and_true] at he2
        obtain ⟨rfl, rfl⟩ := he2
        have e1 := cell_lt q0
        simp only at e1
        generalize LL[k - 1] = y at *
        generalize LL[k] = x at *
        have D0 : Below wr.heap.size wr wr.drew := (Below.refl _ _).drew
        have HSV : Hid (∀ V, Below wr.heap.size wr V → (fun w' : World => w'.cell? ⟨b1, ox + k * 4, none⟩ = some (.int .i64 x.a.n) ∧ w'.cell? ⟨b1, ox + k * 4 + 1, none⟩ = some (.int .i64 x.a.d) ∧ w'.cell? ⟨b1, ox + k * 4 + 2, none⟩ = some (.int .i64 x.b.n) ∧ w'.cell? ⟨b1, ox + k * 4 + 3, none⟩ = some (.int .i64 x.b.d) ∧ w'.cell? ⟨b1, ox + (k - 1) * 4, none⟩ = some (.int .i64 y.a.n) ∧ w'.cell? ⟨b1, ox + (k - 1) * 4 + 1, none⟩ = some (.int .i64 y.a.d) ∧ w'.cell? ⟨b1, ox + (k - 1) * 4 + 2, none⟩ = some (.int .i64 y.b.n) ∧ w'.cell? ⟨b1, ox + (k - 1) * 4 + 3, none⟩ = some (.int .i64 y.b.d)) V) := Lib.hid (fun V hV => ⟨ext_of_below hV _ _ q0, ext_of_below hV _ _ q1, ext_of_below hV _ _ q2, ext_of_below hV _ _ q3, ext_of_below hV _ _ r0, ext_of_below hV _ _ r1, ext_of_below hV _ _ r2, ext_of_below hV _ _ r3⟩)
        clear q0 q1 q2 q3 r0 r1 r2 r3
        have HL1 := fun V => rl_any x.b.n x.b.d x.a.n x.a.d V eb.1 eb.2 ea.1 ea.2
        rw [decide_eq_false o1] at HL1
        have HL2 := fun V => rl_any x.a.n x.a.d 0 1 V ea.1 ea.2 c4.2.2 c4.2.1
        rw [decide_eq_false o2] at HL2
        have HL3 := fun V => rl_any c 1 x.b.n x.b.d V c4.1 c4.2.1 eb.1 eb.2
        rw [decide_eq_false o3] at HL3
        have HL4 := fun V => rl_any y.b.n y.b.d x.a.n x.a.d V ey.1 ey.2 ea.1 ea.2
        rw [decide_eq_true hnx] at HL4
        clear hnx ey
        clear o1 o2 o3 ea eb hiv
        go_wp2_with fail
        refine wp_region_till (fun w' : World => w'.cell? ⟨b1, ox + k * 4, none⟩ = some (.int .i64 x.a.n) ∧ w'.cell? ⟨b1, ox + k * 4 + 1, none⟩ = some (.int .i64 x.a.d) ∧ w'.cell? ⟨b1, ox + k * 4 + 2, none⟩ = some (.int .i64 x.b.n) ∧ w'.cell? ⟨b1, ox + k * 4 + 3, none⟩ = some (.int .i64 x.b.d) ∧ w'.cell? ⟨b1, ox + (k - 1) * 4, none⟩ = some (.int .i64 y.a.n) ∧ w'.cell? ⟨b1, ox + (k - 1) * 4 + 1, none⟩ = some (.int .i64 y.a.d) ∧ w'.cell? ⟨b1, ox + (k - 1) * 4 + 2, none⟩ = some (.int .i64 y.b.n) ∧ w'.cell? ⟨b1, ox + (k - 1) * 4 + 3, none⟩ = some (.int .i64 y.b.d)) 49 (by kernel_rfl) (HSV.out _ D0) (fun hHeld => ?_)
        generalize wr.drew = wd at *
        refine Till.take 0 (some 45) (v := ?_) rfl rfl (by kernel_rfl) (by kernel_rfl) (by kernel_rfl) (by kernel_rfl) (fun _ _ _ h => h) (Or.inl ⟨by rfl, ?_⟩) (by assumption) ?_
        rotate_left
        · (intro w hSw; (try dsimp only at hSw); go_simp; try with_reducible rfl)
        try simp only [Act.put, List.setIfInBounds_toArray, List.set_cons_zero, List.set_cons_succ]
        refine Till.take 1 (some 46) (v := ?_) rfl rfl (by kernel_rfl) (by kernel_rfl) (by kernel_rfl) (by kernel_rfl) (fun _ _ _ h => h) (Or.inl ⟨by rfl, ?_⟩) (by assumption) ?_
        rotate_left
        · (intro w hSw; (try dsimp only at hSw); go_simp; try with_reducible rfl)
        try simp only [Act.put, List.setIfInBounds_toArray, List.set_cons_zero, List.set_cons_succ]
        refine Till.take 2 (some 47) (v := ?_) rfl rfl (by kernel_rfl) (by kernel_rfl) (by kernel_rfl) (by kernel_rfl) (fun _ _ _ h => h) (Or.inl ⟨by rfl, ?_⟩) (by assumption) ?_
        rotate_left
        · (intro w hSw; (try dsimp only at hSw); go_simp; try with_reducible rfl)
        try simp only [Act.put, List.setIfInBounds_toArray, List.set_cons_zero, List.set_cons_succ]
        refine Till.take 3 (some 48) (v := ?_) rfl rfl (by kernel_rfl) (by kernel_rfl) (by kernel_rfl) (by kernel_rfl) (fun _ _ _ h => h) (Or.inl ⟨by rfl, ?_⟩) (by assumption) ?_
        rotate_left
        · (intro w hSw; (try dsimp only at hSw); go_simp; try with_reducible rfl)
        try simp only [Act.put, List.setIfInBounds_toArray, List.set_cons_zero, List.set_cons_succ]
        refine Till.take 4 (some 49) (v := ?_) rfl rfl (by kernel_rfl) (by kernel_rfl) (by kernel_rfl) (by kernel_rfl) (fun _ _ _ h => h) (Or.inl ⟨by rfl, ?_⟩) (by assumption) ?_
        rotate_left
        · (intro w hSw; (try dsimp only at hSw); go_simp; try with_reducible rfl)
        try simp only [Act.put, List.setIfInBounds_toArray, List.set_cons_zero, List.set_cons_succ]
        refine Till.take 5 (some 50) (v := ?_) rfl rfl (by kernel_rfl) (by kernel_rfl) (by kernel_rfl) (by kernel_rfl) (fun _ _ _ h => h) (Or.inl ⟨by rfl, ?_⟩) (by assumption) ?_
        rotate_left
        · (intro w hSw; (try dsimp only at hSw); go_simp; try with_reducible rfl)
        try simp only [Act.put, List.setIfInBounds_toArray, List.set_cons_zero, List.set_cons_succ]
        refine Till.take 6 (some 51) (v := ?_) rfl rfl (by kernel_rfl) (by kernel_rfl) (by kernel_rfl) (by kernel_rfl) (fun _ _ _ h => h) (Or.inl ⟨by rfl, ?_⟩) (by assumption) ?_
        rotate_left
        · (intro w hSw; (try dsimp only at hSw); go_simp; try with_reducible rfl)
        try simp only [Act.put, List.setIfInBounds_toArray, List.set_cons_zero, List.set_cons_succ]
        refine Till.take 7 (some 52) (v := ?_) rfl rfl (by kernel_rfl) (by kernel_rfl) (by kernel_rfl) (by kernel_rfl) (fun _ _ _ h => h) (Or.inl ⟨by rfl, ?_⟩) (by assumption) ?_
        rotate_left
        · (intro w hSw; (try dsimp only at hSw); go_simp; try with_reducible rfl)
        try simp only [Act.put, List.setIfInBounds_toArray, List.set_cons_zero, List.set_cons_succ]
        refine Till.take 8 (some 53) (v := ?_) rfl rfl (by kernel_rfl) (by kernel_rfl) (by kernel_rfl) (by kernel_rfl) (fun _ _ _ h => h) (Or.inl ⟨by rfl, ?_⟩) (by assumption) ?_
        rotate_left
        · (intro w hSw; (try dsimp only at hSw); go_simp; try with_reducible rfl)
        try simp only [Act.put, List.setIfInBounds_toArray, List.set_cons_zero, List.set_cons_succ]
        refine Till.take 9 (some 54) (v := ?_) rfl rfl (by kernel_rfl) (by kernel_rfl) (by kernel_rfl) (by kernel_rfl) (fun _ _ _ h => h) (Or.inl ⟨by rfl, ?_⟩) (by assumption) ?_
        rotate_left
        · (intro w hSw; (try dsimp only at hSw); go_simp; try with_reducible rfl)
        try simp only [Act.put, List.setIfInBounds_toArray, List.set_cons_zero, List.set_cons_succ]
        refine Till.one 10 rfl (by kernel_rfl) (fun K hK => ?_)
        go_simp
        go_at_call 16
        refine (HL1 _).mono ?_
        rintro e v1 ⟨rfl, hb1⟩
        have D1 := D0.trans (hb1.mono D0.size)
        have hh1 := HSV.out _ D1
        refine hK.out _ _ (fun _ => hh1) (fun hHeld1 => ?_)
        clear hK K hb1
        try simp only [Act.put, List.setIfInBounds_toArray, List.set_cons_zero, List.set_cons_succ]
        refine Till.take 11 (some 56) (v := ?_) rfl rfl (by kernel_rfl) (by kernel_rfl) (by kernel_rfl) (by kernel_rfl) (fun _ _ _ h => h) (Or.inl ⟨by rfl, ?_⟩) (by assumption) ?_
        rotate_left
        · (intro w hSw; (try dsimp only at hSw); go_simp; try with_reducible rfl)
        try simp only [Act.put, List.setIfInBounds_toArray, List.set_cons_zero, List.set_cons_succ]
        refine Till.take 12 (some 57) (v := ?_) rfl rfl (by kernel_rfl) (by kernel_rfl) (by kernel_rfl) (by kernel_rfl) (fun _ _ _ h => h) (Or.inl ⟨by rfl, ?_⟩) (by assumption) ?_
        rotate_left
        · (intro w hSw; (try dsimp only at hSw); go_simp; try with_reducible rfl)
        try simp only [Act.put, List.setIfInBounds_toArray, List.set_cons_zero, List.set_cons_succ]
        refine Till.take 13 (some 58) (v := ?_) rfl rfl (by kernel_rfl) (by kernel_rfl) (by kernel_rfl) (by kernel_rfl) (fun _ _ _ h => h) (Or.inl ⟨by rfl, ?_⟩) (by assumption) ?_
        rotate_left
        · (intro w hSw; (try dsimp only at hSw); go_simp; try with_reducible rfl)
        try simp only [Act.put, List.setIfInBounds_toArray, List.set_cons_zero, List.set_cons_succ]
        refine Till.take 14 (some 59) (v := ?_) rfl rfl (by kernel_rfl) (by kernel_rfl) (by kernel_rfl) (by kernel_rfl) (fun _ _ _ h => h) (Or.inl ⟨by rfl, ?_⟩) (by assumption) ?_
        rotate_left
        · (intro w hSw; (try dsimp only at hSw); go_simp; try with_reducible rfl)
        try simp only [Act.put, List.setIfInBounds_toArray, List.set_cons_zero, List.set_cons_succ]
        refine Till.take 15 (some 60) (v := ?_) rfl rfl (by kernel_rfl) (by kernel_rfl) (by kernel_rfl) (by kernel_rfl) (fun _ _ _ h => h) (Or.inl ⟨by rfl, ?_⟩) (by assumption) ?_
        rotate_left
        · (intro w hSw; (try dsimp only at hSw); go_simp; try with_reducible rfl)
        try simp only [Act.put, List.setIfInBounds_toArray, List.set_cons_zero, List.set_cons_succ]
        refine Till.take 16 (some 61) (v := ?_) rfl rfl (by kernel_rfl) (by kernel_rfl) (by kernel_rfl) (by kernel_rfl) (fun _ _ _ h => h) (Or.inl ⟨by rfl, ?_⟩) (by assumption) ?_
        rotate_left
        · (intro w hSw; (try dsimp only at hSw); go_simp; try with_reducible rfl)
        try simp only [Act.put, List.setIfInBounds_toArray, List.set_cons_zero, List.set_cons_succ]
        refine Till.one 17 rfl (by kernel_rfl) (fun K hK => ?_)
        go_simp
        go_at_call 17
        refine (lwhole_any 0 _).mono ?_
        rintro e v2 ⟨rfl, hb2⟩
        have D2 := D1.trans (hb2.mono D1.size)
        have hh2 := HSV.out _ D2
        refine hK.out _ _ (fun _ => hh2) (fun hHeld2 => ?_)
        clear hK K hb2
        try simp only [Act.put, List.setIfInBounds_toArray, List.set_cons_zero, List.set_cons_succ]
        refine Till.one 18 rfl (by kernel_rfl) (fun K hK => ?_)
        go_simp
        go_at_call 16
        refine (HL2 _).mono ?_
        rintro e v3 ⟨rfl, hb3⟩
        have D3 := D2.trans (hb3.mono D2.size)
        have hh3 := HSV.out _ D3
        refine hK.out _ _ (fun _ => hh3) (fun hHeld3 => ?_)
        clear hK K hb3
        try simp only [Act.put, List.setIfInBounds_toArray, List.set_cons_zero, List.set_cons_succ]
        refine Till.take 19 (some 64) (v := ?_) rfl rfl (by kernel_rfl) (by kernel_rfl) (by kernel_rfl) (by kernel_rfl) (fun _ _ _ h => h) (Or.inl ⟨by rfl, ?_⟩) (by assumption) ?_
        rotate_left
        · (intro w hSw; (try dsimp only at hSw); go_simp; try with_reducible rfl)
        try simp only [Act.put, List.setIfInBounds_toArray, List.set_cons_zero, List.set_cons_succ]
        refine Till.take 20 (some 65) (v := ?_) rfl rfl (by kernel_rfl) (by kernel_rfl) (by kernel_rfl) (by kernel_rfl) (fun _ _ _ h => h) (Or.inl ⟨by rfl, ?_⟩) (by assumption) ?_
        rotate_left
        · (intro w hSw; (try dsimp only at hSw); go_simp; try with_reducible rfl)
        try simp only [Act.put, List.setIfInBounds_toArray, List.set_cons_zero, List.set_cons_succ]
        refine Till.take 21 (some 66) (v := ?_) rfl rfl (by kernel_rfl) (by kernel_rfl) (by kernel_rfl) (by kernel_rfl) (fun _ _ _ h => h) (Or.inl ⟨by rfl, ?_⟩) (by assumption) ?_
        rotate_left
        · (intro w hSw; (try dsimp only at hSw); go_simp; try with_reducible rfl)
        try simp only [Act.put, List.setIfInBounds_toArray, List.set_cons_zero, List.set_cons_succ]
        refine Till.take 23 (some 68) (v := ?_) rfl rfl (by kernel_rfl) (by kernel_rfl) (by kernel_rfl) (by kernel_rfl) (fun _ _ _ h => h) (Or.inl ⟨by rfl, ?_⟩) (by assumption) ?_
        rotate_left
        · (intro w hSw; (try dsimp only at hSw); go_simp; try with_reducible rfl)
        try simp only [Act.put, List.setIfInBounds_toArray, List.set_cons_zero, List.set_cons_succ]
        refine Till.take 24 (some 69) (v := ?_) rfl rfl (by kernel_rfl) (by kernel_rfl) (by kernel_rfl) (by kernel_rfl) (fun _ _ _ h => h) (Or.inl ⟨by rfl, ?_⟩) (by assumption) ?_
        rotate_left
        · (intro w hSw; (try dsimp only at hSw); go_simp; try with_reducible rfl)
        try simp only [Act.put, List.setIfInBounds_toArray, List.set_cons_zero, List.set_cons_succ]
        refine Till.take 25 (some 70) (v := ?_) rfl rfl (by kernel_rfl) (by kernel_rfl) (by kernel_rfl) (by kernel_rfl) (fun _ _ _ h => h) (Or.inl ⟨by rfl, ?_⟩) (by assumption) ?_
        rotate_left
        · (intro w hSw; (try dsimp only at hSw); go_simp; try with_reducible rfl)
        try simp only [Act.put, List.setIfInBounds_toArray, List.set_cons_zero, List.set_cons_succ]
        refine Till.take 26 (some 71) (v := ?_) rfl rfl (by kernel_rfl) (by kernel_rfl) (by kernel_rfl) (by kernel_rfl) (fun _ _ _ h => h) (Or.inl ⟨by rfl, ?_⟩) (by assumption) ?_
        rotate_left
        · (intro w hSw; (try dsimp only at hSw); go_simp; try with_reducible rfl)
        try simp only [Act.put, List.setIfInBounds_toArray, List.set_cons_zero, List.set_cons_succ]
        refine Till.take 27 (some 72) (v := ?_) rfl rfl (by kernel_rfl) (by kernel_rfl) (by kernel_rfl) (by kernel_rfl) (fun _ _ _ h => h) (Or.inl ⟨by rfl, ?_⟩) (by assumption) ?_
        rotate_left
        · (intro w hSw; (try dsimp only at hSw); go_simp; try with_reducible rfl)
        try simp only [Act.put, List.setIfInBounds_toArray, List.set_cons_zero, List.set_cons_succ]
        refine Till.one 22 rfl (by kernel_rfl) (fun K hK => ?_)
        go_simp
        go_at_call 17
        refine (lwhole_any c _).mono ?_
        rintro e v4 ⟨rfl, hb4⟩
        have D4 := D3.trans (hb4.mono D3.size)
        have hh4 := HSV.out _ D4
        refine hK.out _ _ (fun _ => hh4) (fun hHeld4 => ?_)
        clear hK K hb4
        try simp only [Act.put, List.setIfInBounds_toArray, List.set_cons_zero, List.set_cons_succ]
        refine Till.one 28 rfl (by kernel_rfl) (fun K hK => ?_)
        go_simp
        go_at_call 16
        refine (HL3 _).mono ?_
        rintro e v5 ⟨rfl, hb5⟩
        have D5 := D4.trans (hb5.mono D4.size)
        have hh5 := HSV.out _ D5
        refine hK.out _ _ (fun _ => hh5) (fun hHeld5 => ?_)
        clear hK K hb5
        try simp only [Act.put, List.setIfInBounds_toArray, List.set_cons_zero, List.set_cons_succ]
        refine Till.take 29 (some 74) (v := ?_) rfl rfl (by kernel_rfl) (by kernel_rfl) (by kernel_rfl) (by kernel_rfl) (fun _ _ _ h => h) (Or.inl ⟨by rfl, ?_⟩) (by assumption) ?_
        rotate_left
        · (intro w hSw; (try dsimp only at hSw); go_simp; try with_reducible rfl)
        try simp only [Act.put, List.setIfInBounds_toArray, List.set_cons_zero, List.set_cons_succ]
        refine Till.take 30 (some 75) (v := ?_) rfl rfl (by kernel_rfl) (by kernel_rfl) (by kernel_rfl) (by kernel_rfl) (fun _ _ _ h => h) (Or.inl ⟨by rfl, ?_⟩) (by assumption) ?_
        rotate_left
        · (intro w hSw; (try dsimp only at hSw); go_simp; try with_reducible rfl)
        try simp only [Act.put, List.setIfInBounds_toArray, List.set_cons_zero, List.set_cons_succ]
        refine Till.take 31 (some 76) (v := ?_) rfl rfl (by kernel_rfl) (by kernel_rfl) (by kernel_rfl) (by kernel_rfl) (fun _ _ _ h => h) (Or.inl ⟨by rfl, ?_⟩) (by assumption) ?_
        rotate_left
        · (intro w hSw; (try dsimp only at hSw); go_simp; try with_reducible rfl)
        try simp only [Act.put, List.setIfInBounds_toArray, List.set_cons_zero, List.set_cons_succ]
        refine Till.take 32 (some 77) (v := ?_) rfl rfl (by kernel_rfl) (by kernel_rfl) (by kernel_rfl) (by kernel_rfl) (fun _ _ _ h => h) (Or.inl ⟨by rfl, ?_⟩) (by assumption) ?_
        rotate_left
        · (intro w hSw; (try dsimp only at hSw); go_simp; try with_reducible rfl)
        try simp only [Act.put, List.setIfInBounds_toArray, List.set_cons_zero, List.set_cons_succ]
        refine Till.take 33 (some 78) (v := ?_) rfl rfl (by kernel_rfl) (by kernel_rfl) (by kernel_rfl) (by kernel_rfl) (fun _ _ _ h => h) (Or.inl ⟨by rfl, ?_⟩) (by assumption) ?_
        rotate_left
        · (intro w hSw; (try dsimp only at hSw); go_simp; try with_reducible rfl)
        try simp only [Act.put, List.setIfInBounds_toArray, List.set_cons_zero, List.set_cons_succ]
        refine Till.take 34 (some 79) (v := ?_) rfl rfl (by kernel_rfl) (by kernel_rfl) (by kernel_rfl) (by kernel_rfl) (fun _ _ _ h => h) (Or.inl ⟨by rfl, ?_⟩) (by assumption) ?_
        rotate_left
        · (intro w hSw; (try dsimp only at hSw); go_simp; try with_reducible rfl)
        try simp only [Act.put, List.setIfInBounds_toArray, List.set_cons_zero, List.set_cons_succ]
        refine Till.take 35 (some 80) (v := ?_) rfl rfl (by kernel_rfl) (by kernel_rfl) (by kernel_rfl) (by kernel_rfl) (fun _ _ _ h => h) (Or.inl ⟨by rfl, ?_⟩) (by assumption) ?_
        rotate_left
        · (intro w hSw; (try dsimp only at hSw); go_simp; try with_reducible rfl)
        try simp only [Act.put, List.setIfInBounds_toArray, List.set_cons_zero, List.set_cons_succ]
        refine Till.take 36 (some 81) (v := ?_) rfl rfl (by kernel_rfl) (by kernel_rfl) (by kernel_rfl) (by kernel_rfl) (fun _ _ _ h => h) (Or.inl ⟨by rfl, ?_⟩) (by assumption) ?_
        rotate_left
        · (intro w hSw; (try dsimp only at hSw); go_simp; try with_reducible rfl)
        try simp only [Act.put, List.setIfInBounds_toArray, List.set_cons_zero, List.set_cons_succ]
        refine Till.take 37 (some 82) (v := ?_) rfl rfl (by kernel_rfl) (by kernel_rfl) (by kernel_rfl) (by kernel_rfl) (fun _ _ _ h => h) (Or.inl ⟨by rfl, ?_⟩) (by assumption) ?_
        rotate_left
        · (intro w hSw; (try dsimp only at hSw); go_simp; try with_reducible rfl)
        try simp only [Act.put, List.setIfInBounds_toArray, List.set_cons_zero, List.set_cons_succ]
        refine Till.take 38 (some 83) (v := ?_) rfl rfl (by kernel_rfl) (by kernel_rfl) (by kernel_rfl) (by kernel_rfl) (fun _ _ _ h => h) (Or.inl ⟨by rfl, ?_⟩) (by assumption) ?_
        rotate_left
        · (intro w hSw; (try dsimp only at hSw); go_simp; try with_reducible rfl)
        try simp only [Act.put, List.setIfInBounds_toArray, List.set_cons_zero, List.set_cons_succ]
        refine Till.take 39 (some 84) (v := ?_) rfl rfl (by kernel_rfl) (by kernel_rfl) (by kernel_rfl) (by kernel_rfl) (fun _ _ _ h => h) (Or.inl ⟨by rfl, ?_⟩) (by assumption) ?_
        rotate_left
        · (intro w hSw; (try dsimp only at hSw); go_simp; try with_reducible rfl)
        try simp only [Act.put, List.setIfInBounds_toArray, List.set_cons_zero, List.set_cons_succ]
        refine Till.take 40 (some 85) (v := ?_) rfl rfl (by kernel_rfl) (by kernel_rfl) (by kernel_rfl) (by kernel_rfl) (fun _ _ _ h => h) (Or.inl ⟨by rfl, ?_⟩) (by assumption) ?_
        rotate_left
        · (intro w hSw; (try dsimp only at hSw); go_simp; try with_reducible rfl)
        try simp only [Act.put, List.setIfInBounds_toArray, List.set_cons_zero, List.set_cons_succ]
        refine Till.take 41 (some 86) (v := ?_) rfl rfl (by kernel_rfl) (by kernel_rfl) (by kernel_rfl) (by kernel_rfl) (fun _ _ _ h => h) (Or.inl ⟨by rfl, ?_⟩) (by assumption) ?_
        rotate_left
        · (intro w hSw; (try dsimp only at hSw); go_simp; try with_reducible rfl)
        try simp only [Act.put, List.setIfInBounds_toArray, List.set_cons_zero, List.set_cons_succ]
        refine Till.take 42 (some 87) (v := ?_) rfl rfl (by kernel_rfl) (by kernel_rfl) (by kernel_rfl) (by kernel_rfl) (fun _ _ _ h => h) (Or.inl ⟨by rfl, ?_⟩) (by assumption) ?_
        rotate_left
        · (intro w hSw; (try dsimp only at hSw); go_simp; try with_reducible rfl)
        try simp only [Act.put, List.setIfInBounds_toArray, List.set_cons_zero, List.set_cons_succ]
        refine Till.take 43 (some 88) (v := ?_) rfl rfl (by kernel_rfl) (by kernel_rfl) (by kernel_rfl) (by kernel_rfl) (fun _ _ _ h => h) (Or.inl ⟨by rfl, ?_⟩) (by assumption) ?_
        rotate_left
        · (intro w hSw; (try dsimp only at hSw); go_simp; try with_reducible rfl)
        try simp only [Act.put, List.setIfInBounds_toArray, List.set_cons_zero, List.set_cons_succ]
        refine Till.take 44 (some 89) (v := ?_) rfl rfl (by kernel_rfl) (by kernel_rfl) (by kernel_rfl) (by kernel_rfl) (fun _ _ _ h => h) (Or.inl ⟨by rfl, ?_⟩) (by assumption) ?_
        rotate_left
        · (intro w hSw; (try dsimp only at hSw); go_simp; try with_reducible rfl)
        try simp only [Act.put, List.setIfInBounds_toArray, List.set_cons_zero, List.set_cons_succ]
        refine Till.one 45 rfl (by kernel_rfl) (fun K hK => ?_)
        go_simp
        go_at_call 16
        refine (HL4 _).mono ?_
        rintro e v6 ⟨rfl, hb6⟩
        have D6 := D5.trans (hb6.mono D5.size)
        have hh6 := HSV.out _ D6
        refine hK.out _ _ (fun _ => hh6) (fun hHeld6 => ?_)
        clear hK K hb6
        try simp only [Act.put, List.setIfInBounds_toArray, List.set_cons_zero, List.set_cons_succ]
        refine Till.take 46 (some 91) (v := ?_) rfl rfl (by kernel_rfl) (by kernel_rfl) (by kernel_rfl) (by kernel_rfl) (fun _ _ _ h => h) (Or.inl ⟨by rfl, ?_⟩) (by assumption) ?_
        rotate_left
        · (intro w hSw; (try dsimp only at hSw); go_simp; try with_reducible rfl)
        try simp only [Act.put, List.setIfInBounds_toArray, List.set_cons_zero, List.set_cons_succ]
        refine Till.take 47 (some 92) (v := ?_) rfl rfl (by kernel_rfl) (by kernel_rfl) (by kernel_rfl) (by kernel_rfl) (fun _ _ _ h => h) (Or.inl ⟨by rfl, ?_⟩) (by assumption) ?_
        rotate_left
        · (intro w hSw; (try dsimp only at hSw); go_simp; try with_reducible rfl)
        try simp only [Act.put, List.setIfInBounds_toArray, List.set_cons_zero, List.set_cons_succ]
        refine Till.take 48 (some 93) (v := ?_) rfl rfl (by kernel_rfl) (by kernel_rfl) (by kernel_rfl) (by kernel_rfl) (fun _ _ _ h => h) (Or.inl ⟨by rfl, ?_⟩) (by assumption) ?_
        rotate_left
        · (intro w hSw; (try dsimp only at hSw); go_simp; try with_reducible rfl)
        try simp only [Act.put, List.setIfInBounds_toArray, List.set_cons_zero, List.set_cons_succ]
        have HE := Lib.hid (hB.trans (D6.mono hB.size))
        refine Till.done (by kernel_rfl) ?_ _
        go_wp2
        go_roundw
        case rel => exact ⟨k + 1, by omega, by go_num, HE.out⟩
        case measure => simp [intOf]; omega
    · skip
      have hke : k = LL.length := by omega
      subst hke
      have hr := hr.mono (ext_of_below hB)
      have hS := hS.below hB hS.lt
      have hvs := hvs.mono (ext_of_below hB)
      have hA := hA.trans (hB.mono hA.size)
      clear hB HV
      go_wp2_with fail
      refine (time4_any c num den _ hc hin hid).mono ?_
      rintro e w3 ⟨⟨M, D, hD, hM, rfl⟩, hb⟩
      have hr := hr.mono (ext_of_below hb)
      have hS := hS.below hb hS.lt
      have hvs := hvs.mono (ext_of_below hb)
      have hA := hA.trans (hb.mono hA.size)
      clear hb
      obtain ⟨hn, hd, hg⟩ := mk_time hc hD hM
      clear hD hM
      generalize (mk M D).n = qn at *
      generalize (mk M D).d = qd at *
      obtain ⟨cy1, -⟩ := in_cyc hc hd hn
      have hcd := cd_bd hc hd
      have T1 : TimeOk qn qd := ⟨⟨hd.1, by omega, hg⟩, by omega⟩
      have hT := Blk.new w3 #[.int .i64 qn, .int .i64 qd] 24
      have hb := below_box w3 (.cells #[.int .i64 qn, .int .i64 qd] 24)
      have hr := hr.mono (ext_of_below hb)
      have hS := hS.below hb hS.lt
      have hvs := hvs.mono (ext_of_below hb)
      have hA := hA.trans (hb.mono hA.size)
      clear hb
      have t0 := hT.cell 0 _ rfl
      have t1 := hT.cell 1 _ rfl
      go_upto_region 12 with fail
      generalize (w3.alloc (.cells #[.int .i64 qn, .int .i64 qd] 24)) = w4 at *
      go_wp2_with fail
      refine (where_any c h aa ca l qn qd _ hr (by unfold I64; omega)).mono ?_
      rintro e w5 ⟨hW, hb⟩
      obtain ⟨P, hP, rfl⟩ := where_ok HH.out T1 hW
      rw [cy1] at hP
      clear hW t0 t1
      have hr := hr.mono (ext_of_below hb)
      have hS := hS.below hb hS.lt
      have hvs := hvs.mono (ext_of_below hb)
      have hT := hT.below hb hT.lt
      have hA := hA.trans (hb.mono hA.size)
      clear hb
      have hbP := Blk.new w5 #[.int .i64 P.n, .int .i64 P.d] 24
      have hb := below_box w5 (.cells #[.int .i64 P.n, .int .i64 P.d] 24)
      have hr := hr.mono (ext_of_below hb)
      have hS := hS.below hb hS.lt
      have hvs := hvs.mono (ext_of_below hb)
      have hT := hT.below hb hT.lt
      have hA := hA.trans (hb.mono hA.size)
      clear hb
      go_upto_region 13 with fail
      generalize (w5.alloc (.cells #[.int .i64 P.n, .int .i64 P.d] 24)) = w6 at *
      have b1 := hP.bd HH.out hd (by omega)
      have FIN := Lib.hid (all_fin HH.out HLI.out hd hn hP b1.2.1)
      have p0 := hbP.cell 0 _ rfl
      have p1 := hbP.cell 1 _ rfl
      have s0 := hS.cell 0 _ rfl
      have s1 := hS.cell 1 _ rfl
      unfold SpOk at hSO
      have D0 : Below w6.heap.size w6 w6.drew := (Below.refl _ _).drew
      have HSV : Hid (∀ V, Below w6.heap.size w6 V → (fun w' : World => w'.cell? ⟨w5.heap.size, 0, none⟩ = some (.int .i64 P.n) ∧ w'.cell? ⟨w5.heap.size, 1, none⟩ = some (.int .i64 P.d) ∧ w'.cell? ⟨w.heap.size, 0, none⟩ = some (.int .i64 s.lo) ∧ w'.cell? ⟨w.heap.size, 1, none⟩ = some (.int .i64 s.hi)) V) := Lib.hid (fun V hV => ⟨ext_of_below hV _ _ p0, ext_of_below hV _ _ p1, ext_of_below hV _ _ s0, ext_of_below hV _ _ s1⟩)
      clear p0 p1 s0 s1
      have HL1 := fun V => rl_any P.n P.d s.lo 1 V (by unfold Num4; omega) (by unfold Den4; omega) (by unfold Num4; omega) (by unfold Den4; omega)
      have HL2 := fun V => rl_any s.hi 1 P.n P.d V (by unfold Num4; omega) (by unfold Den4; omega) (by unfold Num4; omega) (by unfold Den4; omega)
      obtain ⟨B, hBB⟩ : ∃ B, (!decide (P.n * 1 < s.lo * P.d) && !decide (s.hi * P.d < P.n * 1)) = B := ⟨_, rfl⟩
      have hfb : FinP c LL qn qd B := by
        unfold FinP
        rw [← hBB, bool_of]
        exact FIN.out
      have HFB := Lib.hid hfb
      clear hfb FIN
      have HBB := Lib.hid hBB
      clear hBB
      go_cut [18] (fun sv wx => sv = .bool B ∧ Below w6.heap.size w6 wx)
      case first =>
        have hh := HBB.out
        clear HBB HFB hP b1 hr hS hvs hT hbP hA
        by_cases c1 : P.n * 1 < s.lo * P.d
        · skip
          rw [decide_eq_true c1] at HL1 hh
          obtain rfl : B = false := by simpa using hh.symm
          clear c1 hh HL2
          go_wp2_with fail
          refine wp_region_till (fun w' : World => w'.cell? ⟨w5.heap.size, 0, none⟩ = some (.int .i64 P.n) ∧ w'.cell? ⟨w5.heap.size, 1, none⟩ = some (.int .i64 P.d) ∧ w'.cell? ⟨w.heap.size, 0, none⟩ = some (.int .i64 s.lo) ∧ w'.cell? ⟨w.heap.size, 1, none⟩ = some (.int .i64 s.hi)) 15 (by kernel_rfl) (HSV.out _ D0) (fun hHeld => ?_)
          generalize w6.drew = wd at *
          refine Till.take 0 (some 106) (v := ?_) rfl rfl (by kernel_rfl) (by kernel_rfl) (by kernel_rfl) (by kernel_rfl) (fun _ _ _ h => h) (Or.inl ⟨by rfl, ?_⟩) (by assumption) ?_
          rotate_left
          · (intro w hSw; (try dsimp only at hSw); go_simp; try with_reducible rfl)
          try simp only [Act.put, List.setIfInBounds_toArray, List.set_cons_zero, List.set_cons_succ]
          refine Till.take 1 (some 107) (v := ?_) rfl rfl (by kernel_rfl) (by kernel_rfl) (by kernel_rfl) (by kernel_rfl) (fun _ _ _ h => h) (Or.inl ⟨by rfl, ?_⟩) (by assumption) ?_
          rotate_left
          · (intro w hSw; (try dsimp only at hSw); go_simp; try with_reducible rfl)
          try simp only [Act.put, List.setIfInBounds_toArray, List.set_cons_zero, List.set_cons_succ]
          refine Till.take 2 (some 108) (v := ?_) rfl rfl (by kernel_rfl) (by kernel_rfl) (by kernel_rfl) (by kernel_rfl) (fun _ _ _ h => h) (Or.inl ⟨by rfl, ?_⟩) (by assumption) ?_
          rotate_left
          · (intro w hSw; (try dsimp only at hSw); go_simp; try with_reducible rfl)
          try simp only [Act.put, List.setIfInBounds_toArray, List.set_cons_zero, List.set_cons_succ]
          refine Till.one 3 rfl (by kernel_rfl) (fun K hK => ?_)
          go_simp
          go_at_call 17
          refine (lwhole_any s.lo _).mono ?_
          rintro e v1 ⟨rfl, hb1⟩
          have D1 := D0.trans (hb1.mono D0.size)
          have hh1 := HSV.out _ D1
          refine hK.out _ _ (fun _ => hh1) (fun hHeld1 => ?_)
          clear hK K hb1
          try simp only [Act.put, List.setIfInBounds_toArray, List.set_cons_zero, List.set_cons_succ]
          refine Till.one 4 rfl (by kernel_rfl) (fun K hK => ?_)
          go_simp
          go_at_call 16
          refine (HL1 _).mono ?_
          rintro e v2 ⟨rfl, hb2⟩
          have D2 := D1.trans (hb2.mono D1.size)
          have hh2 := HSV.out _ D2
          refine hK.out _ _ (fun _ => hh2) (fun hHeld2 => ?_)
          clear hK K hb2
          try simp only [Act.put, List.setIfInBounds_toArray, List.set_cons_zero, List.set_cons_succ]
          refine Till.take 5 (some 111) (v := ?_) rfl rfl (by kernel_rfl) (by kernel_rfl) (by kernel_rfl) (by kernel_rfl) (fun _ _ _ h => h) (Or.inl ⟨by rfl, ?_⟩) (by assumption) ?_
          rotate_left
          · (intro w hSw; (try dsimp only at hSw); go_simp; try with_reducible rfl)
          try simp only [Act.put, List.setIfInBounds_toArray, List.set_cons_zero, List.set_cons_succ]
          refine Till.take 6 (some 112) (v := ?_) rfl rfl (by kernel_rfl) (by kernel_rfl) (by kernel_rfl) (by kernel_rfl) (fun _ _ _ h => h) (Or.inl ⟨by rfl, ?_⟩) (by assumption) ?_
          rotate_left
          · (intro w hSw; (try dsimp only at hSw); go_simp; try with_reducible rfl)
          try simp only [Act.put, List.setIfInBounds_toArray, List.set_cons_zero, List.set_cons_succ]
          refine Till.take 7 (some 113) (v := undef) rfl rfl (by kernel_rfl) (by kernel_rfl) (by kernel_rfl) (by kernel_rfl) (fun _ _ _ h => h) (Or.inr ⟨by rfl, rfl⟩) (by assumption) ?_
          try simp only [Act.put, List.setIfInBounds_toArray, List.set_cons_zero, List.set_cons_succ]
          refine Till.take 8 (some 114) (v := undef) rfl rfl (by kernel_rfl) (by kernel_rfl) (by kernel_rfl) (by kernel_rfl) (fun _ _ _ h => h) (Or.inr ⟨by rfl, rfl⟩) (by assumption) ?_
          try simp only [Act.put, List.setIfInBounds_toArray, List.set_cons_zero, List.set_cons_succ]
          refine Till.take 9 (some 115) (v := undef) rfl rfl (by kernel_rfl) (by kernel_rfl) (by kernel_rfl) (by kernel_rfl) (fun _ _ _ h => h) (Or.inr ⟨by rfl, rfl⟩) (by assumption) ?_
          try simp only [Act.put, List.setIfInBounds_toArray, List.set_cons_zero, List.set_cons_succ]
          refine Till.take 10 (some 116) (v := undef) rfl rfl (by kernel_rfl) (by kernel_rfl) (by kernel_rfl) (by kernel_rfl) (fun _ _ _ h => h) (Or.inr ⟨by rfl, rfl⟩) (by assumption) ?_
          try simp only [Act.put, List.setIfInBounds_toArray, List.set_cons_zero, List.set_cons_succ]
          refine Till.take 11 (some 117) (v := undef) rfl rfl (by kernel_rfl) (by kernel_rfl) (by kernel_rfl) (by kernel_rfl) (fun _ _ _ h => h) (Or.inr ⟨by rfl, rfl⟩) (by assumption) ?_
          try simp only [Act.put, List.setIfInBounds_toArray, List.set_cons_zero, List.set_cons_succ]
          refine Till.take 12 (some 118) (v := undef) rfl rfl (by kernel_rfl) (by kernel_rfl) (by kernel_rfl) (by kernel_rfl) (fun _ _ _ h => h) (Or.inr ⟨by rfl, rfl⟩) (by assumption) ?_
          try simp only [Act.put, List.setIfInBounds_toArray, List.set_cons_zero, List.set_cons_succ]
          refine Till.take 13 (some 119) (v := ?_) rfl rfl (by kernel_rfl) (by kernel_rfl) (by kernel_rfl) (by kernel_rfl) (fun _ _ _ h => h) (Or.inl ⟨by rfl, ?_⟩) (by assumption) ?_
          rotate_left
          · (intro w hSw; (try dsimp only at hSw); go_simp; try with_reducible rfl)
          try simp only [Act.put, List.setIfInBounds_toArray, List.set_cons_zero, List.set_cons_succ]
          refine Till.take 14 (some 18) (v := ?_) rfl rfl (by kernel_rfl) (by kernel_rfl) (by kernel_rfl) (by kernel_rfl) (fun _ _ _ h => h) (Or.inl ⟨by rfl, ?_⟩) (by assumption) ?_
          rotate_left
          · (intro w hSw; (try dsimp only at hSw); go_simp; try with_reducible rfl)
          try simp only [Act.put, List.setIfInBounds_toArray, List.set_cons_zero, List.set_cons_succ]
          refine Till.done (by kernel_rfl) ?_ _
          go_wp2_with fail
          go_meet
          exact ⟨rfl, D2⟩
        · skip
          rw [decide_eq_false c1] at HL1 hh
          clear c1
          by_cases c2 : s.hi * P.d < P.n * 1
          · skip
            rw [decide_eq_true c2] at HL2 hh
            obtain rfl : B = false := by simpa using hh.symm
            clear c2 hh
            go_wp2_with fail
            refine wp_region_till (fun w' : World => w'.cell? ⟨w5.heap.size, 0, none⟩ = some (.int .i64 P.n) ∧ w'.cell? ⟨w5.heap.size, 1, none⟩ = some (.int .i64 P.d) ∧ w'.cell? ⟨w.heap.size, 0, none⟩ = some (.int .i64 s.lo) ∧ w'.cell? ⟨w.heap.size, 1, none⟩ = some (.int .i64 s.hi)) 15 (by kernel_rfl) (HSV.out _ D0) (fun hHeld => ?_)
            generalize w6.drew = wd at *
            refine Till.take 0 (some 106) (v := ?_) rfl rfl (by kernel_rfl) (by kernel_rfl) (by kernel_rfl) (by kernel_rfl) (fun _ _ _ h => h) (Or.inl ⟨by rfl, ?_⟩) (by assumption) ?_
            rotate_left
            · (intro w hSw; (try dsimp only at hSw); go_simp; try with_reducible rfl)
            try simp only [Act.put, List.setIfInBounds_toArray, List.set_cons_zero, List.set_cons_succ]
            refine Till.take 1 (some 107) (v := ?_) rfl rfl (by kernel_rfl) (by kernel_rfl) (by kernel_rfl) (by kernel_rfl) (fun _ _ _ h => h) (Or.inl ⟨by rfl, ?_⟩) (by assumption) ?_
            rotate_left
            · (intro w hSw; (try dsimp only at hSw); go_simp; try with_reducible rfl)
            try simp only [Act.put, List.setIfInBounds_toArray, List.set_cons_zero, List.set_cons_succ]
            refine Till.take 2 (some 108) (v := ?_) rfl rfl (by kernel_rfl) (by kernel_rfl) (by kernel_rfl) (by kernel_rfl) (fun _ _ _ h => h) (Or.inl ⟨by rfl, ?_⟩) (by assumption) ?_
            rotate_left
            · (intro w hSw; (try dsimp only at hSw); go_simp; try with_reducible rfl)
            try simp only [Act.put, List.setIfInBounds_toArray, List.set_cons_zero, List.set_cons_succ]
            refine Till.one 3 rfl (by kernel_rfl) (fun K hK => ?_)
            go_simp
            go_at_call 17
            refine (lwhole_any s.lo _).mono ?_
            rintro e v1 ⟨rfl, hb1⟩
            have D1 := D0.trans (hb1.mono D0.size)
            have hh1 := HSV.out _ D1
            refine hK.out _ _ (fun _ => hh1) (fun hHeld1 => ?_)
            clear hK K hb1
            try simp only [Act.put, List.setIfInBounds_toArray, List.set_cons_zero, List.set_cons_succ]
            refine Till.one 4 rfl (by kernel_rfl) (fun K hK => ?_)
            go_simp
            go_at_call 16
            refine (HL1 _).mono ?_
            rintro e v2 ⟨rfl, hb2⟩
            have D2 := D1.trans (hb2.mono D1.size)
            have hh2 := HSV.out _ D2
            refine hK.out _ _ (fun _ => hh2) (fun hHeld2 => ?_)
            clear hK K hb2
            try simp only [Act.put, List.setIfInBounds_toArray, List.set_cons_zero, List.set_cons_succ]
            refine Till.take 5 (some 111) (v := ?_) rfl rfl (by kernel_rfl) (by kernel_rfl) (by kernel_rfl) (by kernel_rfl) (fun _ _ _ h => h) (Or.inl ⟨by rfl, ?_⟩) (by assumption) ?_
            rotate_left
            · (intro w hSw; (try dsimp only at hSw); go_simp; try with_reducible rfl)
            try simp only [Act.put, List.setIfInBounds_toArray, List.set_cons_zero, List.set_cons_succ]
            refine Till.take 6 (some 112) (v := ?_) rfl rfl (by kernel_rfl) (by kernel_rfl) (by kernel_rfl) (by kernel_rfl) (fun _ _ _ h => h) (Or.inl ⟨by rfl, ?_⟩) (by assumption) ?_
            rotate_left
            · (intro w hSw; (try dsimp only at hSw); go_simp; try with_reducible rfl)
            try simp only [Act.put, List.setIfInBounds_toArray, List.set_cons_zero, List.set_cons_succ]
            refine Till.take 7 (some 113) (v := ?_) rfl rfl (by kernel_rfl) (by kernel_rfl) (by kernel_rfl) (by kernel_rfl) (fun _ _ _ h => h) (Or.inl ⟨by rfl, ?_⟩) (by assumption) ?_
            rotate_left
            · (intro w hSw; (try dsimp only at hSw); go_simp; try with_reducible rfl)
            try simp only [Act.put, List.setIfInBounds_toArray, List.set_cons_zero, List.set_cons_succ]
            refine Till.take 8 (some 114) (v := ?_) rfl rfl (by kernel_rfl) (by kernel_rfl) (by kernel_rfl) (by kernel_rfl) (fun _ _ _ h => h) (Or.inl ⟨by rfl, ?_⟩) (by assumption) ?_
            rotate_left
            · (intro w hSw; (try dsimp only at hSw); go_simp; try with_reducible rfl)
            try simp only [Act.put, List.setIfInBounds_toArray, List.set_cons_zero, List.set_cons_succ]
            refine Till.take 10 (some 116) (v := ?_) rfl rfl (by kernel_rfl) (by kernel_rfl) (by kernel_rfl) (by kernel_rfl) (fun _ _ _ h => h) (Or.inl ⟨by rfl, ?_⟩) (by assumption) ?_
            rotate_left
            · (intro w hSw; (try dsimp only at hSw); go_simp; try with_reducible rfl)
            try simp only [Act.put, List.setIfInBounds_toArray, List.set_cons_zero, List.set_cons_succ]
            refine Till.one 9 rfl (by kernel_rfl) (fun K hK => ?_)
            go_simp
            go_at_call 17
            refine (lwhole_any s.hi _).mono ?_
            rintro e v3 ⟨rfl, hb3⟩
            have D3 := D2.trans (hb3.mono D2.size)
            have hh3 := HSV.out _ D3
            refine hK.out _ _ (fun _ => hh3) (fun hHeld3 => ?_)
            clear hK K hb3
            try simp only [Act.put, List.setIfInBounds_toArray, List.set_cons_zero, List.set_cons_succ]
            refine Till.one 11 rfl (by kernel_rfl) (fun K hK => ?_)
            go_simp
            go_at_call 16
            refine (HL2 _).mono ?_
            rintro e v4 ⟨rfl, hb4⟩
            have D4 := D3.trans (hb4.mono D3.size)
            have hh4 := HSV.out _ D4
            refine hK.out _ _ (fun _ => hh4) (fun hHeld4 => ?_)
            clear hK K hb4
            try simp only [Act.put, List.setIfInBounds_toArray, List.set_cons_zero, List.set_cons_succ]
            refine Till.take 12 (some 118) (v := ?_) rfl rfl (by kernel_rfl) (by kernel_rfl) (by kernel_rfl) (by kernel_rfl) (fun _ _ _ h => h) (Or.inl ⟨by rfl, ?_⟩) (by assumption) ?_
            rotate_left
            · (intro w hSw; (try dsimp only at hSw); go_simp; try with_reducible rfl)
            try simp only [Act.put, List.setIfInBounds_toArray, List.set_cons_zero, List.set_cons_succ]
            refine Till.take 13 (some 119) (v := ?_) rfl rfl (by kernel_rfl) (by kernel_rfl) (by kernel_rfl) (by kernel_rfl) (fun _ _ _ h => h) (Or.inl ⟨by rfl, ?_⟩) (by assumption) ?_
            rotate_left
            · (intro w hSw; (try dsimp only at hSw); go_simp; try with_reducible rfl)
            try simp only [Act.put, List.setIfInBounds_toArray, List.set_cons_zero, List.set_cons_succ]
            refine Till.take 14 (some 18) (v := ?_) rfl rfl (by kernel_rfl) (by kernel_rfl) (by kernel_rfl) (by kernel_rfl) (fun _ _ _ h => h) (Or.inl ⟨by rfl, ?_⟩) (by assumption) ?_
            rotate_left
            · (intro w hSw; (try dsimp only at hSw); go_simp; try with_reducible rfl)
            try simp only [Act.put, List.setIfInBounds_toArray, List.set_cons_zero, List.set_cons_succ]
            refine Till.done (by kernel_rfl) ?_ _
            go_wp2_with fail
            go_meet
            exact ⟨rfl, D4⟩
          · skip
            rw [decide_eq_false c2] at HL2 hh
            obtain rfl : B = true := by simpa using hh.symm
            clear c2 hh
            go_wp2_with fail
            refine wp_region_till (fun w' : World => w'.cell? ⟨w5.heap.size, 0, none⟩ = some (.int .i64 P.n) ∧ w'.cell? ⟨w5.heap.size, 1, none⟩ = some (.int .i64 P.d) ∧ w'.cell? ⟨w.heap.size, 0, none⟩ = some (.int .i64 s.lo) ∧ w'.cell? ⟨w.heap.size, 1, none⟩ = some (.int .i64 s.hi)) 15 (by kernel_rfl) (HSV.out _ D0) (fun hHeld => ?_)
            generalize w6.drew = wd at *
            refine Till.take 0 (some 106) (v := ?_) rfl rfl (by kernel_rfl) (by kernel_rfl) (by kernel_rfl) (by kernel_rfl) (fun _ _ _ h => h) (Or.inl ⟨by rfl, ?_⟩) (by assumption) ?_
            rotate_left
            · (intro w hSw; (try dsimp only at hSw); go_simp; try with_reducible rfl)
            try simp only [Act.put, List.setIfInBounds_toArray, List.set_cons_zero, List.set_cons_succ]
            refine Till.take 1 (some 107) (v := ?_) rfl rfl (by kernel_rfl) (by kernel_rfl) (by kernel_rfl) (by kernel_rfl) (fun _ _ _ h => h) (Or.inl ⟨by rfl, ?_⟩) (by assumption) ?_
            rotate_left
            · (intro w hSw; (try dsimp only at hSw); go_simp; try with_reducible rfl)
            try simp only [Act.put, List.setIfInBounds_toArray, List.set_cons_zero, List.set_cons_succ]
            refine Till.take 2 (some 108) (v := ?_) rfl rfl (by kernel_rfl) (by kernel_rfl) (by kernel_rfl) (by kernel_rfl) (fun _ _ _ h => h) (Or.inl ⟨by rfl, ?_⟩) (by assumption) ?_
            rotate_left
            · (intro w hSw; (try dsimp only at hSw); go_simp; try with_reducible rfl)
            try simp only [Act.put, List.setIfInBounds_toArray, List.set_cons_zero, List.set_cons_succ]
            refine Till.one 3 rfl (by kernel_rfl) (fun K hK => ?_)
            go_simp
            go_at_call 17
            refine (lwhole_any s.lo _).mono ?_
            rintro e v1 ⟨rfl, hb1⟩
            have D1 := D0.trans (hb1.mono D0.size)
            have hh1 := HSV.out _ D1
            refine hK.out _ _ (fun _ => hh1) (fun hHeld1 => ?_)
            clear hK K hb1
            try simp only [Act.put, List.setIfInBounds_toArray, List.set_cons_zero, List.set_cons_succ]
            refine Till.one 4 rfl (by kernel_rfl) (fun K hK => ?_)
            go_simp
            go_at_call 16
            refine (HL1 _).mono ?_
            rintro e v2 ⟨rfl, hb2⟩
            have D2 := D1.trans (hb2.mono D1.size)
            have hh2 := HSV.out _ D2
            refine hK.out _ _ (fun _ => hh2) (fun hHeld2 => ?_)
            clear hK K hb2
            try simp only [Act.put, List.setIfInBounds_toArray, List.set_cons_zero, List.set_cons_succ]
            refine Till.take 5 (some 111) (v := ?_) rfl rfl (by kernel_rfl) (by kernel_rfl) (by kernel_rfl) (by kernel_rfl) (fun _ _ _ h => h) (Or.inl ⟨by rfl, ?_⟩) (by assumption) ?_
            rotate_left
            · (intro w hSw; (try dsimp only at hSw); go_simp; try with_reducible rfl)
            try simp only [Act.put, List.setIfInBounds_toArray, List.set_cons_zero, List.set_cons_succ]
            refine Till.take 6 (some 112) (v := ?_) rfl rfl (by kernel_rfl) (by kernel_rfl) (by kernel_rfl) (by kernel_rfl) (fun _ _ _ h => h) (Or.inl ⟨by rfl, ?_⟩) (by assumption) ?_
            rotate_left
            · (intro w hSw; (try dsimp only at hSw); go_simp; try with_reducible rfl)
            try simp only [Act.put, List.setIfInBounds_toArray, List.set_cons_zero, List.set_cons_succ]
            refine Till.take 7 (some 113) (v := ?_) rfl rfl (by kernel_rfl) (by kernel_rfl) (by kernel_rfl) (by kernel_rfl) (fun _ _ _ h => h) (Or.inl ⟨by rfl, ?_⟩) (by assumption) ?_
            rotate_left
            · (intro w hSw; (try dsimp only at hSw); go_simp; try with_reducible rfl)
            try simp only [Act.put, List.setIfInBounds_toArray, List.set_cons_zero, List.set_cons_succ]
            refine Till.take 8 (some 114) (v := ?_) rfl rfl (by kernel_rfl) (by kernel_rfl) (by kernel_rfl) (by kernel_rfl) (fun _ _ _ h => h) (Or.inl ⟨by rfl, ?_⟩) (by assumption) ?_
            rotate_left
            · (intro w hSw; (try dsimp only at hSw); go_simp; try with_reducible rfl)
            try simp only [Act.put, List.setIfInBounds_toArray, List.set_cons_zero, List.set_cons_succ]
            refine Till.take 10 (some 116) (v := ?_) rfl rfl (by kernel_rfl) (by kernel_rfl) (by kernel_rfl) (by kernel_rfl) (fun _ _ _ h => h) (Or.inl ⟨by rfl, ?_⟩) (by assumption) ?_
            rotate_left
            · (intro w hSw; (try dsimp only at hSw); go_simp; try with_reducible rfl)
            try simp only [Act.put, List.setIfInBounds_toArray, List.set_cons_zero, List.set_cons_succ]
            refine Till.one 9 rfl (by kernel_rfl) (fun K hK => ?_)
            go_simp
            go_at_call 17
            refine (lwhole_any s.hi _).mono ?_
            rintro e v3 ⟨rfl, hb3⟩
            have D3 := D2.trans (hb3.mono D2.size)
            have hh3 := HSV.out _ D3
            refine hK.out _ _ (fun _ => hh3) (fun hHeld3 => ?_)
            clear hK K hb3
            try simp only [Act.put, List.setIfInBounds_toArray, List.set_cons_zero, List.set_cons_succ]
            refine Till.one 11 rfl (by kernel_rfl) (fun K hK => ?_)
            go_simp
            go_at_call 16
            refine (HL2 _).mono ?_
            rintro e v4 ⟨rfl, hb4⟩
            have D4 := D3.trans (hb4.mono D3.size)
            have hh4 := HSV.out _ D4
            refine hK.out _ _ (fun _ => hh4) (fun hHeld4 => ?_)
            clear hK K hb4
            try simp only [Act.put, List.setIfInBounds_toArray, List.set_cons_zero, List.set_cons_succ]
            refine Till.take 12 (some 118) (v := ?_) rfl rfl (by kernel_rfl) (by kernel_rfl) (by kernel_rfl) (by kernel_rfl) (fun _ _ _ h => h) (Or.inl ⟨by rfl, ?_⟩) (by assumption) ?_
            rotate_left
            · (intro w hSw; (try dsimp only at hSw); go_simp; try with_reducible rfl)
            try simp only [Act.put, List.setIfInBounds_toArray, List.set_cons_zero, List.set_cons_succ]
            refine Till.take 13 (some 119) (v := ?_) rfl rfl (by kernel_rfl) (by kernel_rfl) (by kernel_rfl) (by kernel_rfl) (fun _ _ _ h => h) (Or.inl ⟨by rfl, ?_⟩) (by assumption) ?_
            rotate_left
            · (intro w hSw; (try dsimp only at hSw); go_simp; try with_reducible rfl)
            try simp only [Act.put, List.setIfInBounds_toArray, List.set_cons_zero, List.set_cons_succ]
            refine Till.take 14 (some 18) (v := ?_) rfl rfl (by kernel_rfl) (by kernel_rfl) (by kernel_rfl) (by kernel_rfl) (fun _ _ _ h => h) (Or.inl ⟨by rfl, ?_⟩) (by assumption) ?_
            rotate_left
            · (intro w hSw; (try dsimp only at hSw); go_simp; try with_reducible rfl)
            try simp only [Act.put, List.setIfInBounds_toArray, List.set_cons_zero, List.set_cons_succ]
            refine Till.done (by kernel_rfl) ?_ _
            go_wp2_with fail
            go_meet
            exact ⟨rfl, D4⟩
      case rest =>
      obtain ⟨rfl, hb⟩ := hcut
      rename World => w7
      have hr := hr.mono (ext_of_below hb)
      have hS := hS.below hb hS.lt
      have hvs := hvs.mono (ext_of_below hb)
      have hT := hT.below hb hT.lt
      have hbP := hbP.below hb hbP.lt
      have hA := hA.trans (hb.mono hA.size)
      clear hb HSV D0 HL1 HL2
      have t0 := hT.cell 0 _ rfl
      have t1 := hT.cell 1 _ rfl
      have hiv : ∀ x, x ∈ LL → IvOk x := fun x hx => (HLI.out.iv x hx).1
      have HIN := Lib.hid (in4_any c al cl LL qn qd _ hvs hiv hc hd (by omega))
      clear hiv
      go_wp2_with fail
      refine HIN.out.mono ?_
      rintro e w8 ⟨⟨b, rfl, hb2⟩, hb⟩
      have hBb : B = b := by
        have f := HFB.out
        unfold FinP at f
        rw [← hb2] at f
        clear HBB HFB hb2
        cases B <;> cases b <;> simp_all
      subst hBb
      have hA := hA.trans (hb.mono hA.size)
      have HAA := Lib.hid hA
      have eqb : ∀ V, Sem.run Try.prog (Go.binOp .eql 4 (.bool B) (.bool B)) V = .ok (.bool true) V := fun V => by cases B <;> rfl
      clear hb hb2 HIN HFB HBB hr hS hvs hT hbP hA t0 t1
      go_wp2_with fail
      refine (turns_any _).mono ?_
      rintro e wz ⟨rfl, hb⟩
      have hA := HAA.out.trans (hb.mono HAA.out.size)
      go_wp2
      go_ret
      exact ⟨rfl, hA⟩
end Go.Proofs.Ytnldenjdbgfgmaa
