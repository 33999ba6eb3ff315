/- What a function returns, or the error with which it goes wrong: told's contract at cullet/api.Ratio; no statement is proved here. -/
import Derived.Test.YtaldpalhckdcdaaGreatDoorErrOf
namespace Go.Proofs.YtaldpalhckdcdaaGreatDoor
open Go.RowKit Go.PlainAid
set_option linter.unusedVariables false
theorem isFn_told1_ratio : IsFn 85 := fun xs w => by kernel_rfl

/-- what is found, or the number with which it goes wrong. -/
def Finds_ratio (R : Sp → Prop) (B : Int → Prop) (W : World) (e : Ending) (w' : World) : Prop :=
  Below W.heap.size W w' ∧ ((∃ v : Sp, e = .returned (.agg #[.int .i64 v.lo, .int .i64 v.hi]) ∧ R v) ∨ (∃ n, e = .panicked (failC n) ∧ B n))

set_option maxRecDepth 100000 in
theorem told1_ratio_any (gf : Nat) (caps : Array Value) (p1 p2 : Nat) (W : World) (R : Sp → Prop) (B : Int → Prop) (hfn : IsFn gf)
    (h1 : Blk W p1 #[.func (.func gf) #[] caps] 98) (h2 : Blk W p2 #[.int .i64 0, .int .i64 0] 47) (h : Calls Tryz.prog gf caps W (Finds_ratio R B W)) :
    Calls Tryz.prog 85 #[.pointer (some ⟨p1, 0, none⟩), .pointer (some ⟨p2, 0, none⟩)] W fun e w' =>
      (e = .returned (.tuple #[]) ∧ ∃ (v : Sp) (w2 : World), Below W.heap.size W w2 ∧ R v ∧ w' = ((w2.setCell ⟨p2, 0, none⟩ (.int .i64 v.lo)).setCell ⟨p2, 1, none⟩ (.int .i64 v.hi))) ∨ (∃ n, e = .panicked (failC n) ∧ Below W.heap.size W w' ∧ B n) := by
  have hen := fun xs w => hfn xs w
  have c1 := h1.cell 0 _ rfl
  go_enter Tryz.func85, Tryz.ntmps85
  go_wp2_with fail
  refine h.mono ?_
  rintro e w1 ⟨hb, (⟨v, rfl, hv⟩ | ⟨m, rfl, hm⟩)⟩
  · have h2' := h2.below hb h2.lt
    have c20 := h2'.cell 0 _ rfl
    have g20 := h2'.frozen 0
    have c21 := h2'.cell 1 _ rfl
    have g21 := h2'.frozen 1
    have HV := Lib.hid hv
    have HB := Lib.hid hb
    clear h hv hb h2' h1 h2 c1
    go_wp2
    go_end0
    exact .inl ⟨rfl, v, w1, HB.out, HV.out, rfl⟩
  · go_wp2
    exact ⟨rfl, .inr ⟨m, rfl, hb, hm⟩⟩

set_option maxHeartbeats 1000000 in
set_option maxRecDepth 100000 in
theorem told_ratio_any (gf : Nat) (caps : Array Value) (w : World) (R : Sp → Prop) (B : Int → Prop) (hfn : IsFn gf)
    (h : ∀ W, Below w.heap.size w W → Calls Tryz.prog gf caps W (Finds_ratio R B W)) :
    Calls Tryz.prog 42 #[.func (.func gf) #[] caps] w fun e w' =>
      Below w.heap.size w w' ∧ ((∃ v : Sp, e = .returned (.tuple #[(.agg #[.int .i64 v.lo, .int .i64 v.hi]), .int .i64 0]) ∧ R v) ∨ (∃ n, e = .returned (.tuple #[(.agg #[.int .i64 0, .int .i64 0]), .int .i64 n]) ∧ B n)) := by
  have hmf : ∀ (fn : Fn) (first cap : Array Value) (w : World), (Instr.makeFunc fn first cap).run Tryz.prog w = .ok (.func fn first cap) w := fun _ _ _ _ => rfl
  have hA2 : Below w.heap.size w ((w.alloc (.cells #[.func (.func gf) #[] caps] 98)).alloc (.cells #[.int .i64 0, .int .i64 0] 47)) := ((below_boxS w _).alloc (by simp) _)
  have hF := (Blk.new w #[.func (.func gf) #[] caps] 98).alloc (.cells #[.int .i64 0, .int .i64 0] 47)
  have hS := Blk.new (w.alloc (.cells #[.func (.func gf) #[] caps] 98)) #[.int .i64 0, .int .i64 0] 47
  have hz : ((w.alloc (.cells #[.func (.func gf) #[] caps] 98)).alloc (.cells #[.int .i64 0, .int .i64 0] 47)).heap.size = w.heap.size + 2 := by simp
  rw [World.size_alloc] at hS
  go_enter Tryz.func42, Tryz.ntmps42
  go_wp2_with fail
  generalize ((w.alloc (.cells #[.func (.func gf) #[] caps] 98)).alloc (.cells #[.int .i64 0, .int .i64 0] 47)) = W2 at *
  have hE := below_boxS W2 (.cells #[.int .i64 8] 29)
  have hA3 : Below w.heap.size w (W2.alloc (.cells #[.int .i64 8] 29)) := hA2.trans (hE.mono hA2.size)
  have ht1 := told1_ratio_any gf caps w.heap.size (w.heap.size + 1) _ R B hfn (hF.alloc (.cells #[.int .i64 8] 29)) (hS.alloc (.cells #[.int .i64 8] 29)) (h _ hA3)
  have hBE := Blk.new W2 #[.int .i64 8] 29
  have hz3 : (W2.alloc (.cells #[.int .i64 8] 29)).heap.size = w.heap.size + 3 := by rw [World.size_alloc, hz]
  have hlE := hBE.lt
  have hSE := hS.alloc (.cells #[.int .i64 8] 29)
  obtain ⟨W3, hW3⟩ : ∃ W3, W2.alloc (.cells #[.int .i64 8] 29) = W3 := ⟨_, rfl⟩
  rw [hW3] at hE hA3 ht1 hBE hz3 hlE hSE
  have hpre : Calls Tryz.prog 85 #[.pointer (some ⟨w.heap.size, 0, none⟩), .pointer (some ⟨w.heap.size + 1, 0, none⟩)] (W2.alloc (.cells #[.int .i64 8] 29)) fun e w' =>
      Blk w' W2.heap.size #[.int .i64 8] 29 ∧ ((e = .returned (.tuple #[]) ∧ (∃ (v : Sp) (w2 : World), Below W3.heap.size W3 w2 ∧ R v ∧ w' = ((w2.setCell ⟨w.heap.size + 1, 0, none⟩ (.int .i64 v.lo)).setCell ⟨w.heap.size + 1, 1, none⟩ (.int .i64 v.hi)))) ∨ (∃ n, e = .panicked (failC n) ∧ (Below W3.heap.size W3 w' ∧ B n))) := by
    rw [hW3]
    refine ht1.mono ?_
    rintro e w' (⟨rfl, v, w2, hb, hv, rfl⟩ | ⟨n, rfl, hb, hn⟩)
    · exact ⟨((hBE.below hb hlE).other _ _ (by simp only; omega)).other _ _ (by simp only; omega), .inl ⟨rfl, v, w2, hb, hv, rfl⟩⟩
    · exact ⟨hBE.below hb hlE, .inr ⟨n, rfl, hb, hn⟩⟩
  refine (errorOf_any _ _ W2 isFn_told1_ratio (fun w' => ∃ (v : Sp) (w2 : World), Below W3.heap.size W3 w2 ∧ R v ∧ w' = ((w2.setCell ⟨w.heap.size + 1, 0, none⟩ (.int .i64 v.lo)).setCell ⟨w.heap.size + 1, 1, none⟩ (.int .i64 v.hi))) (fun n w' => Below W3.heap.size W3 w' ∧ B n) hpre).mono ?_
  clear hpre
  rintro e w' (⟨w3, rfl, ⟨v, w2, hb, hv, rfl⟩, rfl⟩ | ⟨n, w2, rfl, ⟨hb, hn⟩, rfl⟩)
  · have hS2 := hSE.below hb hSE.lt
    have hS3 : Blk (((((w2.setCell ⟨w.heap.size + 1, 0, none⟩ (.int .i64 v.lo)).setCell ⟨w.heap.size + 1, 1, none⟩ (.int .i64 v.hi))).setCell ⟨W2.heap.size, 0, none⟩ (.int .i64 0)).alloc (.cells #[.int .i64 0] 132)) (w.heap.size + 1) #[.int .i64 v.lo, .int .i64 v.hi] 47 := by
      have := (((hS2.set 0 (.int .i64 v.lo)).set 1 (.int .i64 v.hi)).other ⟨W2.heap.size, 0, none⟩ (.int .i64 0) (by simp only; omega)).alloc (.cells #[.int .i64 0] 132)
      simpa using this
    have hBF : Below w.heap.size w (((((w2.setCell ⟨w.heap.size + 1, 0, none⟩ (.int .i64 v.lo)).setCell ⟨w.heap.size + 1, 1, none⟩ (.int .i64 v.hi))).setCell ⟨W2.heap.size, 0, none⟩ (.int .i64 0)).alloc (.cells #[.int .i64 0] 132)) := by
      have h0 := hA3.trans (hb.mono hA3.size)
      have h1 := ((h0.setCell (p := ⟨w.heap.size + 1, 0, none⟩) (by simp) (.int .i64 v.lo)).setCell (p := ⟨w.heap.size + 1, 1, none⟩) (by simp) (.int .i64 v.hi))
      have h2 := h1.setCell (p := ⟨W2.heap.size, 0, none⟩) (by simp only; omega) (.int .i64 0)
      exact h2.alloc h2.size _
    generalize ((((w2.setCell ⟨w.heap.size + 1, 0, none⟩ (.int .i64 v.lo)).setCell ⟨w.heap.size + 1, 1, none⟩ (.int .i64 v.hi))).setCell ⟨W2.heap.size, 0, none⟩ (.int .i64 0)).alloc (.cells #[.int .i64 0] 132) = F at *
    have c20 := hS3.cell 0 _ rfl
    have g20 := hS3.frozen 0
    have c21 := hS3.cell 1 _ rfl
    have g21 := hS3.frozen 1
    have HG := Lib.hid ((hS3.set 0 (.int .i64 v.lo)).set 1 (.int .i64 v.hi))
    have HR := Lib.hid hv
    have HB := Lib.hid ((hBF.setCell (p := ⟨w.heap.size + 1, 0, none⟩) (by simp) (.int .i64 v.lo)).setCell (p := ⟨w.heap.size + 1, 1, none⟩) (by simp) (.int .i64 v.hi))
    clear hBF hS3 hS2 hb hv ht1 h hE hA3 hBE hlE hSE hF hS hA2
    go_wp2
    refine ⟨rfl, .tuple #[(.agg #[.int .i64 v.lo, .int .i64 v.hi]), .int .i64 0], ?_, HB.out, .inl ⟨v, rfl, HR.out⟩⟩
    have cF0 := HG.out.cell 0 (.int .i64 v.lo) (by simp)
    have cF1 := HG.out.cell 1 (.int .i64 v.hi) (by simp)
    simp [results, Tryz.results42, go_sem, cF0, cF1]
  · have hS2 := (hSE.below hb hSE.lt)
    have hS3 : Blk ((w2.alloc (.cells #[.int .i64 n] 132)).setCell ⟨W2.heap.size, 0, none⟩ (.int .i64 n)) (w.heap.size + 1) #[.int .i64 0, .int .i64 0] 47 :=
      (hS2.alloc (.cells #[.int .i64 n] 132)).other ⟨W2.heap.size, 0, none⟩ (.int .i64 n) (by simp only; omega)
    have hBF : Below w.heap.size w ((w2.alloc (.cells #[.int .i64 n] 132)).setCell ⟨W2.heap.size, 0, none⟩ (.int .i64 n)) := by
      have h0 := hA3.trans (hb.mono hA3.size)
      exact (h0.alloc h0.size _).setCell (p := ⟨W2.heap.size, 0, none⟩) (by simp only; omega) _
    generalize (w2.alloc (.cells #[.int .i64 n] 132)).setCell ⟨W2.heap.size, 0, none⟩ (.int .i64 n) = F at *
    have c20 := hS3.cell 0 _ rfl
    have g20 := hS3.frozen 0
    have c21 := hS3.cell 1 _ rfl
    have g21 := hS3.frozen 1
    have HB := Lib.hid ((hBF.setCell (p := ⟨w.heap.size + 1, 0, none⟩) (by simp) (.int .i64 0)).setCell (p := ⟨w.heap.size + 1, 1, none⟩) (by simp) (.int .i64 0))
    have HN := Lib.hid hn
    have HG := Lib.hid ((hS3.set 0 (.int .i64 0)).set 1 (.int .i64 0))
    clear hBF hS3 hS2 hb ht1 h hE hA3 hBE hlE hSE hF hS hA2 hn
    go_wp2
    refine ⟨rfl, .tuple #[(.agg #[.int .i64 0, .int .i64 0]), .int .i64 n], ?_, HB.out, .inr ⟨n, rfl, HN.out⟩⟩
    have cF0 := HG.out.cell 0 (.int .i64 0) (by simp)
    have cF1 := HG.out.cell 1 (.int .i64 0) (by simp)
    simp [results, Tryz.results42, go_sem, cF0, cF1]

end Go.Proofs.YtaldpalhckdcdaaGreatDoor
