/- The specification's own forms; no statement is proved here. -/
import Derived.Test.YtpkggjfaefkiiaaREls
import Derived.Test.YtpkggjfaefkiiaaForm
import Derived.Deep.OwnRows
import Derived.BigRegion
namespace Go.Proofs.Ytpkggjfaefkiiaa
open Go.RowKit Go.PlainAid
set_option linter.unusedVariables false

def noName : ByteArray := ⟨#[]⟩
def shPrp (b : Bat) (i : Nat) : Prp := ⟨noName, shareB b.oxides.length i, b.shares.getD i ⟨0, 0⟩⟩
def rfTo (b : Bat) (k : Nat) : List Prp := (List.range k).map (shPrp b)
def rformsB (b : Bat) : List Prp := rfTo b b.oxides.length ++ b.props
theorem rfTo_succ (b : Bat) (k : Nat) : rfTo b (k + 1) = rfTo b k ++ [shPrp b k] := by
  unfold rfTo
  rw [List.range_succ, List.map_append, List.map_singleton]
theorem rfTo_len (b : Bat) (k : Nat) : (rfTo b k).length = k := by simp [rfTo]

/-- two new blocks, and a draw. -/
theorem two_new (w : World) (x y : Array Value) (t u : TypeId) : Blk ((w.alloc (.cells x t)).alloc (.cells y u)).drew w.heap.size x t ∧ Blk ((w.alloc (.cells x t)).alloc (.cells y u)).drew (w.heap.size + 1) y u ∧ Below w.heap.size w ((w.alloc (.cells x t)).alloc (.cells y u)).drew := by
  refine ⟨(Blk.new w x t).alloc _, ?_, (below_two w _ _).drew⟩
  have := Blk.new (w.alloc (.cells x t)) y u
  have e : (w.alloc (.cells x t)).heap.size = w.heap.size + 1 := by simp
  rw [e] at this
  exact this

theorem made_at (n k : Nat) (h : k < n) : (madeCells #[Value.int .i64 0] n)[k]? = some (.int .i64 0) := by simp [madeCells, h, Nat.mod_one]

theorem share_at (n i k : Nat) (h : i < n) : (shareB n k)[i]? = some (if i = k then 1000 else 0) := by
  unfold shareB
  rw [List.getElem?_set]
  by_cases e : k = i
  · subst e; simp [h]
  · rw [if_neg e, if_neg (fun h => e h.symm)]; simp [h]

theorem share_blk {w : World} {M n k : Nat} {t : TypeId} (h : Blk w M ((madeCells #[Value.int .i64 0] n).setIfInBounds k (.int .i64 1000)) t) (hn : n ≤ 12) : RInts w (.slice (some ⟨M, 0, none⟩) n n) (shareB n k) := by
  have hl : (shareB n k).length = n := by simp [shareB]
  refine ⟨some ⟨M, 0, none⟩, n, by rw [hl], by omega, ⟨by omega, by omega⟩, fun i hi => ⟨M, 0, rfl, ?_⟩⟩
  have hi' : i < n := by omega
  have h1 := share_at n i k hi'
  rw [List.getElem?_eq_getElem hi, Option.some.injEq] at h1
  rw [h1]
  refine ⟨?_, by unfold I64; split <;> omega⟩
  rw [Nat.zero_add, Nat.mul_one]
  refine h.cell i _ ?_
  have hz : (madeCells #[Value.int .i64 0] n).size = n := by simp [madeCells]
  rw [Array.getElem?_setIfInBounds]
  by_cases e : k = i
  · subst e; simp [hz, hi']
  · rw [if_neg e, made_at n i hi', if_neg (fun h => e h.symm)]

/-- append of nothing, onto what has room for itself. -/
theorem wpList_append_nothing {P : Program} {w : World} {ops : Array Oper} {rest : List Oper} {o : Oper} {a : Act} {Q : Exit → Act → World → Prop} (hgd : o.guard = none) (s x : Operand) (t : TypeId)
    (ho : o.op = .call { callee := .builtin .append, args := #[s, x], argTypes := #[t, t] }) (e : TypeId) (i : TypeInfo) (ht : P.underlying t = some (.slice e)) (hi : P.info? e = some i)
    (g : Addr) (n cap m c : Nat) (A : Option Addr) (hs : a.eval s = .slice (some g) n cap) (hn : n ≤ cap) (hm : m = 0) (hx : a.eval x = .slice A m c)
    (h : wpList P ops Q rest (a.put o.dst (.slice (some g) n cap)) w) : wpList P ops Q (o :: rest) a w := by
  subst hm
  refine wpList_plain hgd fun K hK => ?_
  have hrun : (Builtin.append_ #[t, t] o.type #[.slice (some g) n cap, .slice A 0 c]).run P w = .ok (.slice (some g) n cap) w := by
    cases A <;> simp [Builtin.append_, run_underlying ht, sizeOf, typeInfo, hi, Builtin.lenOf, Builtin.firstCells, hn, storeCells, loadCells, loadCellsFrom]
  unfold Oper.wp
  simp only [execOp, ho, resolve, invoke, builtin, Sem.run_bind, Sem.run_pure, Result.andThen_ok, List.map_toArray, List.map_cons, List.map_nil, hs, hx, hrun]
  exact hK _ _ h

def RetPrps (S : Nat → Prop) (w : World) (l : List Prp) (e : Ending) (w' : World) : Prop := ∃ v, e = .returned v ∧ RPrps (vis (fun q => S q ∨ w.heap.size ≤ q) w') v l ∧ Below w.heap.size w w'

set_option maxHeartbeats 1000000 in
set_option maxRecDepth 100000 in
theorem rforms_any (S : Nat → Prop) (vb : Value) (b : Bat) (w : World) (hS : RBat (vis S w) vb b) (hk : OkB b) :
    Calls Try.prog 68 #[vb] w (RetPrps S w (rformsB b)) := by
  have h := hS.mono (vis_ext _ _)
  obtain ⟨v0, v1, v2, v3, rfl, h0, h1, h2, h3, i1, i2, i3⟩ := id h
  have h3S : RPrps (vis S w) v3 b.props := by
    obtain ⟨w0, w1, w2, w3, e, -, -, -, q, -⟩ := hS
    simp only [Value.agg.injEq, Array.mk.injEq, List.cons.injEq, and_true] at e
    obtain ⟨rfl, rfl, rfl, rfl, -⟩ := e
    exact q
  clear hS
  obtain ⟨a0, k0, rfl, -, ⟨-, l0⟩, -⟩ := h0
  obtain ⟨a1, k1, rfl, -, ⟨-, l1⟩, -⟩ := h1
  obtain ⟨a2, k2, rfl, -, ⟨-, l2⟩, hl2⟩ := h2
  obtain ⟨a3, k3, rfl, p3, ⟨p3', l3⟩, hl3⟩ := id h3
  obtain ⟨ii, hi, hz0, hz1, hz2⟩ := info_parts info_int
  obtain ⟨ip, pi, pz0, pz1, pz2⟩ := info_parts info_prp
  have hn := hk.ox
  have hpn := hk.pr
  have hsl := hk.shLen
  have hA := below_box w (.cells #[.slice a0 b.oxides.length k0, .slice a1 b.mats.length k1, .slice a2 b.shares.length k2, .slice a3 b.props.length k3, .int .i64 b.redox.lo, .int .i64 b.redox.hi, .int .i64 b.wanted] 29)
  have hB := Blk.new w #[.slice a0 b.oxides.length k0, .slice a1 b.mats.length k1, .slice a2 b.shares.length k2, .slice a3 b.props.length k3, .int .i64 b.redox.lo, .int .i64 b.redox.hi, .int .i64 b.wanted] 29
  have hsl1 : b.shares.length ≤ b.oxides.length := by omega
  have hsl2 : b.oxides.length ≤ b.shares.length := by omega
  clear hsl hk
  go_enter Try.func68, Try.ntmps68
  go_wp2
  generalize w.alloc (.cells #[.slice a0 b.oxides.length k0, .slice a1 b.mats.length k1, .slice a2 b.shares.length k2, .slice a3 b.props.length k3, .int .i64 b.redox.lo, .int .i64 b.redox.hi, .int .i64 b.wanted] 29) = W at *
  have hmk := fun w => run_make_row' (P := Try.prog) 37 3 (.int .i64 0) 8 Try.underlying37 info_int rfl .i64 .i64 b.oxides.length (by omega) (by omega) w
  go_loopw [3, 4] (fun v i wr => ∃ (k : Nat), k ≤ b.oxides.length ∧ i = .int .i64 k ∧ OwnEls 4 PrpIs (fun q => S q ∨ w.heap.size ≤ q) wr W.heap.size 70 v (rfTo b k) ∧ Below W.heap.size W wr) (fun _ i _ => b.oxides.length - (intOf i).toNat)
  case atStart => exact ⟨0, Nat.zero_le _, rfl, ownEls_nil _ _ _ _ _ _, Below.refl _ _⟩
  case round =>
    obtain ⟨k, hkk, rfl, hown, hb⟩ := hrel
    have hfinB := hA.trans (hb.mono hA.size)
    have hBr := hB.below hb hB.lt
    have f0 := hBr.cell 0 (.slice a0 b.oxides.length k0) rfl
    by_cases hlt : k < b.oxides.length
    · obtain ⟨b2, o2, rfl, g0, g1, hsi⟩ := hl2 k (by omega)
      have hbl := cell_lt g0
      simp only at g0 g1 hbl
      replace g0 := ext_of_below hfinB _ _ g0
      replace g1 := ext_of_below hfinB _ _ g1
      have f2 : wr.cell? ⟨w.heap.size, 2, none⟩ = some (.slice (some ⟨b2, o2, none⟩) b.shares.length k2) := hBr.cell 2 _ rfl
      have j1 : (0 : Int) ≤ (k : Int) := Int.natCast_nonneg _
      have j2 : (k : Int) < (b.shares.length : Int) := by omega
      clear hl2 hl3 h3 h h3S
      have hss := Lib.hid (show b.shares.getD k ⟨0, 0⟩ = b.shares[k]'(by omega) by simp [List.getD, List.getElem?_eq_getElem (show k < b.shares.length by omega)])
      generalize b.shares[k]'(by omega) = s at *
      have hz1 := hBr.lt
      have hz2 : b2 < wr.heap.size := by have := hfinB.size; omega
      go_wp2_with fail
      go_region
      focus
        obtain ⟨hM, hP, hG⟩ := two_new wr (madeCells #[Value.int .i64 0] b.oxides.length) #[.string ⟨#[]⟩, .slice (some ⟨wr.heap.size, 0, none⟩) b.oxides.length b.oxides.length, .int .i64 s.lo, .int .i64 s.hi] 3 70
        generalize ((wr.alloc (.cells (madeCells #[Value.int .i64 0] b.oxides.length) 3)).alloc (.cells #[.string ⟨#[]⟩, .slice (some ⟨wr.heap.size, 0, none⟩) b.oxides.length b.oxides.length, .int .i64 s.lo, .int .i64 s.hi] 70)).drew = w5 at hM hP hG ⊢
        have hne : wr.heap.size ≠ wr.heap.size + 1 := by omega
        have hle : wr.heap.size ≤ wr.heap.size + 1 := by omega
        generalize hA5 : wr.heap.size + 1 = A5 at hM hP hne hle ⊢
        generalize hM5 : wr.heap.size = M5 at hM hP hne ⊢
        have hle1 : wr.heap.size ≤ M5 := by omega
        have hle2 : wr.heap.size ≤ A5 := by omega
        have HG := Lib.hid hG
        clear hG hle hA5 hM5
      rotate_left
      focus
        obtain ⟨hP, hM, hG⟩ := two_new wr #[.string ⟨#[]⟩, .slice (some ⟨wr.heap.size + 1, 0, none⟩) b.oxides.length b.oxides.length, .int .i64 s.lo, .int .i64 s.hi] (madeCells #[Value.int .i64 0] b.oxides.length) 70 3
        generalize ((wr.alloc (.cells #[.string ⟨#[]⟩, .slice (some ⟨wr.heap.size + 1, 0, none⟩) b.oxides.length b.oxides.length, .int .i64 s.lo, .int .i64 s.hi] 70)).alloc (.cells (madeCells #[Value.int .i64 0] b.oxides.length) 3)).drew = w5 at hM hP hG ⊢
        have hne : wr.heap.size + 1 ≠ wr.heap.size := by omega
        have hle : wr.heap.size ≤ wr.heap.size + 1 := by omega
        generalize hM5 : wr.heap.size + 1 = M5 at hM hP hne hle ⊢
        generalize hA5 : wr.heap.size = A5 at hM hP hne ⊢
        have hle1 : wr.heap.size ≤ M5 := by omega
        have hle2 : wr.heap.size ≤ A5 := by omega
        have HG := Lib.hid hG
        clear hG hle hA5 hM5
      all_goals
        have hm0 : w5.cell? ⟨M5, k, none⟩ = some (.int .i64 0) := hM.cell k _ (made_at _ _ hlt)
        have hm1 : w5.frozen? ⟨M5, k, none⟩ = false := hM.frozen k
        have hp0 : w5.cell? ⟨A5, 0, none⟩ = some (.string ⟨#[]⟩) := hP.cell 0 _ rfl
        have hp1 : w5.cell? ⟨A5, 1, none⟩ = some (.slice (some ⟨M5, 0, none⟩) b.oxides.length b.oxides.length) := hP.cell 1 _ rfl
        have hp2 : w5.cell? ⟨A5, 2, none⟩ = some (.int .i64 s.lo) := hP.cell 2 _ rfl
        have hp3 : w5.cell? ⟨A5, 3, none⟩ = some (.int .i64 s.hi) := hP.cell 3 _ rfl
        have j3 : (k : Int) < (b.oxides.length : Int) := by omega
        clear f0 f2 g0 g1 hz1 hz2 hmk
        have HG6 := HG.out.setCell (p := ⟨M5, k, none⟩) hle1 (.int .i64 1000)
        have hM6 := hM.set k (.int .i64 1000)
        have HG7 := HG6.alloc HG6.size (.cells #[.string ⟨#[]⟩, .slice (some ⟨M5, 0, none⟩) b.oxides.length b.oxides.length, .int .i64 s.lo, .int .i64 s.hi] 70)
        have hM7 := hM6.alloc (.cells #[.string ⟨#[]⟩, .slice (some ⟨M5, 0, none⟩) b.oxides.length b.oxides.length, .int .i64 s.lo, .int .i64 s.hi] 70)
        have own7 := hown.below prpMono HG7
        have hlt4 : ∀ q, u3.ownBlock = some q → q < wr.heap.size := own_lt hown.choose_spec.2.1
        obtain ⟨us, hus, hown7, hone, hR7⟩ := own7
        have hb7 := hb.trans (HG7.mono hb.size)
        have hsz5 : wr.heap.size ≤ w5.heap.size := HG.out.size
        have hsz6 : W.heap.size ≤ w5.heap.size := Nat.le_trans hb.size hsz5
        have hlen := rfTo_len b k
        have hc7 : RInts (vis (fun q => (S q ∨ w.heap.size ≤ q) ∧ offOwn u3 q) ((w5.setCell ⟨M5, k, none⟩ (.int .i64 1000)).alloc (.cells #[.string ⟨#[]⟩, .slice (some ⟨M5, 0, none⟩) b.oxides.length b.oxides.length, .int .i64 s.lo, .int .i64 s.hi] 70))) (.slice (some ⟨M5, 0, none⟩) b.oxides.length b.oxides.length) (shareB b.oxides.length k) :=
          share_blk (t := 3) (hM7.vis ⟨Or.inr (by have := hfinB.size; omega), fun e => by have := hlt4 M5 e; omega⟩) hn.2
        have HS := Lib.hid (show shPrp b k = ⟨noName, shareB b.oxides.length k, s⟩ by rw [shPrp, hss.out])
        have hN7 : ((w5.setCell ⟨M5, k, none⟩ (.int .i64 1000)).alloc (.cells #[.string ⟨#[]⟩, .slice (some ⟨M5, 0, none⟩) b.oxides.length b.oxides.length, .int .i64 s.lo, .int .i64 s.hi] 70)).heap[w5.heap.size]? = some (.cells #[.string ⟨#[]⟩, .slice (some ⟨M5, 0, none⟩) b.oxides.length b.oxides.length, .int .i64 s.lo, .int .i64 s.hi] 70 (0, 0)) := by
          have := Blk.new (w5.setCell ⟨M5, k, none⟩ (.int .i64 1000)) #[.string ⟨#[]⟩, .slice (some ⟨M5, 0, none⟩) b.oxides.length b.oxides.length, .int .i64 s.lo, .int .i64 s.hi] 70
          unfold Blk at this
          simpa using this
        clear hown HG hM hP HG6 hM6 HG7 hM7
        go_wp2_with (at_builtin; refine wpList_append_own_at _ rfl _ _ 25 rfl W.heap.size 70 ip _ 4 56 Try.underlying25 pi pz0 pz1 pz2 rfl (by decide) _ (rfTo b k).length us.flatten rfl hown7 ⟨w5.heap.size, 0, none⟩ 1 1 [.string ⟨#[]⟩, .slice (some ⟨M5, 0, none⟩) b.oxides.length b.oxides.length, .int .i64 s.lo, .int .i64 s.hi] rfl rfl (World.news_of_block (cs := #[.string ⟨#[]⟩, .slice (some ⟨M5, 0, none⟩) b.oxides.length b.oxides.length, .int .i64 s.lo, .int .i64 s.hi]) hN7) (by simp [Value.oneCell']) (by unfold maxLen; omega) (by omega) (by simp; omega) ?_; intro v8 w8 hown8 hgrow8 _ hat8)
        have hownF := ownEls_snoc (sz := 4) (R := PrpIs) prpMono (v' := v8) (l2 := [shPrp b k]) (us2 := [[.string ⟨#[]⟩, .slice (some ⟨M5, 0, none⟩) b.oxides.length b.oxides.length, .int .i64 s.lo, .int .i64 s.hi]]) hus rfl (by simpa using hown8) hgrow8 hat8 hone
          (by
            intro u hu
            simp only [List.mem_singleton] at hu
            subst hu
            refine ⟨rfl, fun x hx => ?_⟩
            simp only [List.mem_cons, List.not_mem_nil, or_false] at hx
            rcases hx with rfl | rfl | rfl | rfl <;> rfl) hR7
          (fun i h1 h2 => by
            have : i = 0 := by simp at h1; omega
            subst this
            rw [List.getElem_singleton, List.getElem_singleton, HS.out]
            exact ⟨_, rfl, hc7, by simp [noName, ByteArray.size], hsi⟩)
        rw [← rfTo_succ] at hownF
        have hB8 := hb7.grown hgrow8 (by simp; omega) (fun q hq => (hown7.lt q hq).1)
        clear hown7 hown8 hgrow8 hat8 hone hR7 hc7 hus hN7 hb7
        go_roundw
        case rel => exact ⟨k + 1, by omega, by go_num, hownF, hB8⟩
        case measure => simp [intOf]; omega
    · have hke : k = b.oxides.length := by omega
      have hown2 : OwnEls 4 PrpIs (fun q => S q ∨ w.heap.size ≤ q) wr W.heap.size 70 u3 (rfTo b b.oxides.length) := by rw [← hke]; exact hown
      have f3 := hBr.cell 3 (.slice a3 b.props.length k3) rfl
      have hlen := rfTo_len b b.oxides.length
      have hkn : b.oxides.length ≤ k := by omega
      clear hown hke hmk hl2
      obtain ⟨us, hus, hown7, hone, hR7⟩ := id hown2
      have hlt4 : ∀ q, u3.ownBlock = some q → W.heap.size ≤ q ∧ q < wr.heap.size := fun q hq => hown7.lt q hq
      by_cases hp0 : b.props.length = 0
      · have hRes := ownEls_RPrps hown2 (fun g hg => Or.inr (by have := hA.size; omega)) (by omega)
        have hRP : Hid (RPrps (vis (fun q => S q ∨ w.heap.size ≤ q) wr) u3 (rformsB b)) := by
          unfold Hid rformsB
          rw [List.length_eq_zero_iff.1 hp0, List.append_nil]
          exact hRes
        rcases own_cells hown7 with ⟨-, h0⟩ | ⟨g, cap, rfl, hnc, -, -⟩
        · exfalso; omega
        have hRP2 : Hid (RPrps (vis (fun q => S q ∨ w.heap.size ≤ q) wr) (.slice (some ⟨g, 0, none⟩) b.oxides.length cap) (rformsB b)) := by
          have := hRP.out
          rw [hlen] at this
          exact this
        clear hown2 hown7 hone hR7 hRes hus hl3 h3 h h3S
        go_wp2_with (at_builtin; refine wpList_append_nothing rfl _ _ 25 rfl 70 ip Try.underlying25 pi ⟨g, 0, none⟩ (rfTo b b.oxides.length).length cap 0 k3 a3 rfl hnc rfl rfl ?_)
        go_ret
        exact ⟨_, rfl, hRP2.out, hfinB⟩
      · obtain ⟨b3, o3, rfl, -⟩ := hl3 0 (by omega)
        have h3v := h3S.mono (ext_vis (T := fun q => (S q ∨ w.heap.size ≤ q) ∧ offOwn u3 q) (w' := wr) (fun p x hp hx => ⟨⟨Or.inl hp, fun e => by have := hlt4 _ e; have := cell_lt hx; have := hA.size; omega⟩, ext_of_below hfinB _ _ hx⟩))
        obtain ⟨us2, hus2, hone2, hc2, hR2⟩ := prps_els h3v
        have hl2 : us2.flatten.length = b.props.length * 4 := by rw [flatten_len fun u hu => (hone2 u hu).1, hus2]
        have hcc : ∀ j x, us2.flatten[j]? = some x → wr.cell? ((⟨b3, o3, none⟩ : Addr).add j) = some x := fun j x hx => by
          rw [plain_add]
          exact vis_ext _ _ _ _ (hc2 j x hx)
        have hW1 := hb.size
        clear hown2 hl3 h3 h h3S h3v hc2
        go_wp2_with (at_builtin; refine wpList_append_own_at _ rfl _ _ 25 rfl W.heap.size 70 ip _ 4 56 Try.underlying25 pi pz0 pz1 pz2 rfl (by decide) _ (rfTo b b.oxides.length).length us.flatten rfl hown7 ⟨b3, o3, none⟩ b.props.length k3 us2.flatten rfl hl2 hcc (els_one hone2) (by unfold maxLen; omega) (by omega) hW1 ?_; intro v8 w8 hown8 hgrow8 _ hat8)
        have hownF := ownEls_snoc (sz := 4) (R := PrpIs) prpMono (v' := v8) (l2 := b.props) (us2 := us2) hus hus2 hown8 hgrow8 hat8 hone hone2 hR7 hR2
        have hB8 := hb.grown hgrow8 (by omega) (fun q hq => (hown7.lt q hq).1)
        have hRes := ownEls_RPrps hownF (fun g hg => Or.inr (by have := hA.size; omega)) (by rw [List.length_append]; omega)
        have hfin8 := hA.trans (hB8.mono hA.size)
        clear hown7 hown8 hgrow8 hat8 hone hone2 hR7 hR2 hus hus2 hl2 hcc hownF
        go_wp2
        go_ret
        exact ⟨_, rfl, hRes, hfin8⟩

end Go.Proofs.Ytpkggjfaefkiiaa
