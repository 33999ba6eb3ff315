/- The iterator over what comes of a plan, furnace by furnace, day by day: works.stints; no statement is proved here. -/
import Derived.Test.YtdffhkbncencgaaPlFol
import Derived.Test.YtdffhkbncencgaaPlKeep
namespace Go.Proofs.Ytdffhkbncencgaa
open Go.RowKit Go.PlainAid
set_option linter.unusedVariables false
set_option linter.unusedSimpArgs false

theorem flatP_len {α β : Type} (f : α → List β) (n : Nat) (hn : ∀ x, (f x).length = n) : ∀ (l : List α), (l.flatMap f).length = l.length * n
  | [] => by simp
  | x :: l => by rw [List.flatMap_cons, List.length_append, hn, flatP_len f n hn l, List.length_cons, Nat.succ_mul]; omega
theorem flatP_at {α β : Type} (f : α → List β) (n : Nat) (hn : ∀ x, (f x).length = n) : ∀ (l : List α) (i j : Nat) (hi : i < l.length) (_ : j < n), (l.flatMap f)[i * n + j]? = (f (l[i]'hi))[j]?
  | [], i, j, hi, hj => by simp at hi
  | x :: l, 0, j, hi, hj => by
    rw [List.flatMap_cons, Nat.zero_mul, Nat.zero_add, List.getElem?_append_left (by rw [hn]; exact hj)]; rfl
  | x :: l, i + 1, j, hi, hj => by
    rw [List.flatMap_cons, Nat.succ_mul, List.getElem?_append_right (by rw [hn]; omega), hn, show i * n + n + j - n = i * n + j by omega, flatP_at f n hn l i j (by simpa using hi) hj]; rfl
/-- what comes of a plan at a furnace on a day. -/
structure Stn where
  ov : Nat
  day : Nat
  oc : Oc
def ocAt (s : Sn) (T : List (List Int)) (day : Int) (o : Ovn) : Oc := folS s o.ms (dayC s T (day - 1) o) (dayC s T day o)
def stOne (s : Sn) (T : List (List Int)) (k day : Nat) : Stn := ⟨k, day, ocAt s T day (ovAt s k)⟩
def stX (s : Sn) (T : List (List Int)) (k : Nat) : List Stn := (List.range s.days.toNat).map (stOne s T k)
def stL (s : Sn) (T : List (List Int)) : List Stn := (List.range s.ovens.length).flatMap (stX s T)
def stC (x : Stn) : Array Value := #[.int .i64 x.ov, .int .i64 x.day, .int .i64 (g x.oc.sh 0), .int .i64 (g x.oc.sh 1), .int .i64 (g x.oc.sh 2), .int .i64 (g x.oc.sh 3), .int .i64 (g x.oc.sh 4), .int .i64 (g x.oc.sh 5), .int .i64 x.oc.cost, .int .i64 (g x.oc.made 0), .int .i64 (g x.oc.made 1), .int .i64 (g x.oc.made 2), .int .i64 (g x.oc.made 3), .int .i64 (g x.oc.made 4), .int .i64 (g x.oc.made 5)]
def encS (l : List Stn) : List (Array Value) := l.map fun x => #[.agg (stC x)]
theorem encS_len (l : List Stn) : (encS l).length = l.length := by simp [encS]
theorem stL_len (s : Sn) (T : List (List Int)) : (stL s T).length = s.ovens.length * s.days.toNat := by
  unfold stL; rw [flatP_len _ s.days.toNat (fun x => by simp [stX])]; simp
theorem encS_at (s : Sn) (T : List (List Int)) {k day : Nat} (hk : k < s.ovens.length) (hd : day < s.days.toNat) : (encS (stL s T))[k * s.days.toNat + day]? = some #[.agg (stC (stOne s T k day))] := by
  unfold encS stL
  rw [List.getElem?_map, flatP_at _ s.days.toNat (fun x => by simp [stX]) _ k day (by simpa using hk) hd]
  simp [stX, List.getElem?_range hd]
/-- a plan's crews are crews. -/
theorem planC_bd {s : Sn} (ok : OkS s) {T : List (List Int)} (pk : PlOk s T) {day : Int} (h1 : -1 ≤ day) (h2 : day < s.days) {m : Int} (hm : 0 ≤ m ∧ m < s.mks.length) : -1 ≤ planC s T day m ∧ planC s T day m < s.arts.length := by
  obtain ⟨n, rfl⟩ := Int.eq_ofNat_of_zero_le hm.1
  have hn : n < s.mks.length := by omega
  unfold planC
  simp only [Int.toNat_natCast]
  split
  · rw [List.getElem?_eq_getElem hn]
    exact (ok.mkr _ (List.getElem_mem hn)).2.2.2
  · have hnT : n < T.length := by rw [pk.len]; exact hn
    rw [List.getElem?_eq_getElem hnT, Option.getD_some]
    have hr := pk.row _ (List.getElem_mem hnT)
    have hdl : day.toNat < (T[n]).length := by omega
    rw [List.getD_eq_getElem?_getD, List.getElem?_eq_getElem hdl, Option.getD_some]
    exact hr.2 _ (List.getElem_mem hdl)
theorem crewS_ok {s : Sn} (ok : OkS s) {T : List (List Int)} (pk : PlOk s T) {day : Int} (h1 : -1 ≤ day) (h2 : day < s.days) : ∀ (ms : List Int) (c : List Int), MsOk s ms → CrOk s c → CrOk s (crewS s T day ms c)
  | [], c, _, hc => hc
  | m :: ms, c, hm, hc => by
    have hm0 := hm m (List.mem_cons_self ..)
    have h3 := planC_bd ok pk h1 h2 hm0
    have := crewS_ok ok pk h1 h2 ms (c.set m.toNat (planC s T day m)) (fun q hq => hm q (List.mem_cons_of_mem _ hq)) (hc.set (by have := ok.nm; omega) h3)
    unfold crewS at this ⊢
    rw [List.foldl_cons]
    exact this

/-- only what ends normally. -/
def NormQ (Q : Exit → Act → World → Prop) : Exit → Act → World → Prop := fun e a V => e = .normal ∧ Q e a V
theorem reg_normQ {F : Fence} {n : Nat} {P : Program} {Q : Exit → Act → World → Prop} {c : Code} {a : Act} {w : World} (h : c.wpIn F n P (NormQ Q) a w) : c.wpIn F n P Q a w := wpIn_mono h (fun e a V hh => hh.2)

set_option maxRecDepth 100000 in
theorem stints_any (s : Sn) (d : SA) (v7 : Value) (ap : Option Addr) (np cp : Nat) (w : World) : Calls Try.prog 43 #[.agg #[.int .i64 s.days, .slice d.a1 s.arts.length d.c1, .slice d.a2 s.ovens.length d.c2, .slice d.a3 s.mks.length d.c3, .slice d.a4 s.jobs.length d.c4, .slice d.a5 s.cols.length d.c5, .slice d.a6 s.ods.length d.c6, v7], .slice ap np cp] w fun e w' =>
    e = .returned (.func (.func 68) #[] #[.pointer (some ⟨w.heap.size, 0, none⟩), .pointer (some ⟨w.heap.size + 1, 0, none⟩)]) ∧ w' = (w.alloc (.cells #[.int .i64 s.days, .slice d.a1 s.arts.length d.c1, .slice d.a2 s.ovens.length d.c2, .slice d.a3 s.mks.length d.c3, .slice d.a4 s.jobs.length d.c4, .slice d.a5 s.cols.length d.c5, .slice d.a6 s.ods.length d.c6, v7] 63)).alloc (.cells #[.slice ap np cp] 29) := by
  have hmf : ∀ (fn : Fn) (first cap : Array Value) (w : World), (Instr.makeFunc fn first cap).run Try.prog w = .ok (.func fn first cap) w := fun _ _ _ _ => rfl
  go_enter Try.func43, Try.ntmps43
  go_wp2
  go_ret
  exact ⟨rfl, rfl⟩

attribute [local go_sem] Oper.semAt_some
attribute [local go_sem ↓] ex_ldo
set_option maxHeartbeats 16000000 in
set_option maxRecDepth 100000 in
theorem stintsIt_any (S : Nat → Prop) (n : Nat) (s : Sn) (d : SA) (v7 vt : Value) (T : List (List Int)) (B1 B2 : Nat) (w : World) (hs : SnD (vis (fun k => ¬ S k) w) s d) (ok : OkS s) (ho : ROvns (vis (fun k => ¬ S k) w) v7 (ovL s)) (hT : RRows (vis (fun k => ¬ S k) w) vt T) (pk : PlOk s T)
    (n1 : ¬ S B1) (n2 : ¬ S B2) (hS : ∀ k, S k → k < w.heap.size) (h1 : Blk w B1 #[.int .i64 s.days, .slice d.a1 s.arts.length d.c1, .slice d.a2 s.ovens.length d.c2, .slice d.a3 s.mks.length d.c3, .slice d.a4 s.jobs.length d.c4, .slice d.a5 s.cols.length d.c5, .slice d.a6 s.ods.length d.c6, v7] 63) (h2 : Blk w B2 #[vt] 29) :
    SeqC (fun _ => False) S Fence.wide n Try.prog 68 #[.pointer (some ⟨B1, 0, none⟩), .pointer (some ⟨B2, 0, none⟩)] (encS (stL s T)) w := by
  intro lp J R W hW hJ hJT hY h0 hE
  rw [encS_len, stL_len] at hE
  have hWs := hW.size
  have hdb := ok.days
  have hov := ovL_ok ok
  have HAT : Hid (∀ k (hk : k < (ovL s).length) day, day < s.days.toNat → (encS (stL s T))[k * s.days.toNat + day]? = some #[.agg #[.int .i64 (k : Int), .int .i64 (day : Int), .int .i64 (g (ocAt s T (day : Int) ((ovL s)[k])).sh 0), .int .i64 (g (ocAt s T (day : Int) ((ovL s)[k])).sh 1), .int .i64 (g (ocAt s T (day : Int) ((ovL s)[k])).sh 2), .int .i64 (g (ocAt s T (day : Int) ((ovL s)[k])).sh 3), .int .i64 (g (ocAt s T (day : Int) ((ovL s)[k])).sh 4), .int .i64 (g (ocAt s T (day : Int) ((ovL s)[k])).sh 5), .int .i64 (ocAt s T (day : Int) ((ovL s)[k])).cost, .int .i64 (g (ocAt s T (day : Int) ((ovL s)[k])).made 0), .int .i64 (g (ocAt s T (day : Int) ((ovL s)[k])).made 1), .int .i64 (g (ocAt s T (day : Int) ((ovL s)[k])).made 2), .int .i64 (g (ocAt s T (day : Int) ((ovL s)[k])).made 3), .int .i64 (g (ocAt s T (day : Int) ((ovL s)[k])).made 4), .int .i64 (g (ocAt s T (day : Int) ((ovL s)[k])).made 5)]]) := Lib.hid (fun k hk day hd => by
    rw [encS_at s T (by rw [← ovL_len]; exact hk) hd, ovL_at hk]; rfl)
  have HOV := Lib.hid hov
  have hLL := ovL_len s
  rw [← hLL] at hE
  clear hov hLL
  generalize hD : s.days.toNat = Dn at *
  have hDd : s.days = (Dn : Int) := by omega
  have HDd := Lib.hid hDd
  have hD14 : Dn ≤ 14 := by omega
  clear hD hDd hdb
  generalize ovL s = L at *
  obtain ⟨a7, c7, hv7, -, ⟨-, hm7⟩, hl7⟩ := ho
  have HL7 := Lib.hid hl7
  have HV7 := Lib.hid hv7
  clear hl7 hv7
  have b7 : W.cell? ⟨B1, 7, none⟩ = some (.slice a7 L.length c7) := by have := (hW.blk h1 n1 h1.lt).cell 7 _ rfl; rw [HV7.out] at this; exact this
  have l1 := h1.lt
  have l2 := h2.lt
  refine callsIn_of_wp Try.func68 rfl trivial ?_ rfl
  simp only [Try.ntmps68, List.size_toArray, List.length_cons, List.length_nil, Nat.reduceAdd, Nat.reduceSub, Array.replicate_succ, Array.replicate_zero, List.push_toArray, List.append_toArray, List.nil_append, List.cons_append]
  gi_wp2
  gi_loopw [11] (fun i wr => ∃ (k : Nat), k ≤ L.length ∧ i = .int .i64 k ∧ J (k * Dn) wr ∧ BelS S w.heap.size w wr) (fun i _ => L.length - (intOf i).toNat)
  case atStart => exact ⟨0, Nat.zero_le _, rfl, by rw [Nat.zero_mul]; exact h0, hW⟩
  case round =>
    obtain ⟨k, hk, rfl, hJk, hB⟩ := hrel
    clear b7
    by_cases hlt : k < L.length
    · obtain ⟨b1, o1, he1, v1, v2, ⟨q0, q1, q2, q3⟩, hri, hrc⟩ := HL7.out k hlt
      obtain ⟨hms, hl6⟩ := HOV.out _ (List.getElem_mem hlt)
      have HAK : Hid (∀ day, day < Dn → (encS (stL s T))[k * Dn + day]? = some #[.agg #[.int .i64 (k : Int), .int .i64 (day : Int), .int .i64 (g (ocAt s T (day : Int) (L[k])).sh 0), .int .i64 (g (ocAt s T (day : Int) (L[k])).sh 1), .int .i64 (g (ocAt s T (day : Int) (L[k])).sh 2), .int .i64 (g (ocAt s T (day : Int) (L[k])).sh 3), .int .i64 (g (ocAt s T (day : Int) (L[k])).sh 4), .int .i64 (g (ocAt s T (day : Int) (L[k])).sh 5), .int .i64 (ocAt s T (day : Int) (L[k])).cost, .int .i64 (g (ocAt s T (day : Int) (L[k])).made 0), .int .i64 (g (ocAt s T (day : Int) (L[k])).made 1), .int .i64 (g (ocAt s T (day : Int) (L[k])).made 2), .int .i64 (g (ocAt s T (day : Int) (L[k])).made 3), .int .i64 (g (ocAt s T (day : Int) (L[k])).made 4), .int .i64 (g (ocAt s T (day : Int) (L[k])).made 5)]]) := Lib.hid (HAT.out k hlt)
      obtain ⟨am, cm, rfl⟩ := hri.shape
      obtain ⟨a2, c2, rfl⟩ := hrc.shape
      have x0 := hB.ext _ _ q0
      have x1 := hB.ext _ _ q1
      have x2 := hB.ext _ _ q2
      have x3 := hB.ext _ _ q3
      simp only at x0 x1 x2 x3
      rw [he1]
      have j1 : (0 : Int) ≤ (k : Int) := Int.natCast_nonneg _
      have j2 : (k : Int) < (L.length : Int) := by omega
      clear q0 q1 q2 q3 hrc he1
      generalize L[k] = o at *
      have hX := Blk.new wr #[.int .i64 o.x.lo, .int .i64 o.x.hi, .slice am o.ms.length cm, .slice a2 o.sh.length c2] 69
      have hbx := below_box wr (.cells #[.int .i64 o.x.lo, .int .i64 o.x.hi, .slice am o.ms.length cm, .slice a2 o.sh.length c2] 69)
      have hJx : J (k * Dn) (wr.alloc (.cells #[.int .i64 o.x.lo, .int .i64 o.x.hi, .slice am o.ms.length cm, .slice a2 o.sh.length c2] 69)) := ownf_below hJ hJk hbx
      have hBx : BelS S w.heap.size w (wr.alloc (.cells #[.int .i64 o.x.lo, .int .i64 o.x.hi, .slice am o.ms.length cm, .slice a2 o.sh.length c2] 69)) := hB.trans (BelS.of_below (hbx.mono hB.size))
      have hNS : ¬ S wr.heap.size := fun h => by have := hS _ h; have := hB.size; omega
      have HKP : Hid (k * Dn + Dn = (k + 1) * Dn) := Lib.hid (by rw [Nat.succ_mul])
      clear hJk hbx
      generalize k * Dn = P at *
      have c0 := (hBx.blk h1 n1 l1).cell 0 _ rfl
      rw [HDd.out] at c0
      gi_wp2_with fail
      generalize hzx : wr.heap.size = N at *
      replace hzx := Lib.hid hzx
      generalize wr.alloc (.cells #[.int .i64 o.x.lo, .int .i64 o.x.hi, .slice am o.ms.length cm, .slice a2 o.sh.length c2] 69) = wx at *
      clear x0 x1 x2 x3 c0
      gi_loopw [19] (fun i wr => ∃ (day : Nat), day ≤ Dn ∧ i = .int .i64 day ∧ J (P + day) wr ∧ BelS S w.heap.size w wr ∧ Blk wr N #[.int .i64 o.x.lo, .int .i64 o.x.hi, .slice am o.ms.length cm, .slice a2 o.sh.length c2] 69) (fun i _ => Dn - (intOf i).toNat)
      case atStart => exact ⟨0, Nat.zero_le _, rfl, hJx, hBx, hX⟩
      case round =>
        obtain ⟨day, hday, rfl, hJy, hBy, hNy⟩ := hrel
        clear hBx hJx hX
        by_cases hlt2 : day < Dn
        · have HDX := Lib.hid (HAK.out day hlt2)
          have hd9 : (day : Int) < s.days := by have := HDd.out; omega
          have hcb : CrOk s (crewS s T ((day : Int) - 1) o.ms idleC) := crewS_ok ok pk (by omega) (by omega) _ _ hms (CrOk.idle s)
          have hcn : CrOk s (crewS s T (day : Int) o.ms idleC) := crewS_ok ok pk (by omega) (by omega) _ _ hms (CrOk.idle s)
          unfold ocAt at HDX
          obtain ⟨Wy, hWy⟩ : ∃ V, V = wr.drew := ⟨_, rfl⟩
          have D00 : Below wr.heap.size wr Wy := by rw [hWy]; exact (Below.refl _ _).drew
          replace hJy := ownf_below hJ hJy D00
          replace hBy := hBy.trans (BelS.of_below (D00.mono hBy.size))
          replace hNy := hNy.below D00 hNy.lt
          have D0 := Lib.hid (Below.refl Wy.heap.size Wy)
          have HEX : Hid (∀ V, Below Wy.heap.size Wy V → Ext (vis (fun k => ¬ S k) w) V) := Lib.hid (fun V hV => (hBy.trans (BelS.of_below (hV.mono hBy.size))).ext)
          have HSV : Hid (∀ V, Below Wy.heap.size Wy V → (fun w' : World => (w'.cell? ⟨N, 0, none⟩ = some (.int .i64 o.x.lo) ∧ w'.cell? ⟨N, 1, none⟩ = some (.int .i64 o.x.hi) ∧ w'.cell? ⟨N, 2, none⟩ = some (.slice am o.ms.length cm) ∧ w'.cell? ⟨N, 3, none⟩ = some (.slice a2 o.sh.length c2)) ∧ w'.rangeAt B1 0 (#[.int .i64 s.days, .slice d.a1 s.arts.length d.c1, .slice d.a2 s.ovens.length d.c2, .slice d.a3 s.mks.length d.c3, .slice d.a4 s.jobs.length d.c4, .slice d.a5 s.cols.length d.c5, .slice d.a6 s.ods.length d.c6, v7]).toList ∧ w'.cell? ⟨B2, 0, none⟩ = some vt) V) := Lib.hid (fun V hV => ⟨⟨(hNy.below hV hNy.lt).cell 0 _ rfl, (hNy.below hV hNy.lt).cell 1 _ rfl, (hNy.below hV hNy.lt).cell 2 _ rfl, (hNy.below hV hNy.lt).cell 3 _ rfl⟩, ((hBy.trans (BelS.of_below (hV.mono hBy.size))).blk h1 n1 l1).range, ((hBy.trans (BelS.of_below (hV.mono hBy.size))).blk h2 n2 l2).cell 0 _ rfl⟩)
          gi_wp2_with fail
          refine reg_normQ ?_
          refine wpIn_region_till (fun w' : World => (w'.cell? ⟨N, 0, none⟩ = some (.int .i64 o.x.lo) ∧ w'.cell? ⟨N, 1, none⟩ = some (.int .i64 o.x.hi) ∧ w'.cell? ⟨N, 2, none⟩ = some (.slice am o.ms.length cm) ∧ w'.cell? ⟨N, 3, none⟩ = some (.slice a2 o.sh.length c2)) ∧ w'.rangeAt B1 0 (#[.int .i64 s.days, .slice d.a1 s.arts.length d.c1, .slice d.a2 s.ovens.length d.c2, .slice d.a3 s.mks.length d.c3, .slice d.a4 s.jobs.length d.c4, .slice d.a5 s.cols.length d.c5, .slice d.a6 s.ods.length d.c6, v7]).toList ∧ w'.cell? ⟨B2, 0, none⟩ = some vt) 15 (by kernel_rfl) (by kernel_rfl) (fun ⟨_, _, h⟩ => by cases h.1) (by rw [← hWy]; exact HSV.out _ D0.out) (fun hHeld => ?_)
          rw [← hWy] at hHeld ⊢
          clear hWy D00
          refine Till.take 0 (some 22) (v := .agg #[.int .i64 s.days, .slice d.a1 s.arts.length d.c1, .slice d.a2 s.ovens.length d.c2, .slice d.a3 s.mks.length d.c3, .slice d.a4 s.jobs.length d.c4, .slice d.a5 s.cols.length d.c5, .slice d.a6 s.ods.length d.c6, v7]) rfl rfl (by kernel_rfl) (by kernel_rfl) (by kernel_rfl) (by kernel_rfl) (fun _ _ _ h => h) (yieldsIf_load_mid rfl 63 (Operand.tmp 1) rfl B1 0 rfl (#[.int .i64 s.days, .slice d.a1 s.arts.length d.c1, .slice d.a2 s.ovens.length d.c2, .slice d.a3 s.mks.length d.c3, .slice d.a4 s.jobs.length d.c4, .slice d.a5 s.cols.length d.c5, .slice d.a6 s.ods.length d.c6, v7]).toList _ (fun _ h => h.2.1) Try.underlying63 rfl (by rw [sz_works]; rfl)) (by assumption) ?_
          try simp only [Act.put, List.setIfInBounds_toArray, List.set_cons_zero, List.set_cons_succ]
          refine Till.take 1 (some 23) (v := ?_) rfl rfl (by kernel_rfl) (by kernel_rfl) (by kernel_rfl) (by kernel_rfl) (fun _ _ _ h => h) (Or.inl ⟨by rfl, ?_⟩) (by assumption) ?_
          rotate_left
          · (intro w hSw; (try dsimp only at hSw); go_simp; try with_reducible rfl)
          try simp only [Act.put, List.setIfInBounds_toArray, List.set_cons_zero, List.set_cons_succ]
          refine Till.take 2 (some 24) (v := .agg #[.int .i64 s.days, .slice d.a1 s.arts.length d.c1, .slice d.a2 s.ovens.length d.c2, .slice d.a3 s.mks.length d.c3, .slice d.a4 s.jobs.length d.c4, .slice d.a5 s.cols.length d.c5, .slice d.a6 s.ods.length d.c6, v7]) rfl rfl (by kernel_rfl) (by kernel_rfl) (by kernel_rfl) (by kernel_rfl) (fun _ _ _ h => h) (yieldsIf_load_mid rfl 63 (Operand.tmp 1) rfl B1 0 rfl (#[.int .i64 s.days, .slice d.a1 s.arts.length d.c1, .slice d.a2 s.ovens.length d.c2, .slice d.a3 s.mks.length d.c3, .slice d.a4 s.jobs.length d.c4, .slice d.a5 s.cols.length d.c5, .slice d.a6 s.ods.length d.c6, v7]).toList _ (fun _ h => h.2.1) Try.underlying63 rfl (by rw [sz_works]; rfl)) (by assumption) ?_
          try simp only [Act.put, List.setIfInBounds_toArray, List.set_cons_zero, List.set_cons_succ]
          refine Till.take 3 (some 25) (v := ?_) rfl rfl (by kernel_rfl) (by kernel_rfl) (by kernel_rfl) (by kernel_rfl) (fun _ _ _ h => h) (Or.inl ⟨by rfl, ?_⟩) (by assumption) ?_
          rotate_left
          · (intro w hSw; (try dsimp only at hSw); go_simp; try with_reducible rfl)
          try simp only [Act.put, List.setIfInBounds_toArray, List.set_cons_zero, List.set_cons_succ]
          refine Till.take 4 (some 26) (v := ?_) rfl rfl (by kernel_rfl) (by kernel_rfl) (by kernel_rfl) (by kernel_rfl) (fun _ _ _ h => h) (Or.inl ⟨by rfl, ?_⟩) (by assumption) ?_
          rotate_left
          · (intro w hSw; (try dsimp only at hSw); go_simp; try with_reducible rfl)
          try simp only [Act.put, List.setIfInBounds_toArray, List.set_cons_zero, List.set_cons_succ]
          refine Till.take 5 (some 27) (v := ?_) rfl rfl (by kernel_rfl) (by kernel_rfl) (by kernel_rfl) (by kernel_rfl) (fun _ _ _ h => h) (Or.inl ⟨by rfl, ?_⟩) (by assumption) ?_
          rotate_left
          · (intro w hSw; (try dsimp only at hSw); go_simp; try with_reducible rfl)
          try simp only [Act.put, List.setIfInBounds_toArray, List.set_cons_zero, List.set_cons_succ]
          refine Till.take 6 (some 28) (v := ?_) rfl rfl (by kernel_rfl) (by kernel_rfl) (by kernel_rfl) (by kernel_rfl) (fun _ _ _ h => h) (Or.inl ⟨by rfl, ?_⟩) (by assumption) ?_
          rotate_left
          · (intro w hSw; (try dsimp only at hSw); go_simp; try with_reducible rfl)
          try simp only [Act.put, List.setIfInBounds_toArray, List.set_cons_zero, List.set_cons_succ]
          have hw : IntKind.i64.wrap ((day : Int) - 1) = (day : Int) - 1 := IntWalk.i64_in _ (by omega)
          rw [hw]
          clear hw
          refine Till.take 8 (some 30) (v := .agg #[.int .i64 s.days, .slice d.a1 s.arts.length d.c1, .slice d.a2 s.ovens.length d.c2, .slice d.a3 s.mks.length d.c3, .slice d.a4 s.jobs.length d.c4, .slice d.a5 s.cols.length d.c5, .slice d.a6 s.ods.length d.c6, v7]) rfl rfl (by kernel_rfl) (by kernel_rfl) (by kernel_rfl) (by kernel_rfl) (fun _ _ _ h => h) (yieldsIf_load_mid rfl 63 (Operand.tmp 1) rfl B1 0 rfl (#[.int .i64 s.days, .slice d.a1 s.arts.length d.c1, .slice d.a2 s.ovens.length d.c2, .slice d.a3 s.mks.length d.c3, .slice d.a4 s.jobs.length d.c4, .slice d.a5 s.cols.length d.c5, .slice d.a6 s.ods.length d.c6, v7]).toList _ (fun _ h => h.2.1) Try.underlying63 rfl (by rw [sz_works]; rfl)) (by assumption) ?_
          try simp only [Act.put, List.setIfInBounds_toArray, List.set_cons_zero, List.set_cons_succ]
          refine Till.take 9 (some 31) (v := ?_) rfl rfl (by kernel_rfl) (by kernel_rfl) (by kernel_rfl) (by kernel_rfl) (fun _ _ _ h => h) (Or.inl ⟨by rfl, ?_⟩) (by assumption) ?_
          rotate_left
          · (intro w hSw; (try dsimp only at hSw); go_simp; try with_reducible rfl)
          try simp only [Act.put, List.setIfInBounds_toArray, List.set_cons_zero, List.set_cons_succ]
          refine Till.take 10 (some 32) (v := ?_) rfl rfl (by kernel_rfl) (by kernel_rfl) (by kernel_rfl) (by kernel_rfl) (fun _ _ _ h => h) (Or.inl ⟨by rfl, ?_⟩) (by assumption) ?_
          rotate_left
          · (intro w hSw; (try dsimp only at hSw); go_simp; try with_reducible rfl)
          try simp only [Act.put, List.setIfInBounds_toArray, List.set_cons_zero, List.set_cons_succ]
          refine Till.take 11 (some 33) (v := ?_) rfl rfl (by kernel_rfl) (by kernel_rfl) (by kernel_rfl) (by kernel_rfl) (fun _ _ _ h => h) (Or.inl ⟨by rfl, ?_⟩) (by assumption) ?_
          rotate_left
          · (intro w hSw; (try dsimp only at hSw); go_simp; try with_reducible rfl)
          try simp only [Act.put, List.setIfInBounds_toArray, List.set_cons_zero, List.set_cons_succ]
          refine Till.two 7 14 rfl rfl (by kernel_rfl) (fun K hK => ?_) (fun K hK => ?_)
          · go_simp
            go_at_call 62
            have hE1 := HEX.out _ D0.out
            refine (crew_any s d v7 o.x.lo o.x.hi am cm o.ms _ vt T ((day : Int) - 1) Wy (hs.mono hE1) ok (hri.mono hE1) hms hl6 (hT.mono hE1) pk.len (fun r hr => (pk.row r hr).1) (by omega) (by omega)).mono ?_
            rintro e V1 ⟨rfl, hb1⟩
            have D1 := Lib.hid (D0.out.trans (hb1.mono D0.out.size))
            have hh1 := HSV.out _ D1.out
            refine hK.out _ _ (fun _ => hh1) (fun hHeld1 => ?_)
            clear hK K hb1 hE1
            try simp only [Act.put, List.setIfInBounds_toArray, List.set_cons_zero, List.set_cons_succ]
            refine Till.two 12 14 rfl rfl (by kernel_rfl) (fun K hK => ?_) (fun K hK => ?_)
            · go_simp
              go_at_call 62
              have hE2 := HEX.out _ D1.out
              refine (crew_any s d v7 o.x.lo o.x.hi am cm o.ms _ vt T (day : Int) V1 (hs.mono hE2) ok (hri.mono hE2) hms hl6 (hT.mono hE2) pk.len (fun r hr => (pk.row r hr).1) (by omega) (by omega)).mono ?_
              rintro e V2 ⟨rfl, hb2⟩
              have D2 := Lib.hid (D1.out.trans (hb2.mono D1.out.size))
              have hh2 := HSV.out _ D2.out
              refine hK.out _ _ (fun _ => hh2) (fun hHeld2 => ?_)
              clear hK K hb2 hE2
              try simp only [Act.put, List.setIfInBounds_toArray, List.set_cons_zero, List.set_cons_succ]
              refine Till.two 13 14 rfl rfl (by kernel_rfl) (fun K hK => ?_) (fun K hK => ?_)
              · go_simp
                go_at_call 69
                have hE3 := HEX.out _ D2.out
                refine (follow_any s d v7 o.x.lo o.x.hi am cm o.ms _ _ _ V2 (hs.mono hE3) ok (hri.mono hE3) hms hl6 hcb hcn).mono ?_
                rintro e V3 ⟨rfl, hb3⟩
                have D3 := Lib.hid (D2.out.trans (hb3.mono D2.out.size))
                have hh3 := HSV.out _ D3.out
                refine hK.out _ _ (fun _ => hh3) (fun hHeld3 => ?_)
                clear hK K hb3 hE3
                try simp only [Act.put, List.setIfInBounds_toArray, List.set_cons_zero, List.set_cons_succ]
                refine Till.one 14 rfl (by kernel_rfl) (fun K hK => ?_)
                go_simp
                have D4a := Lib.hid (D3.out.trans ((below_box V3 (.cells #[.int .i64 0, .int .i64 0, .int .i64 0, .int .i64 0, .int .i64 0, .int .i64 0, .int .i64 0, .int .i64 0, .int .i64 0, .int .i64 0, .int .i64 0, .int .i64 0, .int .i64 0] 82)).mono D3.out.size))
                have hh4a := HSV.out _ D4a.out
                have K4h := Blk.new V3 #[.int .i64 0, .int .i64 0, .int .i64 0, .int .i64 0, .int .i64 0, .int .i64 0, .int .i64 0, .int .i64 0, .int .i64 0, .int .i64 0, .int .i64 0, .int .i64 0, .int .i64 0] 82
                refine hK.out _ _ (fun _ => hh4a) (fun hHeld4a => ?_)
                clear hK K
                try simp only [Act.put, List.setIfInBounds_toArray, List.set_cons_zero, List.set_cons_succ]
                generalize V3.alloc (.cells #[.int .i64 0, .int .i64 0, .int .i64 0, .int .i64 0, .int .i64 0, .int .i64 0, .int .i64 0, .int .i64 0, .int .i64 0, .int .i64 0, .int .i64 0, .int .i64 0, .int .i64 0] 82) = V4a at *
                obtain ⟨K4, hK4⟩ : ∃ q, q = V3.heap.size := ⟨_, rfl⟩
                have K4z : Wy.heap.size ≤ K4 := by rw [hK4]; exact D3.out.size
                rw [← hK4] at K4h ⊢
                clear hK4
                refine Till.one 15 rfl (by kernel_rfl) (fun K hK => ?_)
                rw [if_pos (by rfl)]
                refine wp_store_mid 82 (Operand.tmp 7) (Operand.tmp 35) rfl K4 0 (ocV (folS s o.ms (crewS s T ((day : Int) - 1) o.ms idleC) (crewS s T (day : Int) o.ms idleC))) rfl rfl (there_blk K4h rfl) (by rw [sz_out]; rfl) (ocC_one _ _ _) ?_
                refine hK.out _ _ (fun h => absurd rfl h) (fun _ => ?_)
                clear hK K
                try simp only [Act.put, List.setIfInBounds_toArray, List.set_cons_zero, List.set_cons_succ]
                refine Till.done (by kernel_rfl) ?_ _
                have HVF := Lib.hid (putC_below D4a.out (show Wy.heap.size ≤ K4 from K4z) (ocV (folS s o.ms (crewS s T ((day : Int) - 1) o.ms idleC) (crewS s T (day : Int) o.ms idleC))))
                have HKF : Blk (putC V4a K4 (ocV (folS s o.ms (crewS s T ((day : Int) - 1) o.ms idleC) (crewS s T (day : Int) o.ms idleC)))) K4 (ocV (folS s o.ms (crewS s T ((day : Int) - 1) o.ms idleC) (crewS s T (day : Int) o.ms idleC))) 82 := blk_sto K4h rfl
                rw [show World.setCells V4a K4 0 (ocV (folS s o.ms (crewS s T ((day : Int) - 1) o.ms idleC) (crewS s T (day : Int) o.ms idleC))).toList = putC V4a K4 (ocV (folS s o.ms (crewS s T ((day : Int) - 1) o.ms idleC) (crewS s T (day : Int) o.ms idleC))) from rfl]
                generalize putC V4a K4 (ocV (folS s o.ms (crewS s T ((day : Int) - 1) o.ms idleC) (crewS s T (day : Int) o.ms idleC))) = VF at *
                have HDX2 := HDX.out
                simp only [dayC] at HDX2
                generalize folS s o.ms (crewS s T ((day : Int) - 1) o.ms idleC) (crewS s T (day : Int) o.ms idleC) = oc at *
                have g5 : Blk VF K4 #[.int .i64 (g oc.sh 0), .int .i64 (g oc.sh 1), .int .i64 (g oc.sh 2), .int .i64 (g oc.sh 3), .int .i64 (g oc.sh 4), .int .i64 (g oc.sh 5), .int .i64 oc.cost, .int .i64 (g oc.made 0), .int .i64 (g oc.made 1), .int .i64 (g oc.made 2), .int .i64 (g oc.made 3), .int .i64 (g oc.made 4), .int .i64 (g oc.made 5)] 82 := HKF
                have hld := ld_blk (P := Try.prog) g5 Try.underlying82 rfl (by rw [sz_out]; rfl)
                have hJ5 := ownf_below hJ hJy HVF.out
                have hN5 := hNy.below HVF.out hNy.lt
                have hB5 := hBy.trans (BelS.of_below (HVF.out.mono hBy.size))
                obtain ⟨fn, tmps, assign, body, hy, hR⟩ := hY _ _ VF HDX2 (fun _ h => h.elim) hJ5
                clear hJ5 HVF HKF g5 HSV HEX HDX2 HDX hHeld hh1 hHeld1 D1 hh2 hHeld2 D2 hh3 hHeld3 D3 hh4a hHeld4a D4a K4h K4z
                clear hcb hcn h0 hri HAK
                refine ⟨rfl, ?_⟩
                simp only [List.getElem_toArray, List.getElem_cons_succ, List.getElem_cons_zero]
                gi_wp2
                refine ⟨(fun hd => by simp [Fence.wide] at hd), hR.mono ?_⟩
                rintro e W3 (⟨rfl, hJ3, hb3, hc3⟩ | ⟨rfl, hR3⟩ | ⟨ch, rfl, hR3⟩)
                · have hN3 := hc3.blk hN5 hNS
                  have hB3 := hB5.trans hb3
                  clear hb3 hc3 hN5 hB5 hy hR
                  gi_wp2
                  go_roundw
                  case rel => exact ⟨day + 1, by omega, by go_num, hJ3, hB3, hN3⟩
                  case measure => simp [intOf]; omega
                · clear hN5 hB5 hy hR
                  gi_wp2
                  refine bodyPost_ret (results_none rfl _ _ _) rfl ?_
                  exact hR3
                · clear hN5 hB5 hy hR
                  gi_wp2
                  exact ⟨rfl, hR3⟩
              · go_simp
                have D3a := Lib.hid (D2.out.trans ((below_box V2 (.cells #[.int .i64 0, .int .i64 0, .int .i64 0, .int .i64 0, .int .i64 0, .int .i64 0, .int .i64 0, .int .i64 0, .int .i64 0, .int .i64 0, .int .i64 0, .int .i64 0, .int .i64 0] 82)).mono D2.out.size))
                have hh3a := HSV.out _ D3a.out
                have K3h := Blk.new V2 #[.int .i64 0, .int .i64 0, .int .i64 0, .int .i64 0, .int .i64 0, .int .i64 0, .int .i64 0, .int .i64 0, .int .i64 0, .int .i64 0, .int .i64 0, .int .i64 0, .int .i64 0] 82
                refine hK.out _ _ (fun _ => hh3a) (fun hHeld3a => ?_)
                clear hK K
                try simp only [Act.put, List.setIfInBounds_toArray, List.set_cons_zero, List.set_cons_succ]
                generalize V2.alloc (.cells #[.int .i64 0, .int .i64 0, .int .i64 0, .int .i64 0, .int .i64 0, .int .i64 0, .int .i64 0, .int .i64 0, .int .i64 0, .int .i64 0, .int .i64 0, .int .i64 0, .int .i64 0] 82) = V3a at *
                obtain ⟨K3, hK3⟩ : ∃ q, q = V2.heap.size := ⟨_, rfl⟩
                have K3z : Wy.heap.size ≤ K3 := by rw [hK3]; exact D2.out.size
                rw [← hK3] at K3h ⊢
                clear hK3
                refine Till.one 13 rfl (by kernel_rfl) (fun K hK => ?_)
                go_simp
                go_at_call 69
                have hE5 := HEX.out _ D3a.out
                refine (follow_any s d v7 o.x.lo o.x.hi am cm o.ms _ _ _ V3a (hs.mono hE5) ok (hri.mono hE5) hms hl6 hcb hcn).mono ?_
                rintro e V5 ⟨rfl, hb5⟩
                have D5 := Lib.hid (D3a.out.trans (hb5.mono D3a.out.size))
                have hh5 := HSV.out _ D5.out
                have hK5 := K3h.below hb5 K3h.lt
                refine hK.out _ _ (fun _ => hh5) (fun hHeld5 => ?_)
                clear hK K hb5 hE5
                try simp only [Act.put, List.setIfInBounds_toArray, List.set_cons_zero, List.set_cons_succ]
                replace K3h := hK5
                refine Till.one 15 rfl (by kernel_rfl) (fun K hK => ?_)
                rw [if_pos (by rfl)]
                refine wp_store_mid 82 (Operand.tmp 7) (Operand.tmp 35) rfl K3 0 (ocV (folS s o.ms (crewS s T ((day : Int) - 1) o.ms idleC) (crewS s T (day : Int) o.ms idleC))) rfl rfl (there_blk K3h rfl) (by rw [sz_out]; rfl) (ocC_one _ _ _) ?_
                refine hK.out _ _ (fun h => absurd rfl h) (fun _ => ?_)
                clear hK K
                try simp only [Act.put, List.setIfInBounds_toArray, List.set_cons_zero, List.set_cons_succ]
                refine Till.done (by kernel_rfl) ?_ _
                have HVF := Lib.hid (putC_below D5.out (show Wy.heap.size ≤ K3 from K3z) (ocV (folS s o.ms (crewS s T ((day : Int) - 1) o.ms idleC) (crewS s T (day : Int) o.ms idleC))))
                have HKF : Blk (putC V5 K3 (ocV (folS s o.ms (crewS s T ((day : Int) - 1) o.ms idleC) (crewS s T (day : Int) o.ms idleC)))) K3 (ocV (folS s o.ms (crewS s T ((day : Int) - 1) o.ms idleC) (crewS s T (day : Int) o.ms idleC))) 82 := blk_sto K3h rfl
                rw [show World.setCells V5 K3 0 (ocV (folS s o.ms (crewS s T ((day : Int) - 1) o.ms idleC) (crewS s T (day : Int) o.ms idleC))).toList = putC V5 K3 (ocV (folS s o.ms (crewS s T ((day : Int) - 1) o.ms idleC) (crewS s T (day : Int) o.ms idleC))) from rfl]
                generalize putC V5 K3 (ocV (folS s o.ms (crewS s T ((day : Int) - 1) o.ms idleC) (crewS s T (day : Int) o.ms idleC))) = VF at *
                have HDX2 := HDX.out
                simp only [dayC] at HDX2
                generalize folS s o.ms (crewS s T ((day : Int) - 1) o.ms idleC) (crewS s T (day : Int) o.ms idleC) = oc at *
                have g5 : Blk VF K3 #[.int .i64 (g oc.sh 0), .int .i64 (g oc.sh 1), .int .i64 (g oc.sh 2), .int .i64 (g oc.sh 3), .int .i64 (g oc.sh 4), .int .i64 (g oc.sh 5), .int .i64 oc.cost, .int .i64 (g oc.made 0), .int .i64 (g oc.made 1), .int .i64 (g oc.made 2), .int .i64 (g oc.made 3), .int .i64 (g oc.made 4), .int .i64 (g oc.made 5)] 82 := HKF
                have hld := ld_blk (P := Try.prog) g5 Try.underlying82 rfl (by rw [sz_out]; rfl)
                have hJ5 := ownf_below hJ hJy HVF.out
                have hN5 := hNy.below HVF.out hNy.lt
                have hB5 := hBy.trans (BelS.of_below (HVF.out.mono hBy.size))
                obtain ⟨fn, tmps, assign, body, hy, hR⟩ := hY _ _ VF HDX2 (fun _ h => h.elim) hJ5
                clear hJ5 HVF HKF g5 HSV HEX HDX2 HDX hHeld hh1 hHeld1 D1 hh2 hHeld2 D2 hh3a hHeld3a D3a hh5 hHeld5 D5 K3h K3z
                clear hcb hcn h0 hri HAK
                refine ⟨rfl, ?_⟩
                simp only [List.getElem_toArray, List.getElem_cons_succ, List.getElem_cons_zero]
                gi_wp2
                refine ⟨(fun hd => by simp [Fence.wide] at hd), hR.mono ?_⟩
                rintro e W3 (⟨rfl, hJ3, hb3, hc3⟩ | ⟨rfl, hR3⟩ | ⟨ch, rfl, hR3⟩)
                · have hN3 := hc3.blk hN5 hNS
                  have hB3 := hB5.trans hb3
                  clear hb3 hc3 hN5 hB5 hy hR
                  gi_wp2
                  go_roundw
                  case rel => exact ⟨day + 1, by omega, by go_num, hJ3, hB3, hN3⟩
                  case measure => simp [intOf]; omega
                · clear hN5 hB5 hy hR
                  gi_wp2
                  refine bodyPost_ret (results_none rfl _ _ _) rfl ?_
                  exact hR3
                · clear hN5 hB5 hy hR
                  gi_wp2
                  exact ⟨rfl, hR3⟩
            · go_simp
              have D2a := Lib.hid (D1.out.trans ((below_box V1 (.cells #[.int .i64 0, .int .i64 0, .int .i64 0, .int .i64 0, .int .i64 0, .int .i64 0, .int .i64 0, .int .i64 0, .int .i64 0, .int .i64 0, .int .i64 0, .int .i64 0, .int .i64 0] 82)).mono D1.out.size))
              have hh2a := HSV.out _ D2a.out
              have K2h := Blk.new V1 #[.int .i64 0, .int .i64 0, .int .i64 0, .int .i64 0, .int .i64 0, .int .i64 0, .int .i64 0, .int .i64 0, .int .i64 0, .int .i64 0, .int .i64 0, .int .i64 0, .int .i64 0] 82
              refine hK.out _ _ (fun _ => hh2a) (fun hHeld2a => ?_)
              clear hK K
              try simp only [Act.put, List.setIfInBounds_toArray, List.set_cons_zero, List.set_cons_succ]
              generalize V1.alloc (.cells #[.int .i64 0, .int .i64 0, .int .i64 0, .int .i64 0, .int .i64 0, .int .i64 0, .int .i64 0, .int .i64 0, .int .i64 0, .int .i64 0, .int .i64 0, .int .i64 0, .int .i64 0] 82) = V2a at *
              obtain ⟨K2, hK2⟩ : ∃ q, q = V1.heap.size := ⟨_, rfl⟩
              have K2z : Wy.heap.size ≤ K2 := by rw [hK2]; exact D1.out.size
              rw [← hK2] at K2h ⊢
              clear hK2
              refine Till.one 12 rfl (by kernel_rfl) (fun K hK => ?_)
              go_simp
              go_at_call 62
              have hE7 := HEX.out _ D2a.out
              refine (crew_any s d v7 o.x.lo o.x.hi am cm o.ms _ vt T (day : Int) V2a (hs.mono hE7) ok (hri.mono hE7) hms hl6 (hT.mono hE7) pk.len (fun r hr => (pk.row r hr).1) (by omega) (by omega)).mono ?_
              rintro e V7 ⟨rfl, hb7⟩
              have D7 := Lib.hid (D2a.out.trans (hb7.mono D2a.out.size))
              have hh7 := HSV.out _ D7.out
              have hK7 := K2h.below hb7 K2h.lt
              refine hK.out _ _ (fun _ => hh7) (fun hHeld7 => ?_)
              clear hK K hb7 hE7
              try simp only [Act.put, List.setIfInBounds_toArray, List.set_cons_zero, List.set_cons_succ]
              replace K2h := hK7
              refine Till.one 13 rfl (by kernel_rfl) (fun K hK => ?_)
              go_simp
              go_at_call 69
              have hE8 := HEX.out _ D7.out
              refine (follow_any s d v7 o.x.lo o.x.hi am cm o.ms _ _ _ V7 (hs.mono hE8) ok (hri.mono hE8) hms hl6 hcb hcn).mono ?_
              rintro e V8 ⟨rfl, hb8⟩
              have D8 := Lib.hid (D7.out.trans (hb8.mono D7.out.size))
              have hh8 := HSV.out _ D8.out
              have hK8 := K2h.below hb8 K2h.lt
              refine hK.out _ _ (fun _ => hh8) (fun hHeld8 => ?_)
              clear hK K hb8 hE8
              try simp only [Act.put, List.setIfInBounds_toArray, List.set_cons_zero, List.set_cons_succ]
              replace K2h := hK8
              refine Till.one 15 rfl (by kernel_rfl) (fun K hK => ?_)
              rw [if_pos (by rfl)]
              refine wp_store_mid 82 (Operand.tmp 7) (Operand.tmp 35) rfl K2 0 (ocV (folS s o.ms (crewS s T ((day : Int) - 1) o.ms idleC) (crewS s T (day : Int) o.ms idleC))) rfl rfl (there_blk K2h rfl) (by rw [sz_out]; rfl) (ocC_one _ _ _) ?_
              refine hK.out _ _ (fun h => absurd rfl h) (fun _ => ?_)
              clear hK K
              try simp only [Act.put, List.setIfInBounds_toArray, List.set_cons_zero, List.set_cons_succ]
              refine Till.done (by kernel_rfl) ?_ _
              have HVF := Lib.hid (putC_below D8.out (show Wy.heap.size ≤ K2 from K2z) (ocV (folS s o.ms (crewS s T ((day : Int) - 1) o.ms idleC) (crewS s T (day : Int) o.ms idleC))))
              have HKF : Blk (putC V8 K2 (ocV (folS s o.ms (crewS s T ((day : Int) - 1) o.ms idleC) (crewS s T (day : Int) o.ms idleC)))) K2 (ocV (folS s o.ms (crewS s T ((day : Int) - 1) o.ms idleC) (crewS s T (day : Int) o.ms idleC))) 82 := blk_sto K2h rfl
              rw [show World.setCells V8 K2 0 (ocV (folS s o.ms (crewS s T ((day : Int) - 1) o.ms idleC) (crewS s T (day : Int) o.ms idleC))).toList = putC V8 K2 (ocV (folS s o.ms (crewS s T ((day : Int) - 1) o.ms idleC) (crewS s T (day : Int) o.ms idleC))) from rfl]
              generalize putC V8 K2 (ocV (folS s o.ms (crewS s T ((day : Int) - 1) o.ms idleC) (crewS s T (day : Int) o.ms idleC))) = VF at *
              have HDX2 := HDX.out
              simp only [dayC] at HDX2
              generalize folS s o.ms (crewS s T ((day : Int) - 1) o.ms idleC) (crewS s T (day : Int) o.ms idleC) = oc at *
              have g5 : Blk VF K2 #[.int .i64 (g oc.sh 0), .int .i64 (g oc.sh 1), .int .i64 (g oc.sh 2), .int .i64 (g oc.sh 3), .int .i64 (g oc.sh 4), .int .i64 (g oc.sh 5), .int .i64 oc.cost, .int .i64 (g oc.made 0), .int .i64 (g oc.made 1), .int .i64 (g oc.made 2), .int .i64 (g oc.made 3), .int .i64 (g oc.made 4), .int .i64 (g oc.made 5)] 82 := HKF
              have hld := ld_blk (P := Try.prog) g5 Try.underlying82 rfl (by rw [sz_out]; rfl)
              have hJ5 := ownf_below hJ hJy HVF.out
              have hN5 := hNy.below HVF.out hNy.lt
              have hB5 := hBy.trans (BelS.of_below (HVF.out.mono hBy.size))
              obtain ⟨fn, tmps, assign, body, hy, hR⟩ := hY _ _ VF HDX2 (fun _ h => h.elim) hJ5
              clear hJ5 HVF HKF g5 HSV HEX HDX2 HDX hHeld hh1 hHeld1 D1 hh2a hHeld2a D2a hh7 hHeld7 D7 hh8 hHeld8 D8 K2h K2z
              clear hcb hcn h0 hri HAK
              refine ⟨rfl, ?_⟩
              simp only [List.getElem_toArray, List.getElem_cons_succ, List.getElem_cons_zero]
              gi_wp2
              refine ⟨(fun hd => by simp [Fence.wide] at hd), hR.mono ?_⟩
              rintro e W3 (⟨rfl, hJ3, hb3, hc3⟩ | ⟨rfl, hR3⟩ | ⟨ch, rfl, hR3⟩)
              · have hN3 := hc3.blk hN5 hNS
                have hB3 := hB5.trans hb3
                clear hb3 hc3 hN5 hB5 hy hR
                gi_wp2
                go_roundw
                case rel => exact ⟨day + 1, by omega, by go_num, hJ3, hB3, hN3⟩
                case measure => simp [intOf]; omega
              · clear hN5 hB5 hy hR
                gi_wp2
                refine bodyPost_ret (results_none rfl _ _ _) rfl ?_
                exact hR3
              · clear hN5 hB5 hy hR
                gi_wp2
                exact ⟨rfl, hR3⟩
          · go_simp
            have D1a := Lib.hid (D0.out.trans ((below_box Wy (.cells #[.int .i64 0, .int .i64 0, .int .i64 0, .int .i64 0, .int .i64 0, .int .i64 0, .int .i64 0, .int .i64 0, .int .i64 0, .int .i64 0, .int .i64 0, .int .i64 0, .int .i64 0] 82)).mono D0.out.size))
            have hh1a := HSV.out _ D1a.out
            have K1h := Blk.new Wy #[.int .i64 0, .int .i64 0, .int .i64 0, .int .i64 0, .int .i64 0, .int .i64 0, .int .i64 0, .int .i64 0, .int .i64 0, .int .i64 0, .int .i64 0, .int .i64 0, .int .i64 0] 82
            refine hK.out _ _ (fun _ => hh1a) (fun hHeld1a => ?_)
            clear hK K
            try simp only [Act.put, List.setIfInBounds_toArray, List.set_cons_zero, List.set_cons_succ]
            generalize Wy.alloc (.cells #[.int .i64 0, .int .i64 0, .int .i64 0, .int .i64 0, .int .i64 0, .int .i64 0, .int .i64 0, .int .i64 0, .int .i64 0, .int .i64 0, .int .i64 0, .int .i64 0, .int .i64 0] 82) = V1a at *
            obtain ⟨K1, hK1⟩ : ∃ q, q = Wy.heap.size := ⟨_, rfl⟩
            have K1z : Wy.heap.size ≤ K1 := by rw [hK1]; exact D0.out.size
            rw [← hK1] at K1h ⊢
            clear hK1
            refine Till.one 7 rfl (by kernel_rfl) (fun K hK => ?_)
            go_simp
            go_at_call 62
            have hE10 := HEX.out _ D1a.out
            refine (crew_any s d v7 o.x.lo o.x.hi am cm o.ms _ vt T ((day : Int) - 1) V1a (hs.mono hE10) ok (hri.mono hE10) hms hl6 (hT.mono hE10) pk.len (fun r hr => (pk.row r hr).1) (by omega) (by omega)).mono ?_
            rintro e V10 ⟨rfl, hb10⟩
            have D10 := Lib.hid (D1a.out.trans (hb10.mono D1a.out.size))
            have hh10 := HSV.out _ D10.out
            have hK10 := K1h.below hb10 K1h.lt
            refine hK.out _ _ (fun _ => hh10) (fun hHeld10 => ?_)
            clear hK K hb10 hE10
            try simp only [Act.put, List.setIfInBounds_toArray, List.set_cons_zero, List.set_cons_succ]
            replace K1h := hK10
            refine Till.one 12 rfl (by kernel_rfl) (fun K hK => ?_)
            go_simp
            go_at_call 62
            have hE11 := HEX.out _ D10.out
            refine (crew_any s d v7 o.x.lo o.x.hi am cm o.ms _ vt T (day : Int) V10 (hs.mono hE11) ok (hri.mono hE11) hms hl6 (hT.mono hE11) pk.len (fun r hr => (pk.row r hr).1) (by omega) (by omega)).mono ?_
            rintro e V11 ⟨rfl, hb11⟩
            have D11 := Lib.hid (D10.out.trans (hb11.mono D10.out.size))
            have hh11 := HSV.out _ D11.out
            have hK11 := K1h.below hb11 K1h.lt
            refine hK.out _ _ (fun _ => hh11) (fun hHeld11 => ?_)
            clear hK K hb11 hE11
            try simp only [Act.put, List.setIfInBounds_toArray, List.set_cons_zero, List.set_cons_succ]
            replace K1h := hK11
            refine Till.one 13 rfl (by kernel_rfl) (fun K hK => ?_)
            go_simp
            go_at_call 69
            have hE12 := HEX.out _ D11.out
            refine (follow_any s d v7 o.x.lo o.x.hi am cm o.ms _ _ _ V11 (hs.mono hE12) ok (hri.mono hE12) hms hl6 hcb hcn).mono ?_
            rintro e V12 ⟨rfl, hb12⟩
            have D12 := Lib.hid (D11.out.trans (hb12.mono D11.out.size))
            have hh12 := HSV.out _ D12.out
            have hK12 := K1h.below hb12 K1h.lt
            refine hK.out _ _ (fun _ => hh12) (fun hHeld12 => ?_)
            clear hK K hb12 hE12
            try simp only [Act.put, List.setIfInBounds_toArray, List.set_cons_zero, List.set_cons_succ]
            replace K1h := hK12
            refine Till.one 15 rfl (by kernel_rfl) (fun K hK => ?_)
            rw [if_pos (by rfl)]
            refine wp_store_mid 82 (Operand.tmp 7) (Operand.tmp 35) rfl K1 0 (ocV (folS s o.ms (crewS s T ((day : Int) - 1) o.ms idleC) (crewS s T (day : Int) o.ms idleC))) rfl rfl (there_blk K1h rfl) (by rw [sz_out]; rfl) (ocC_one _ _ _) ?_
            refine hK.out _ _ (fun h => absurd rfl h) (fun _ => ?_)
            clear hK K
            try simp only [Act.put, List.setIfInBounds_toArray, List.set_cons_zero, List.set_cons_succ]
            refine Till.done (by kernel_rfl) ?_ _
            have HVF := Lib.hid (putC_below D12.out (show Wy.heap.size ≤ K1 from K1z) (ocV (folS s o.ms (crewS s T ((day : Int) - 1) o.ms idleC) (crewS s T (day : Int) o.ms idleC))))
            have HKF : Blk (putC V12 K1 (ocV (folS s o.ms (crewS s T ((day : Int) - 1) o.ms idleC) (crewS s T (day : Int) o.ms idleC)))) K1 (ocV (folS s o.ms (crewS s T ((day : Int) - 1) o.ms idleC) (crewS s T (day : Int) o.ms idleC))) 82 := blk_sto K1h rfl
            rw [show World.setCells V12 K1 0 (ocV (folS s o.ms (crewS s T ((day : Int) - 1) o.ms idleC) (crewS s T (day : Int) o.ms idleC))).toList = putC V12 K1 (ocV (folS s o.ms (crewS s T ((day : Int) - 1) o.ms idleC) (crewS s T (day : Int) o.ms idleC))) from rfl]
            generalize putC V12 K1 (ocV (folS s o.ms (crewS s T ((day : Int) - 1) o.ms idleC) (crewS s T (day : Int) o.ms idleC))) = VF at *
            have HDX2 := HDX.out
            simp only [dayC] at HDX2
            generalize folS s o.ms (crewS s T ((day : Int) - 1) o.ms idleC) (crewS s T (day : Int) o.ms idleC) = oc at *
            have g5 : Blk VF K1 #[.int .i64 (g oc.sh 0), .int .i64 (g oc.sh 1), .int .i64 (g oc.sh 2), .int .i64 (g oc.sh 3), .int .i64 (g oc.sh 4), .int .i64 (g oc.sh 5), .int .i64 oc.cost, .int .i64 (g oc.made 0), .int .i64 (g oc.made 1), .int .i64 (g oc.made 2), .int .i64 (g oc.made 3), .int .i64 (g oc.made 4), .int .i64 (g oc.made 5)] 82 := HKF
            have hld := ld_blk (P := Try.prog) g5 Try.underlying82 rfl (by rw [sz_out]; rfl)
            have hJ5 := ownf_below hJ hJy HVF.out
            have hN5 := hNy.below HVF.out hNy.lt
            have hB5 := hBy.trans (BelS.of_below (HVF.out.mono hBy.size))
            obtain ⟨fn, tmps, assign, body, hy, hR⟩ := hY _ _ VF HDX2 (fun _ h => h.elim) hJ5
            clear hJ5 HVF HKF g5 HSV HEX HDX2 HDX hHeld hh1a hHeld1a D1a hh10 hHeld10 D10 hh11 hHeld11 D11 hh12 hHeld12 D12 K1h K1z
            clear hcb hcn h0 hri HAK
            refine ⟨rfl, ?_⟩
            simp only [List.getElem_toArray, List.getElem_cons_succ, List.getElem_cons_zero]
            gi_wp2
            refine ⟨(fun hd => by simp [Fence.wide] at hd), hR.mono ?_⟩
            rintro e W3 (⟨rfl, hJ3, hb3, hc3⟩ | ⟨rfl, hR3⟩ | ⟨ch, rfl, hR3⟩)
            · have hN3 := hc3.blk hN5 hNS
              have hB3 := hB5.trans hb3
              clear hb3 hc3 hN5 hB5 hy hR
              gi_wp2
              go_roundw
              case rel => exact ⟨day + 1, by omega, by go_num, hJ3, hB3, hN3⟩
              case measure => simp [intOf]; omega
            · clear hN5 hB5 hy hR
              gi_wp2
              refine bodyPost_ret (results_none rfl _ _ _) rfl ?_
              exact hR3
            · clear hN5 hB5 hy hR
              gi_wp2
              exact ⟨rfl, hR3⟩
        · have hke : day = Dn := by omega
          subst hke
          clear hNy
          gi_wp2
          go_roundw
          case rel => exact ⟨k + 1, by omega, by go_num, by rw [← HKP.out]; exact hJy, hBy⟩
          case measure => simp [intOf]; omega
    · have hke : k = L.length := by omega
      subst hke
      gi_wp2
      go_end0
      exact hE _ hJk
end Go.Proofs.Ytdffhkbncencgaa
