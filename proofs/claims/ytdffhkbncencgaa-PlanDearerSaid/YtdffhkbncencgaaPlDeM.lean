/- Greater orders and higher penalties: the mathematics of PlanDearer; no statement is proved here. -/
import Derived.Test.YtdffhkbncencgaaPlLw
namespace Go.Proofs.Ytdffhkbncencgaa
open Go.RowKit Go.PlainAid
set_option linter.unusedVariables false
set_option linter.unusedSimpArgs false

/-- orders of the same articles and days, each at least as much. -/
structure OdUp (s : Sn) (L : List Od) : Prop where
  len : L.length = s.ods.length
  at' : ∀ i (h1 : i < L.length) (h2 : i < s.ods.length), (L[i].art = s.ods[i].art ∧ L[i].due = s.ods[i].due) ∧ (s.ods[i].qty ≤ L[i].qty ∧ L[i].qty ≤ 1000000) ∧ s.ods[i].pen ≤ L[i].pen ∧ L[i].pen ≤ 1000000
def withO (s : Sn) (L : List Od) : Sn := { s with ods := L }
theorem fe_all {f : Nat → Int} : ∀ {n k : Nat}, (∀ i, k ≤ i → i < k + n → f i = 0) → fe f k n = 0
  | 0, k, _ => rfl
  | n + 1, k, h => by
    rw [fe, if_pos (h k (by omega) (by omega))]
    exact fe_all (fun i h1 h2 => h i (by omega) (by omega))
theorem OdUp.arts {s : Sn} {L : List Od} (h : OdUp s L) : L.map Od.art = s.ods.map Od.art := by
  refine List.ext_getElem (by simp [h.len]) fun i h1 h2 => ?_
  simp only [List.getElem_map]
  exact (h.at' i (by simpa using h1) (by simpa using h2)).1.1
theorem any_art {l : List Od} {a : Int} : l.any (fun y => y.art == a) = (l.map Od.art).any (· == a) := by rw [List.any_map]; rfl
theorem odsE_up {s : Sn} {L : List Od} (h : OdUp s L) (hz : odsE s = 0) (ok : OkS s) : odsE (withO s L) = 0 := by
  unfold odsE at hz ⊢
  split at hz
  · cases hz
  rename_i hlen
  have hl : (withO s L).ods = L := rfl
  rw [hl, if_neg (by rw [h.len]; exact hlen)]
  refine fe_all fun i _ hi => ?_
  have hiL : i < L.length := by omega
  have his : i < s.ods.length := by rw [← h.len]; exact hiL
  have h0 := fe_zero hz i (by omega) (by omega)
  have e1 : odF (withO s L) i = odE (L.take i) L[i] s.arts.length s.days := odF_at (s := withO s L) hiL
  rw [odF_at his] at h0
  rw [e1]
  obtain ⟨⟨ha, hd⟩, ⟨hq1, hq2⟩, hp1, hp2⟩ := h.at' i hiL his
  obtain ⟨-, hq0, -, hp0⟩ := ok.od _ (List.getElem_mem his)
  have hpre : (L.take i).any (fun y => y.art == L[i].art) = (s.ods.take i).any (fun y => y.art == s.ods[i].art) := by
    rw [any_art, any_art, ha, List.map_take, List.map_take, h.arts]
  unfold odE at h0 ⊢
  rw [hpre, ha, hd]
  have b1 : btw L[i].qty 0 1000000 = true := btw_true.2 (by omega)
  have b2 : btw L[i].pen 0 1000000 = true := btw_true.2 (by omega)
  rw [b1, b2]
  split at h0
  · cases h0
  rename_i g1
  rw [if_neg g1]
  split at h0
  · cases h0
  rename_i g2
  rw [if_neg g2]
  split at h0
  · cases h0
  split at h0
  · cases h0
  rename_i g3 g4
  rw [if_neg (by decide), if_neg g4, if_neg (by decide)]
theorem fewF_up (s : Sn) (L : List Od) : fewF (withO s L) = fewF s := by kernel_rfl
theorem stL_up (s : Sn) (L : List Od) (T : List (List Int)) : stL (withO s L) T = stL s T := by kernel_rfl
theorem keepsB_up (s : Sn) (L : List Od) (T : List (List Int)) : keepsB (withO s L) T = keepsB s T := by kernel_rfl
theorem partsE_up {s : Sn} {L : List Od} (h : OdUp s L) (hz : partsE s = 0) : partsE (withO s L) = 0 := by
  have ok := partsE_ok hz
  unfold partsE at hz ⊢
  split at hz
  · cases hz
  rename_i hd
  rw [if_neg (show ¬ btw (withO s L).days 1 14 = false from hd)]
  refine fe_all fun i _ hi => ?_
  have h0 := fe_zero hz i (by omega) hi
  match i, h0 with
  | 0, h0 => exact h0
  | 1, h0 => exact h0
  | 2, h0 => exact h0
  | 3, h0 => exact h0
  | n + 4, h0 => exact odsE_up h h0 ok
theorem worksE_up {s : Sn} {L : List Od} (h : OdUp s L) (hz : worksE s = 0) : worksE (withO s L) = 0 := by
  unfold worksE at hz ⊢
  split at hz
  · rename_i hp
    rw [if_pos (partsE_up h hp), fewF_up]
    exact hz
  · rename_i hp; exact absurd hz hp
theorem keE_up {s : Sn} {L : List Od} (h : OdUp s L) {T : List (List Int)} (hz : keE s T = 0) : keE (withO s L) T = 0 := by
  obtain ⟨hp, hk⟩ := keE_ok hz
  unfold plE at hp
  split at hp
  · rename_i hw
    split at hp
    · rename_i hl
      split at hp
      · rename_i hr
        unfold keE plE
        rw [worksE_up h hw, if_pos rfl, if_pos (show T.length = (withO s L).mks.length from hl), if_pos (show rowsB (withO s L) T = true from hr), if_pos rfl, if_pos (by rw [keepsB_up]; exact hk)]
      · cases hp
    · cases hp
  · rename_i hw; exact absurd hp hw
theorem odAt_up {s : Sn} {L : List Od} (h : OdUp s L) (i : Nat) : (odAt (withO s L) i).art = (odAt s i).art ∧ (odAt (withO s L) i).due = (odAt s i).due ∧ (odAt s i).qty ≤ (odAt (withO s L) i).qty ∧ (odAt s i).pen ≤ (odAt (withO s L) i).pen := by
  unfold odAt
  have hl : (withO s L).ods = L := rfl
  rw [hl]
  by_cases hi : i < s.ods.length
  · have hiL : i < L.length := by rw [h.len]; exact hi
    simp only [List.getElem?_eq_getElem hi, List.getElem?_eq_getElem hiL, Option.getD_some]
    obtain ⟨⟨ha, hd⟩, ⟨hq1, hq2⟩, hp1, hp2⟩ := h.at' i hiL hi
    exact ⟨ha, hd, hq1, hp1⟩
  · have hiL : ¬ i < L.length := by rw [h.len]; exact hi
    rw [List.getElem?_eq_none (by omega), List.getElem?_eq_none (by omega)]
    exact ⟨rfl, rfl, Int.le_refl _, Int.le_refl _⟩
theorem plStep_up {s : Sn} {L : List Od} (h : OdUp s L) (day : Int) (x : Oc) : plStep (withO s L) day x = plStep s day x := by
  funext c i
  unfold plStep
  rw [(odAt_up h i).1, (odAt_up h i).2.1]
theorem plusS_up {s : Sn} {L : List Od} (h : OdUp s L) (got : List Int) (day : Int) (x : Oc) : plusS (withO s L) got day x = plusS s got day x := by
  unfold plusS plusK
  rw [plStep_up h, show (withO s L).ods.length = s.ods.length from h.len]
theorem gotS_up {s : Sn} {L : List Od} (h : OdUp s L) (T : List (List Int)) : gotS (withO s L) T = gotS s T := by
  unfold gotS gotK
  rw [stL_up]
  congr 1
  funext c x
  exact plusS_up h c x.day x.oc
theorem costS_up (s : Sn) (L : List Od) (T : List (List Int)) : costS (withO s L) T = costS s T := by
  unfold costS costK
  rw [stL_up]
theorem lackI_up {s : Sn} {L : List Od} (h : OdUp s L) (got : List Int) (i : Nat) : lackI s got i ≤ lackI (withO s L) got i := by
  have := (odAt_up h i).2.2.1
  unfold lackI
  omega
theorem fineK_up {s : Sn} (ok : OkS s) {L : List Od} (h : OdUp s L) {got : List Int} (hg : ∀ i, i < 8 → 0 ≤ g got i) : ∀ n, n ≤ 8 → fineK s got n ≤ fineK (withO s L) got n
  | 0, _ => Int.le_refl _
  | n + 1, hn => by
    have h1 := fineK_up ok h hg n (by omega)
    have h2 := lackI_up h got n
    have h3 := (odAt_up h n).2.2.2
    have h4 := (lackI_bd ok (hg n (by omega))).1
    have h5 := (odAt_bd ok n).2.1
    rw [fineK_step, fineK_step]
    have := Int.mul_le_mul h2 h3 h5 (Int.le_trans h4 h2)
    omega
theorem dear_cost {s : Sn} {L : List Od} (h : OdUp s L) {T : List (List Int)} (hz : keE s T = 0) : costA s T ≤ costA (withO s L) T := by
  obtain ⟨hp, hk⟩ := keE_ok hz
  obtain ⟨-, ok, -⟩ := plE_ok hp
  unfold costA
  rw [if_pos hz, if_pos (keE_up h hz), costS_up, gotS_up h]
  have h1 := fineK_up ok h (fun i hi => ((gotS_ok ok T).2 i hi).1) s.ods.length (Nat.le_trans ok.nd ok.na)
  unfold fineS
  rw [show (withO s L).ods.length = s.ods.length from h.len]
  omega
theorem dear_lack {s : Sn} {L : List Od} (h : OdUp s L) {T : List (List Int)} (hz : keE s T = 0) : (lackA (withO s L) T).length = s.ods.length ∧ (lackA s T).length = s.ods.length ∧ ∀ i, i < s.ods.length → ∃ a b, (lackA s T)[i]? = some a ∧ (lackA (withO s L) T)[i]? = some b ∧ a ≤ b := by
  unfold lackA
  rw [if_pos hz, if_pos (keE_up h hz), gotS_up h]
  unfold lackL lackK
  rw [show (withO s L).ods.length = s.ods.length from h.len]
  refine ⟨by simp, by simp, fun i hi => ⟨lackI s (gotS s T) i, lackI (withO s L) (gotS s T) i, by simp [hi], by simp [hi], lackI_up h _ i⟩⟩

/-- how much more is asked of an order. -/
def upI (p : List Int) (i : Nat) : Int := match p[i]? with | some v => max 0 (v.tmod 1000) | none => 1
theorem upI_bd (p : List Int) (i : Nat) : 0 ≤ upI p i ∧ upI p i ≤ 1000 := by
  unfold upI
  split
  · rename_i v _
    have h1 := Int.tmod_lt_of_pos v (show (0 : Int) < 1000 by decide)
    omega
  · decide
def odQ (o : Od) (u : Int) : Od := { o with qty := min 1000000 (o.qty + u) }
def odP (o : Od) (u : Int) : Od := { o with pen := min 1000000 (o.pen + u) }
/-- the first k orders changed. -/
def chg (f : Od → Int → Od) (p : List Int) (l : List Od) (k : Nat) : List Od := l.mapIdx fun i o => if i < k then f o (upI p i) else o
theorem chg_len (f : Od → Int → Od) (p : List Int) (l : List Od) (k : Nat) : (chg f p l k).length = l.length := by unfold chg; simp
theorem chg_zero (f : Od → Int → Od) (p : List Int) (l : List Od) : chg f p l 0 = l := by
  unfold chg
  refine List.ext_getElem (by simp) fun i h1 h2 => ?_
  simp
theorem chg_get (f : Od → Int → Od) (p : List Int) (l : List Od) (k : Nat) {i : Nat} (h : i < l.length) : (chg f p l k)[i]'(by rw [chg_len]; exact h) = if i < k then f l[i] (upI p i) else l[i] := by
  unfold chg; simp
theorem chg_step (f : Od → Int → Od) (p : List Int) (l : List Od) {k : Nat} (h : k < l.length) : (chg f p l k).set k (f l[k] (upI p k)) = chg f p l (k + 1) := by
  refine List.ext_getElem (by simp [chg_len]) fun i h1 h2 => ?_
  have hi : i < l.length := by simpa [chg_len] using h2
  rw [chg_get f p l (k + 1) hi, List.getElem_set]
  by_cases e : k = i
  · subst e
    rw [if_pos rfl, if_pos (by omega)]
  · rw [if_neg e, chg_get f p l k hi]
    by_cases h3 : i < k
    · rw [if_pos h3, if_pos (by omega)]
    · rw [if_neg h3, if_neg (by omega)]
theorem chgQ_up {s : Sn} (ok : OkS s) (p : List Int) : OdUp s (chg odQ p s.ods s.ods.length) := ⟨chg_len _ _ _ _, fun i h1 h2 => by
  rw [chg_get odQ p s.ods s.ods.length h2, if_pos h2]
  have h3 := ok.od _ (List.getElem_mem h2)
  have h4 := upI_bd p i
  refine ⟨⟨rfl, rfl⟩, ⟨?_, ?_⟩, Int.le_refl _, h3.2.2.2.2⟩
  · show s.ods[i].qty ≤ min 1000000 (s.ods[i].qty + upI p i); omega
  · show min 1000000 (s.ods[i].qty + upI p i) ≤ 1000000; omega⟩
theorem chgP_up {s : Sn} (ok : OkS s) (p : List Int) : OdUp s (chg odP p s.ods s.ods.length) := ⟨chg_len _ _ _ _, fun i h1 h2 => by
  rw [chg_get odP p s.ods s.ods.length h2, if_pos h2]
  have h3 := ok.od _ (List.getElem_mem h2)
  have h4 := upI_bd p i
  refine ⟨⟨rfl, rfl⟩, ⟨Int.le_refl _, h3.2.1.2⟩, ?_, ?_⟩
  · show s.ods[i].pen ≤ min 1000000 (s.ods[i].pen + upI p i); omega
  · show min 1000000 (s.ods[i].pen + upI p i) ≤ 1000000; omega⟩
end Go.Proofs.Ytdffhkbncencgaa
