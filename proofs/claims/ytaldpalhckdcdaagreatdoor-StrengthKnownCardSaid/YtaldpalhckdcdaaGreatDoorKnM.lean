/- The numbers of the examples of chapter 05; no statement is proved here. -/
import Derived.Test.YtaldpalhckdcdaaGreatDoorSLives
import Derived.Test.YtaldpalhckdcdaaGreatDoorMoreM
import Derived.Test.YtaldpalhckdcdaaGreatDoorLightP
import Derived.Test.YtaldpalhckdcdaaGreatDoorSRef
import Derived.Test.YtaldpalhckdcdaaGreatDoorInM
import Derived.Test.YtaldpalhckdcdaaGreatDoorLeSv
namespace Go.Proofs.YtaldpalhckdcdaaGreatDoor
open Go.RowKit Go.PlainAid
set_option linter.unusedVariables false
set_option linter.unusedSimpArgs false
theorem kn_root : IsRoot (exB5.tough / exB5.flaw) 63245 := ⟨by decide, by decide +kernel, by decide +kernel⟩
theorem kn_wall1 : wallS exB5 [⟨200, 200⟩] ⟨1000, 0, 0, 0⟩ = 0 := by decide +kernel
theorem kn_wall2 : wallS exB5 [⟨200, 200⟩] ⟨0, 1000, 100, 7⟩ = 0 := by decide +kernel
theorem kn_wall3 : wallS exB5 [⟨200, 250⟩] ⟨0, 0, 0, 0⟩ = 0 := by decide +kernel
theorem kn_str1 : strS exB5 [⟨200, 200⟩] ⟨1000, 0, 0, 0⟩ = [⟨15000, 15000⟩] := by decide +kernel
theorem kn_str2 : strS exB5 [⟨200, 200⟩] ⟨0, 1000, 100, 7⟩ = [⟨2909, 2910⟩] := by decide +kernel
theorem kn_both : bothS exB5 ⟨1000, 0, 0, 0⟩ = 0 := by decide +kernel

theorem kn_one {i : Nat} (h : i < exB5.rings.length) : i = 0 := by have : i < 1 := h; omega
theorem kn_burst {u : Sp} (h : IsBurst exB5 [⟨200, 250⟩] ⟨0, 0, 0, 0⟩ u) : u = ⟨4216, 5271⟩ := by
  have a1 := (h.holds 4216 (by decide) (by decide)).1 ((holdsB_iff kn_root).2 fun i hi => by rw [kn_one hi]; decide +kernel)
  have a2 : ¬ 4217 ≤ u.lo := fun z => by
    have := (holdsB_iff kn_root).1 ((h.holds 4217 (by decide) (by decide)).2 z) 0 (by decide)
    exact absurd this (by decide +kernel)
  have a3 := (h.breaks 5271 (by decide) (by decide)).1 ((breaksB_iff kn_root).2 ⟨0, by decide, by decide +kernel⟩)
  have a4 : ¬ u.hi ≤ 5270 := fun z => by
    obtain ⟨i, hi, hm⟩ := (breaksB_iff kn_root).1 ((h.breaks 5270 (by decide) (by decide)).2 z)
    rw [kn_one hi] at hm
    exact absurd hm (by decide +kernel)
  obtain ⟨lo, hi⟩ := u
  simp only at a1 a2 a3 a4
  obtain rfl : lo = 4216 := by omega
  obtain rfl : hi = 5271 := by omega
  rfl

theorem kn_okS : OkS exB5 := (both_ok kn_both).1
theorem kn_okL : OkL ⟨1000, 0, 0, 0⟩ := (both_ok kn_both).2
theorem kn_need : needS exB5 ⟨1000, 0, 0, 0⟩ = [48] := by
  have hr : OkR exR := kn_okS.rings 0 (by decide)
  have e : needF exR ⟨1000, 0, 0, 0⟩ (rootF (exB5.tough / exB5.flaw)) = 48 := by
    rw [rootF_eq kn_root]
    unfold needF
    refine foF_eq ⟨by decide, by decide, fun x h1 h2 => ⟨fun hp => ⟨by decide, ?_⟩, fun hx => ?_⟩⟩
    · rcases Int.lt_or_le x 48 with hx | hx
      · have := needP_mono (m := 63245) hr kn_okL h1 (show x ≤ 47 by omega) (by decide) hp
        exact absurd this (by decide +kernel)
      · exact hx
    · exact needP_mono (m := 63245) hr kn_okL (by decide) hx.2 h2 (by decide +kernel)
  show [needF exR ⟨1000, 0, 0, 0⟩ (rootF (exB5.tough / exB5.flaw))] = [48]
  rw [e]
theorem kn_needs : needsS exB5 ⟨1000, 0, 0, 0⟩ = [48] := by
  unfold needsS
  rw [if_pos kn_both, kn_need]
theorem kn_light : lightS exB5 ⟨1000, 0, 0, 0⟩ = 227 := by
  unfold lightS lightF
  rw [if_pos kn_both, kn_need]
  refine foF_eq ⟨by decide, by decide, fun x h1 h2 => ⟨fun hp => ⟨by decide, ?_⟩, fun hx => ?_⟩⟩
  · rcases Int.lt_or_le x 227 with hx | hx
    · have := enoughWb_mono (ns := [48]) kn_okS (s := x) (t := 226) (by omega) (by omega) hp
      exact absurd this (by decide +kernel)
    · exact hx
  · exact enoughWb_mono (ns := [48]) kn_okS (s := 227) (t := x) (by omega) hx.2 (by decide +kernel)

def coolL : Lr := ⟨[⟨0, 5600⟩, ⟨30, 5600⟩, ⟨130, 4600⟩, ⟨150, 600⟩], 100⟩
theorem kn_steep : steepS coolL ⟨4900, 5500⟩ = ((10, 1), 0) := by decide +kernel
theorem kn_held : heldS coolL 5400 = (50, 0) := by decide +kernel
theorem kn_strain : strainS coolL ⟨4900, 5500⟩ 300 = (90, 0) := by decide +kernel
theorem kn_checkL : checkL ⟨[⟨0, 5600⟩, ⟨0, 5600⟩, ⟨130, 4600⟩, ⟨150, 600⟩], 100⟩ = 1 := by decide +kernel
theorem kn_checkS : checkS ⟨[⟨⟨300, 300⟩, ⟨1000, 1000⟩, ⟨0, 999⟩, ⟨1000, 1000⟩, ⟨500, 500⟩⟩], 10, 40000000000⟩ = 12 := by decide +kernel

/-- the batch of chapter 01's example with a property. -/
def exK : Bat := ⟨[⟨#[115, 105]⟩, ⟨#[110, 97]⟩], [⟨⟨#[115, 97, 110, 100]⟩, 1, 0, 0, 200, 20, [⟨980, 1000⟩, ⟨0, 0⟩]⟩, ⟨⟨#[115, 111, 100, 97]⟩, 4, 0, 0, 100, 20, [⟨0, 0⟩, ⟨570, 580⟩]⟩], [⟨700, 800⟩, ⟨200, 300⟩], [⟨⟨#[101, 120, 112, 97, 110, 115, 105, 111, 110]⟩, [500, 2000], ⟨0, 2000⟩⟩], ⟨-9999, 9999⟩, 100⟩
theorem kn_val : B1.valI exK [80, 40] 0 = (⟨832, 843⟩, 0) := by decide +kernel
theorem kn_shock : shockS (⟨832, 843⟩, 0) 40 = (⟨14933, 15131⟩, 0) := by decide +kernel

end Go.Proofs.YtaldpalhckdcdaaGreatDoor
