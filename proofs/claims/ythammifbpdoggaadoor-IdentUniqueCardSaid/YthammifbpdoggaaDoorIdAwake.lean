/- Layer 5: the program answers. -/
import Derived.Test.YthammifbpdoggaaDoorIdUniqW
namespace Go.Proofs.YthammifbpdoggaaDoor
open Go.RowKit Go.Maps
set_option linter.unusedSimpArgs false
set_option linter.unusedVariables false
def awkL : List (List UInt8) := [[97], [97], [97, 95, 50]]
theorem awk_uniq : uniqL awkL = [[97], [97, 95, 51], [97, 95, 50]] := by
  have n2 : nameL [97] 2 = [97, 95, 50] := by unfold nameL; rw [Lib.decDigits_one (by omega)]; rfl
  have n3 : nameL [97] 3 = [97, 95, 51] := by unfold nameL; rw [Lib.decDigits_one (by omega)]; rfl
  have hC : awkL.map cleanL = awkL := by decide
  have hfree : freeN awkL [[97]] [97] = 3 := by
    obtain ⟨h1, h2, h3, h4⟩ := free_spec (C := awkL) (O := [[97]]) [97] (by decide)
    have b2 : busyB awkL [[97]] [97] 2 = true := by unfold busyB; rw [n2]; decide
    have b3 : busyB awkL [[97]] [97] 3 = false := by unfold busyB; rw [n3]; decide
    generalize freeN awkL [[97]] [97] = m at *
    by_cases e2 : m = 2
    · subst e2; rw [b2] at h3; cases h3
    · by_cases e3 : 3 < m
      · have := h4 3 (by omega) e3; rw [b3] at this; cases this
      · omega
  have u1 : uniqK awkL 1 = [[97]] := by
    rw [uniqK_succ (by decide), hC, uniqK_zero]
    rfl
  have u2 : uniqK awkL 2 = [[97], [97, 95, 51]] := by
    rw [uniqK_succ (by decide), hC, u1]
    show uniqS awkL [[97]] [97] = _
    unfold uniqS
    rw [if_pos (by decide), hfree, n3]
    rfl
  show uniqK awkL 3 = _
  rw [uniqK_succ (by decide), hC, u2]
  rfl
set_option maxHeartbeats 2000000 in
theorem law05_awake (w : World) (hT : IdTab w) : Calls Tryd.prog 6 #[] w fun e w' => e = .returned (.bool true) ∧ Below w.heap.size w w' := by
  have HU := Lib.hid (fun (W : World) (h : Below w.heap.size w W) (v : Value) (hv : RowAt W v 3 (strV awkL)) => ident_Unique v awkL W hv (hT.below h) (by decide) (by intro k hk; have : k = 0 ∨ k = 1 ∨ k = 2 := (by have : k < 3 := hk; omega); rcases this with rfl | rfl | rfl <;> decide))
  have HC := Lib.hid (fun (W : World) (h : Below w.heap.size w W) => ident_Clean [77, 111, 116, 111, 114, 32, 49] W (hT.below h) (by decide))
  have HCl := Lib.hid (show cleanL [77, 111, 116, 111, 114, 32, 49] = [118, 95, 109, 111, 116, 111, 114, 95, 49] by decide)
  clear hT
  go_enter Tryd.func6, Tryd.ntmps6
  go_wp2_with fail
  refine (HU.out _ ((Below.refl _ _).alloc (Nat.le_refl _) _) _ ?_).mono ?_
  · exact Or.inr ⟨w.heap.size, 0, 3, rfl, by omega, by omega, by unfold maxLen; omega, by simp, fun i hi => by
      rw [World.cell?_alloc_at _ _ _ _ rfl, Nat.zero_add]
      have : i = 0 ∨ i = 1 ∨ i = 2 := by omega
      rcases this with rfl | rfl | rfl <;> rfl⟩
  rintro e w2 ⟨r, rfl, hr, hb⟩
  have HB := Lib.hid (((Below.refl w.heap.size w).alloc (Nat.le_refl _) (.cells #[.string ⟨#[97]⟩, .string ⟨#[97]⟩, .string ⟨#[97, 95, 50]⟩] 9)).trans (hb.mono (by simp)))
  rcases hr with ⟨_, _, _, h0, _⟩ | ⟨b, off, cap, rfl, _, hc1, hc2, hbw, hcell⟩
  · cases h0
  have h1 := hcell 1 (by decide)
  rw [awk_uniq] at h1
  have h1 : w2.cell? ⟨b, off + 1, none⟩ = some (.string ⟨#[97, 95, 51]⟩) := h1
  have hc3 : cap ≤ 9223372036854775807 := hc2
  have hc4 : 3 ≤ cap := hc1
  have HBW := Lib.hid hbw
  have H1 := Lib.hid h1
  clear hb hcell hc1 hc2 hbw h1
  go_wp2_with fail
  refine (HC.out _ HB.out).mono ?_
  rintro e w3 ⟨rfl, hb3⟩
  rw [HCl.out]
  have h1 : w3.cell? ⟨b, off + 1, none⟩ = some (.string ⟨#[97, 95, 51]⟩) := (hb3.cell (p := ⟨b, off + 1, none⟩) HBW.out).trans H1.out
  have HB3 := Lib.hid (HB.out.trans (hb3.mono HB.out.size))
  clear hb3
  go_wp2_with fail
  go_returns
  exact ⟨rfl, HB3.out⟩
end Go.Proofs.YthammifbpdoggaaDoor
