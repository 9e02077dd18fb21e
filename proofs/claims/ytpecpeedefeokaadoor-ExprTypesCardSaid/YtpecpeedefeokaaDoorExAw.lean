/- Layer 26: awake. -/
import Derived.Test.YtpecpeedefeokaaDoorExTy
namespace Go.Proofs.YtpecpeedefeokaaDoor
open Go.RowKit
set_option linter.unusedSimpArgs false
set_option linter.unusedVariables false
def cE : Ex := ⟨1, 2, 5, 0, []⟩
def bE : Ex := ⟨7, 0, 0, 20, [cE, cE]⟩
theorem sizeE_c : sizeE cE = 1 := by rw [sizeE_mk]; rfl
theorem sizeE_b : sizeE bE = 3 := by rw [sizeE_mk]; show 1 + ([cE, cE].map sizeE).sum = 3; simp [sizeE_c]
theorem typeE_c (s : Sc) : typeE s cE = 2 := by
  rw [typeE_mk]
  show typeF s cE [] = 2
  unfold typeF leafT cE
  rw [show kIn 2 5 = true by decide]
  rfl
theorem typeE_b (s : Sc) : typeE s bE = 1 := by
  rw [typeE_mk]
  show typeF s bE ([cE, cE].map (typeE s)) = 1
  simp only [List.map_cons, List.map_nil, typeE_c]
  unfold typeF doubleT bE
  rw [show aBinary 20 = true by decide]
  show aResult 20 2 = 1
  decide
theorem scAt_empty (w : World) : ScAt w (.slice none 0 0) (.slice none 0 0) (.slice none 0 0) ⟨[], [], []⟩ :=
  ⟨Or.inl ⟨_, _, rfl, rfl, by simp [maxLen]⟩, Or.inl ⟨_, _, rfl, rfl, by simp [maxLen]⟩, Or.inl ⟨_, _, rfl, rfl, by simp [maxLen]⟩⟩
theorem exV_c (w : World) : ExV w (.agg #[.int .i64 1, .int .i64 2, .int .i64 5, .int .i64 0, .slice none 0 0]) cE :=
  ⟨.slice none 0 0, rfl, by unfold exI cE I64; decide, Or.inl ⟨_, _, rfl, rfl, by simp [maxLen]⟩⟩
theorem exR_c (w : World) : exR w [.int .i64 1, .int .i64 2, .int .i64 5, .int .i64 0, .slice none 0 0] cE :=
  exR_eq.2 ⟨.slice none 0 0, rfl, by unfold exI cE I64; decide, Or.inl ⟨_, _, rfl, rfl, by simp [maxLen]⟩⟩
theorem exV_b {w : World} {g : Nat} {t : TypeId} (h : w.heap[g]? = some (.cells #[.int .i64 1, .int .i64 2, .int .i64 5, .int .i64 0, .slice none 0 0, .int .i64 1, .int .i64 2, .int .i64 5, .int .i64 0, .slice none 0 0] t)) :
    ExV w (.agg #[.int .i64 7, .int .i64 0, .int .i64 0, .int .i64 20, .slice (some ⟨g, 0, none⟩) 2 2]) bE := by
  refine ⟨_, rfl, by unfold exI bE I64; decide, Or.inr ⟨g, 0, 2, rfl, by decide, by decide, by decide, heap_lt h, fun i x hx => ?_⟩⟩
  have hi : i = 0 ∧ x = cE ∨ i = 1 ∧ x = cE := by
    match i, hx with
    | 0, hx => exact Or.inl ⟨rfl, (Option.some.inj hx).symm⟩
    | 1, hx => exact Or.inr ⟨rfl, (Option.some.inj hx).symm⟩
    | (k + 2), hx => simp [bE] at hx
  refine ⟨_, ?_, ?_, (by rcases hi with ⟨_, rfl⟩ | ⟨_, rfl⟩ <;> exact exR_c w)⟩
  · rfl
  · intro j u hu
    have hj : j < 5 := lt_of_get hu
    rcases hi with ⟨rfl, _⟩ | ⟨rfl, _⟩
    all_goals
      refine obj_cell h ?_
      obtain rfl | rfl | rfl | rfl | rfl : j = 0 ∨ j = 1 ∨ j = 2 ∨ j = 3 ∨ j = 4 := by omega
      all_goals exact hu
set_option maxHeartbeats 2000000 in
theorem law26_awake (w : World) (hg : AGoes w) (hT : BTab w) : Calls Tryd.prog 8 #[] w fun r w' => r = .returned (.bool true) ∧ Below w.heap.size w w' := by
  have HT := Lib.hid (fun W v (h : Below w.heap.size w W) (hv : ExV W v bE) => expr_Type (.slice none 0 0) (.slice none 0 0) (.slice none 0 0) (.slice none 0 0) ⟨[], [], []⟩ bE (by unfold SmallE; rw [sizeE_b]; omega) v W (scAt_empty W) hv (hg.below h) (hT.below h))
  have HS := Lib.hid (fun W => expr_Size cE (by unfold SmallE; rw [sizeE_c]; omega) W _ (exV_c W))
  rw [typeE_b, sizeE_c] at *
  clear hg hT
  go_enter Tryd.func8, Tryd.ntmps8
  go_wp2_with fail
  obtain ⟨W0, hW0⟩ : ∃ W0, W0 = (w.alloc (.cells #[.int .i64 1, .int .i64 2, .int .i64 5, .int .i64 0, .slice none 0 0] 30)).alloc (.cells #[.int .i64 1, .int .i64 2, .int .i64 5, .int .i64 0, .slice none 0 0, .int .i64 1, .int .i64 2, .int .i64 5, .int .i64 0, .slice none 0 0] 30) := ⟨_, rfl⟩
  rw [← hW0]
  have o0 : W0.heap[w.heap.size]? = some (.cells #[.int .i64 1, .int .i64 2, .int .i64 5, .int .i64 0, .slice none 0 0] 30) := by rw [hW0]; exact (get_past (by simp)).trans (get_last rfl)
  have o1 : W0.heap[w.heap.size + 1]? = some (.cells #[.int .i64 1, .int .i64 2, .int .i64 5, .int .i64 0, .slice none 0 0, .int .i64 1, .int .i64 2, .int .i64 5, .int .i64 0, .slice none 0 0] 30) := by rw [hW0]; exact get_last (by simp)
  have hb : Below w.heap.size w W0 := by rw [hW0]; exact by (repeat' (first | (with_reducible exact Below.refl _ _) | (with_reducible assumption) | (with_reducible refine below_drewN ?_ _) | (with_reducible refine Below.alloc ?_ ?_ _) | (with_reducible refine Below.drew ?_) | (with_reducible refine Below.setCell ?_ ?_ _) | go_size))
  clear hW0
  refine (HT.out W0 _ hb (exV_b o1)).mono ?_; rintro r w2 ⟨rfl, hb2⟩
  have o2 := obj_below o0 hb2 (heap_lt o0)
  have c0 : w2.cell? ⟨w.heap.size, 0, none⟩ = some (.int .i64 1) := obj_cell o2 (i := 0) rfl
  have c1 : w2.cell? ⟨w.heap.size, 1, none⟩ = some (.int .i64 2) := obj_cell o2 (i := 1) rfl
  have c2 : w2.cell? ⟨w.heap.size, 2, none⟩ = some (.int .i64 5) := obj_cell o2 (i := 2) rfl
  have c3 : w2.cell? ⟨w.heap.size, 3, none⟩ = some (.int .i64 0) := obj_cell o2 (i := 3) rfl
  have c4 : w2.cell? ⟨w.heap.size, 4, none⟩ = some (.slice none 0 0) := obj_cell o2 (i := 4) rfl
  have HB := Lib.hid (hb.trans (hb2.mono hb.size))
  clear o0 o1 o2 hb hb2
  go_wp2_with fail
  refine (HS.out _).mono ?_; rintro r w3 ⟨rfl, hb3⟩
  have HB3 := Lib.hid (HB.out.trans (hb3.mono HB.out.size))
  clear hb3
  go_wp2_with fail
  go_ret
  exact ⟨rfl, HB3.out⟩
end Go.Proofs.YtpecpeedefeokaaDoor
