/- Layer 18: the law RefsChecks' walk. -/
import Derived.Test.YtjlpmepnapaonaaDoorRefsTwo
import Derived.Test.YtjlpmepnapaonaaDoorOwn
namespace Go.Proofs.YtjlpmepnapaonaaDoor
open Go.RowKit
set_option linter.unusedSimpArgs false
set_option linter.unusedVariables false
def un0 : Un := ⟨[], [], 0, [], []⟩
def pr0 : Pr := ⟨[], [], [], [un0, un0]⟩
theorem pr0_few : fewP pr0 = true := by decide
theorem pr0_one : oneP pr0 0 33 0 0 = 8 ∧ oneP pr0 0 8 4 0 = 10 ∧ oneP pr0 0 33 1 0 = 0 := by decide
set_option maxHeartbeats 4000000 in
theorem law18_awake (w : World) (hT : TabR w) : Calls Tryd.prog 6 #[] w fun e w' => e = .returned (.bool true) ∧ Below w.heap.size w w' := by
  have cp := @cell_past
  obtain ⟨j, hj, hjz, hjsize, hjby⟩ : ∃ i, Tryd.prog.info? 46 = some i ∧ i.zero = some (.agg #[.string ⟨#[]⟩, .slice none 0 0, .int .i64 0, .slice none 0 0, .slice none 0 0]) ∧ i.size = 5 ∧ i.bytes = 96 := ⟨(Tryd.prog.info? 46).get!, by kernel_rfl, by kernel_rfl, by kernel_rfl, by kernel_rfl⟩
  have hm : ∀ W, (Instr.makeSlice 25 (.int .i64 2) (.int .i64 2)).run Tryd.prog W = .ok (.slice (some ⟨W.heap.size, 0, none⟩) 2 2) (W.alloc (.cells #[.string ⟨#[]⟩, .slice none 0 0, .int .i64 0, .slice none 0 0, .slice none 0 0, .string ⟨#[]⟩, .slice none 0 0, .int .i64 0, .slice none 0 0, .slice none 0 0] 46)) := fun W => by
    have := run_make W 25 46 j _ Tryd.underlying25 hj hjz .i64 .i64 (2 : Int) (2 : Int) (by omega) (by omega) (by rw [hjby]; omega) (by omega)
    rw [hjsize] at this
    rw [this, show madeCells (Value.agg #[.string ⟨#[]⟩, .slice none 0 0, .int .i64 0, .slice none 0 0, .slice none 0 0]).cells (Int.toNat 2 * 5) = #[.string ⟨#[]⟩, .slice none 0 0, .int .i64 0, .slice none 0 0, .slice none 0 0, .string ⟨#[]⟩, .slice none 0 0, .int .i64 0, .slice none 0 0, .slice none 0 0] by first | rfl | kernel_rfl | simp [madeCells, Value.cells]]; rfl
  clear hj hjz hjsize hjby
  obtain ⟨W0, hW0⟩ : ∃ W0, W0 = (w.alloc (.cells #[.string ⟨#[]⟩, .slice none 0 0, .int .i64 0, .slice none 0 0, .slice none 0 0, .string ⟨#[]⟩, .slice none 0 0, .int .i64 0, .slice none 0 0, .slice none 0 0] 46)).alloc (.cells #[.slice none 0 0, .slice none 0 0, .slice none 0 0, .slice (some ⟨w.heap.size, 0, none⟩) 2 2] 27) := ⟨_, rfl⟩
  obtain ⟨k1, k2, k3, k4⟩ := boxed2 w [.string ⟨#[]⟩, .slice none 0 0, .int .i64 0, .slice none 0 0, .slice none 0 0, .string ⟨#[]⟩, .slice none 0 0, .int .i64 0, .slice none 0 0, .slice none 0 0] [.slice none 0 0, .slice none 0 0, .slice none 0 0, .slice (some ⟨w.heap.size, 0, none⟩) 2 2] 46 27 (W' := W0) (by rw [hW0]; exact Below.refl _ _)
  have hp : PrAt W0 (.slice none 0 0) (.slice none 0 0) (.slice none 0 0) (.slice (some ⟨w.heap.size, 0, none⟩) 2 2) pr0 := by
    refine ⟨row_none, row_none, row_none, Or.inr ⟨w.heap.size, 0, 2, rfl, by decide, by decide, by unfold maxLen; omega, by omega, fun i x hx => ?_⟩⟩
    have hi : i < 2 := lt_of_get hx
    have hxe : x = un0 := by
      obtain rfl | rfl : i = 0 ∨ i = 1 := by omega
      all_goals exact (Option.some.inj hx).symm
    subst hxe
    refine ⟨[.string ⟨#[]⟩, .slice none 0 0, .int .i64 0, .slice none 0 0, .slice none 0 0], rfl, fun jj u hu => ?_, .slice none 0 0, .slice none 0 0, .slice none 0 0, rfl, ⟨row_none, row_none, row_none, by unfold sz un0; simp, by unfold I64 un0; simp⟩⟩
    have hjj : jj < 5 := lt_of_get hu
    obtain rfl | rfl : i = 0 ∨ i = 1 := by omega
    all_goals
      refine k1 _ u ?_
      obtain rfl | rfl | rfl | rfl | rfl : jj = 0 ∨ jj = 1 ∨ jj = 2 ∨ jj = 3 ∨ jj = 4 := by omega
      all_goals exact hu
  have HO := Lib.hid (fun o a b W (hb : Below W0.heap.size W0 W) => refs_One _ _ _ _ pr0 0 o a b W (hp.below hb) (hT.below (k4.trans (hb.mono k4.size))) pr0_few)
  obtain ⟨v1, v2, v3⟩ := pr0_one
  have V1 := Lib.hid v1
  have V2 := Lib.hid v2
  have V3 := Lib.hid v3
  have HW0 := Lib.hid hW0
  have K2 := Lib.hid k2
  clear hp hT k1 k2 v1 v2 v3 hW0
  go_enter Tryd.func6, Tryd.ntmps6
  go_wp2_with fail
  refine (HO.out 33 0 0 _ (by rw [← HW0.out]; exact Below.refl _ _)).mono ?_; rintro e w1 ⟨rfl, hb1⟩
  rw [V1.out]
  rw [← HW0.out] at hb1
  have e0 := (K2.out.keep k3 hb1) 0 _ rfl
  have e1 := (K2.out.keep k3 hb1) 1 _ rfl
  have e2 := (K2.out.keep k3 hb1) 2 _ rfl
  have e3 := (K2.out.keep k3 hb1) 3 _ rfl
  go_wp2_with fail
  refine (HO.out 8 4 0 _ hb1).mono ?_; rintro e w2 ⟨rfl, hb2⟩
  rw [V2.out]
  have hb2 := hb1.trans (hb2.mono hb1.size)
  clear e0 e1 e2 e3
  have e0 := (K2.out.keep k3 hb2) 0 _ rfl
  have e1 := (K2.out.keep k3 hb2) 1 _ rfl
  have e2 := (K2.out.keep k3 hb2) 2 _ rfl
  have e3 := (K2.out.keep k3 hb2) 3 _ rfl
  go_wp2_with fail
  refine (HO.out 33 1 0 _ hb2).mono ?_; rintro e w3 ⟨rfl, hb3⟩
  rw [V3.out]
  have hb3 := hb2.trans (hb3.mono hb2.size)
  go_wp2_with fail
  go_ret
  exact ⟨rfl, k4.trans (hb3.mono k4.size)⟩
end Go.Proofs.YtjlpmepnapaonaaDoor
