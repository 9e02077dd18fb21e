/- Layer 17: the program answers; shorter lists. -/
import Derived.Test.YtogmbfhefblbjaaDeclH
namespace Go.Proofs.Ytogmbfhefblbjaa
open Go.RowKit
set_option linter.unusedSimpArgs false
set_option linter.unusedVariables false
def un0 : Un := ⟨[], [], 0, [], []⟩
def un34 : Un := ⟨[], [], 0, [], [(34, 0, 0)]⟩
def pr34 : Pr := ⟨[], [], [], [un34]⟩
def prNo : Pr := ⟨[], [], [], []⟩
theorem row_un0 {w : World} {g : Nat} (h : w.heap[g]? = some (.cells #[.string ⟨#[]⟩, .slice none 0 0, .int .i64 0, .slice none 0 0, .slice none 0 0, .string ⟨#[]⟩, .slice none 0 0, .int .i64 0, .slice none 0 0, .slice none 0 0] 41)) : RowR 5 unitR w (.slice (some ⟨g, 0, none⟩) 2 2) [un0, un0] :=
  Or.inr ⟨g, 0, 2, rfl, by decide, by decide, by unfold maxLen; omega, heap_lt h, fun i x hx => by
    have hi : i < 2 := lt_of_get hx
    have hxe : x = un0 := by
      obtain rfl | rfl : i = 0 ∨ i = 1 := by omega
      all_goals exact (Option.some.inj hx).symm
    subst hxe
    refine ⟨[.string ⟨#[]⟩, .slice none 0 0, .int .i64 0, .slice none 0 0, .slice none 0 0], rfl, fun jj u hu => ?_, .slice none 0 0, .slice none 0 0, .slice none 0 0, rfl, ⟨row_none, row_none, row_none, by unfold sz un0; simp, by unfold I64 un0; simp⟩⟩
    have hjj : jj < 5 := lt_of_get hu
    obtain rfl | rfl : i = 0 ∨ i = 1 := by omega
    all_goals
      refine obj_cell h ?_
      obtain rfl | rfl | rfl | rfl | rfl : jj = 0 ∨ jj = 1 ∨ jj = 2 ∨ jj = 3 ∨ jj = 4 := by omega
      all_goals exact hu⟩
theorem row_un34 {w : World} {g c : Nat} (hc : w.heap[c]? = some (.cells #[.int .i64 34, .int .i64 0, .int .i64 0] 50)) (h : w.heap[g]? = some (.cells #[.string ⟨#[]⟩, .slice none 0 0, .int .i64 0, .slice none 0 0, .slice (some ⟨c, 0, none⟩) 1 1] 41)) : RowR 5 unitR w (.slice (some ⟨g, 0, none⟩) 1 1) [un34] :=
  Or.inr ⟨g, 0, 1, rfl, by decide, by decide, by unfold maxLen; omega, heap_lt h, fun i x hx => by
    have hi : i < 1 := lt_of_get hx
    obtain rfl : i = 0 := by omega
    have hxe : x = un34 := (Option.some.inj hx).symm
    subst hxe
    have hcode : RowR 3 insR w (.slice (some ⟨c, 0, none⟩) 1 1) [((34, 0, 0) : Ins)] := Or.inr ⟨c, 0, 1, rfl, by decide, by decide, by unfold maxLen; omega, heap_lt hc, fun i x hx => by
      have hi : i < 1 := lt_of_get hx
      obtain rfl : i = 0 := by omega
      have hxe : x = (34, 0, 0) := (Option.some.inj hx).symm
      subst hxe
      refine ⟨[.int .i64 34, .int .i64 0, .int .i64 0], rfl, fun jj u hu => ?_, rfl, show I64 (34 : Int) by unfold I64; omega, show I64 (0 : Int) by unfold I64; omega, show I64 (0 : Int) by unfold I64; omega⟩
      have hjj : jj < 3 := lt_of_get hu
      refine obj_cell hc ?_
      obtain rfl | rfl | rfl : jj = 0 ∨ jj = 1 ∨ jj = 2 := by omega
      all_goals exact hu⟩
    refine ⟨[.string ⟨#[]⟩, .slice none 0 0, .int .i64 0, .slice none 0 0, .slice (some ⟨c, 0, none⟩) 1 1], rfl, fun jj u hu => ?_, .slice none 0 0, .slice none 0 0, _, rfl, ⟨row_none, row_none, hcode, by unfold sz un34; simp, by unfold I64 un34; simp⟩⟩
    have hjj : jj < 5 := lt_of_get hu
    refine obj_cell h ?_
    obtain rfl | rfl | rfl | rfl | rfl : jj = 0 ∨ jj = 1 ∨ jj = 2 ∨ jj = 3 ∨ jj = 4 := by omega
    all_goals exact hu⟩
set_option maxHeartbeats 4000000 in
theorem law17_awake (w : World) : Calls Try.prog 6 #[] w fun e w' => e = .returned (.bool true) ∧ Below w.heap.size w w' := by
  obtain ⟨j, hj, hjz, hjsize, hjby⟩ : ∃ i, Try.prog.info? 41 = some i ∧ i.zero = some (.agg #[.string ⟨#[]⟩, .slice none 0 0, .int .i64 0, .slice none 0 0, .slice none 0 0]) ∧ i.size = 5 ∧ i.bytes = 96 := ⟨(Try.prog.info? 41).get!, by kernel_rfl, by kernel_rfl, by kernel_rfl, by kernel_rfl⟩
  have hm : ∀ W, (Instr.makeSlice 25 (.int .i64 2) (.int .i64 2)).run Try.prog W = .ok (.slice (some ⟨W.heap.size, 0, none⟩) 2 2) (W.alloc (.cells #[.string ⟨#[]⟩, .slice none 0 0, .int .i64 0, .slice none 0 0, .slice none 0 0, .string ⟨#[]⟩, .slice none 0 0, .int .i64 0, .slice none 0 0, .slice none 0 0] 41)) := fun W => by
    have := run_make W 25 41 j _ Try.underlying25 hj hjz .i64 .i64 (2 : Int) (2 : Int) (by omega) (by omega) (by rw [hjby]; omega) (by omega)
    rw [hjsize] at this
    rw [this, show madeCells (Value.agg #[.string ⟨#[]⟩, .slice none 0 0, .int .i64 0, .slice none 0 0, .slice none 0 0]).cells (Int.toNat 2 * 5) = #[.string ⟨#[]⟩, .slice none 0 0, .int .i64 0, .slice none 0 0, .slice none 0 0, .string ⟨#[]⟩, .slice none 0 0, .int .i64 0, .slice none 0 0, .slice none 0 0] by first | rfl | kernel_rfl | simp [madeCells, Value.cells]]; rfl
  clear hj hjz hjsize hjby
  have E1 := Lib.hid (show checkE prNo = 5 by decide)
  have E2 := Lib.hid (show checkE pr34 = 0 by decide)
  go_enter Try.func6, Try.ntmps6
  go_wp2_with fail
  refine (decl_Check _ _ _ _ prNo w ⟨row_none, row_none, row_none, row_none⟩ (by intro x hx; cases hx)).mono ?_; rintro e w1 ⟨rfl, hb1⟩
  rw [E1.out]
  have HB1 := Lib.hid hb1
  go_wp2_with fail
  obtain ⟨W2, hW2⟩ : ∃ W2, W2 = (w1.alloc (.cells #[.int .i64 34, .int .i64 0, .int .i64 0] 50)).alloc (.cells #[.string ⟨#[]⟩, .slice none 0 0, .int .i64 0, .slice none 0 0, .slice (some ⟨w1.heap.size, 0, none⟩) 1 1] 41) := ⟨_, rfl⟩
  have hb2 : Below w1.heap.size w1 W2 := by rw [hW2]; exact by (repeat' (first | (with_reducible exact Below.refl _ _) | (with_reducible assumption) | (with_reducible refine below_drewN ?_ _) | (with_reducible refine Below.alloc ?_ ?_ _) | (with_reducible refine Below.drew ?_) | (with_reducible refine Below.setCell ?_ ?_ _) | go_size))
  have hz2 : W2.heap.size = w1.heap.size + 2 := by rw [hW2]; simp
  have hc2 : W2.heap[w1.heap.size]? = some (.cells #[.int .i64 34, .int .i64 0, .int .i64 0] 50) := by rw [hW2]; exact (get_past (by simp)).trans (get_last rfl)
  have hg2 : W2.heap[w1.heap.size + 1]? = some (.cells #[.string ⟨#[]⟩, .slice none 0 0, .int .i64 0, .slice none 0 0, .slice (some ⟨w1.heap.size, 0, none⟩) 1 1] 41) := by rw [hW2]; exact get_last (by simp)
  rw [← hW2]
  refine (decl_Check _ _ _ _ pr34 W2 ⟨row_none, row_none, row_none, row_un34 hc2 hg2⟩ (by intro x hx; obtain rfl := List.mem_singleton.1 hx; decide)).mono ?_; rintro e w3 ⟨rfl, hb3⟩
  rw [E2.out]
  have HB3 := Lib.hid (HB1.out.trans ((hb2.trans (hb3.mono hb2.size)).mono HB1.out.size))
  clear hb1 hb2 hb3 hc2 hg2
  go_wp2_with fail
  refine (decl_Sigs _ [un0, un0] _ (row_un0 (get_last rfl)) (by intro x hx; simp at hx; subst hx; decide) (by decide)).mono ?_; rintro e w4 ⟨r, rfl, hr, hb4⟩
  obtain ⟨ar, cr, rfl⟩ := row_get hr
  have HB4 := Lib.hid (HB3.out.trans (below_any (w0 := w3) (by (repeat' (first | (with_reducible exact Below.refl _ _) | (with_reducible assumption) | (with_reducible refine below_drewN ?_ _) | (with_reducible refine Below.alloc ?_ ?_ _) | (with_reducible refine Below.drew ?_) | (with_reducible refine Below.setCell ?_ ?_ _) | go_size))) hb4 HB3.out.size))
  clear hr hb4
  simp only [List.length_map, List.length_cons, List.length_nil, Nat.zero_add]
  go_wp2_with fail
  go_ret
  exact ⟨rfl, HB4.out⟩
end Go.Proofs.Ytogmbfhefblbjaa
