/- Layer 23: the first state of one variable of three, as the law asks whether the program answers. -/
import Derived.Test.YthanmbfelihkfaaStRefSame
namespace Go.Proofs.Ythanmbfelihkfaa
open Go.RowKit
set_option linter.unusedSimpArgs false
set_option linter.unusedVariables false
set_option maxHeartbeats 16000000 in
theorem state_New_one (g : Nat) (w : World) (hg : g < w.heap.size) (c0 : w.cell? ⟨g, 0, none⟩ = some (.string ⟨#[]⟩)) (c1 : w.cell? ⟨g, 1, none⟩ = some (.int .i64 2)) (c2 : w.cell? ⟨g, 2, none⟩ = some (.int .i64 3)) (c3 : w.cell? ⟨g, 3, none⟩ = some (.int .i64 0)) (c4 : w.cell? ⟨g, 4, none⟩ = some (.int .i64 7)) :
    Calls Try.prog 9 #[.slice (some ⟨g, 0, none⟩) 1 1, .slice none 0 0] w fun e w' => ∃ (p r : Nat) (b : Value), e = .returned (.agg #[.slice (some ⟨p, 0, none⟩) 1 1, b, .int .i64 0, .int .i64 0]) ∧ (∃ a n, b = .slice a 0 n) ∧ w'.cell? ⟨p, 0, none⟩ = some (.slice (some ⟨r, 0, none⟩) 3 3) ∧ w'.cell? ⟨r, 2, none⟩ = some (.int .i64 7) ∧ Below w.heap.size w w' := by
  obtain ⟨i, hi, hz, hsize, hby⟩ : ∃ i, Try.prog.info? 3 = some i ∧ i.zero = some (.int .i64 0) ∧ i.size = 1 ∧ i.bytes = 8 := ⟨(Try.prog.info? 3).get!, by kernel_rfl, by kernel_rfl, by kernel_rfl, by kernel_rfl⟩
  obtain ⟨j, hj, hjz, hjsize, hjby⟩ : ∃ i, Try.prog.info? 45 = some i ∧ i.zero = some (.slice none 0 0) ∧ i.size = 1 ∧ i.bytes = 24 := ⟨(Try.prog.info? 45).get!, by kernel_rfl, by kernel_rfl, by kernel_rfl, by kernel_rfl⟩
  obtain ⟨ii, hii, hiz, hisize, hiby⟩ : ∃ i, Try.prog.info? 62 = some i ∧ i.zero = some (.agg #[.int .i64 0, .int .i64 0, .int .i64 0, .int .i64 0, .int .i64 0, .int .i64 0, .int .i64 0, .int .i64 0, .int .i64 0, .int .i64 0]) ∧ i.size = 10 ∧ i.bytes = 80 := ⟨(Try.prog.info? 62).get!, by kernel_rfl, by kernel_rfl, by kernel_rfl, by kernel_rfl⟩
  have hm1 : ∀ W, (Instr.makeSlice 28 (.int .i64 1) (.int .i64 1)).run Try.prog W = .ok (.slice (some ⟨W.heap.size, 0, none⟩) 1 1) (W.alloc (.cells #[.slice none 0 0] 45)) := fun W => by
    have := run_make W 28 45 j _ Try.underlying28 hj hjz .i64 .i64 (1 : Int) (1 : Int) (by omega) (by omega) (by rw [hjby]; omega) (by omega)
    rw [hjsize] at this
    rw [this, show madeCells (Value.slice none 0 0).cells (Int.toNat 1 * 1) = #[.slice none 0 0] by first | rfl | kernel_rfl | simp [madeCells, Value.cells]]; rfl
  have hm3 : ∀ W, (Instr.makeSlice 45 (.int .i64 3) (.int .i64 3)).run Try.prog W = .ok (.slice (some ⟨W.heap.size, 0, none⟩) 3 3) (W.alloc (.cells #[.int .i64 0, .int .i64 0, .int .i64 0] 3)) := fun W => by
    have := run_make W 45 3 i _ Try.underlying45 hi hz .i64 .i64 (3 : Int) (3 : Int) (by omega) (by omega) (by rw [hby]; omega) (by omega)
    rw [hsize] at this
    rw [this, show madeCells (Value.int .i64 0).cells (Int.toNat 3 * 1) = #[.int .i64 0, .int .i64 0, .int .i64 0] by first | rfl | kernel_rfl | simp [madeCells, Value.cells]]; rfl
  have hm0 : ∀ W, (Instr.makeSlice 29 (.int .i64 0) (.int .i64 0)).run Try.prog W = .ok (.slice (some ⟨W.heap.size, 0, none⟩) 0 0) (W.alloc (.cells #[] 62)) := fun W => by
    have := run_make W 29 62 ii _ Try.underlying29 hii hiz .i64 .i64 (0 : Int) (0 : Int) (by omega) (by omega) (by rw [hiby]; omega) (by omega)
    rw [hisize] at this
    rw [this, show Int.toNat 0 * 10 = 0 from rfl, show ∀ c, madeCells c 0 = #[] from fun c => by first | rfl | simp [madeCells]]; rfl
  clear hi hz hsize hby hj hjz hjsize hjby hii hiz hisize hiby
  have cp := @cell_past
  have hg1 : g < w.heap.size + 1 := by omega
  have hg2 : g < w.heap.size + 1 + 1 := by omega
  have hg3 : g < w.heap.size + 1 + 1 + 1 := by omega
  have hg4 : g < w.heap.size + 1 + 1 + 1 + 1 := by omega
  have hg5 : g < w.heap.size + 1 + 1 + 1 + 1 + 1 := by omega
  have hg6 : g < w.heap.size + 1 + 1 + 1 + 1 + 1 + 1 := by omega
  have hg7 : g < w.heap.size + 1 + 1 + 1 + 1 + 1 + 1 + 1 := by omega
  go_enter Try.func9, Try.ntmps9
  go_wp2_with fail
  go_region
  all_goals
    go_wp2_with fail
    refine wp_loop_rounds 2 ?_
    rw [rounds_succ]
    go_wp2_with fail
    go_region
    go_wp2_with fail
    refine wp_loop_rounds 4 ?_
    rw [rounds_succ]
    go_wp2_with fail
    go_region
    go_wp2_with fail
    rw [rounds_succ]
    go_wp2_with fail
    go_region
    go_wp2_with fail
    rw [rounds_succ]
    go_wp2_with fail
    go_region
    go_wp2_with fail
    rw [rounds_succ]
    go_wp2_with fail
    rw [rounds_succ]
    go_wp2_with fail
    refine bodyPost_ret (by simp [results, Try.results9, go_sem, more_cell, more_size, more_frozen]; try rfl) rfl ?_
    refine ⟨_, w.heap.size + 1 + 1 + 1 + 1 + 1, _, rfl, ⟨_, _, rfl⟩, ?_, ?_, by (repeat' (first | (with_reducible exact Below.refl _ _) | (with_reducible assumption) | (with_reducible refine below_drewN ?_ _) | (with_reducible refine Below.alloc ?_ ?_ _) | (with_reducible refine Below.drew ?_) | (with_reducible refine Below.setCell ?_ ?_ _) | go_size))⟩
    · first | go_cell | (simp [go_sem]; done)
    · first | go_cell | (simp [go_sem]; done)
end Go.Proofs.Ythanmbfelihkfaa
