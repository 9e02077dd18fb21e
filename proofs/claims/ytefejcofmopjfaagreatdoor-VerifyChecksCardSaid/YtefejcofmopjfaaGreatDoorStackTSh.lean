/- Layer 19: what a shift takes, and leaves. -/
import Derived.Test.YtefejcofmopjfaaGreatDoorStackOf
namespace Go.Proofs.YtefejcofmopjfaaGreatDoor
open Go.RowKit
set_option linter.unusedSimpArgs false
set_option linter.unusedVariables false
set_option maxHeartbeats 4000000 in
theorem stack_ofTypeSh (o a b : Int) (w : World) (ha : I64 a) (ho : o = 18 ∨ o = 19) : Calls Tryz.prog 121 #[.agg #[.int .i64 o, .int .i64 a, .int .i64 b]] w fun e w' => ∃ r1 r2, e = .returned (.tuple #[r1, r2]) ∧ RowR 1 intR w' r1 [a, 2] ∧ RowR 1 intR w' r2 [a] ∧ Below w.heap.size w w' := by
  have cp := @cell_past
  have HP1 := Lib.hid (fun (W : World) (bl : Nat) (z : Int) (hz : I64 z) (hc : W.cell? ⟨bl, 0, none⟩ = some (.int .i64 z)) => stack_put (.slice none 0 0) (.slice (some ⟨bl, 0, none⟩) 1 1) [] [z] W row_none (row_cells1 hc hz) (by simp) (by simp))
  have HP2 := Lib.hid (fun (W : World) (bl : Nat) (z y : Int) (hz : I64 z) (hy : I64 y) (hc : W.cell? ⟨bl, 0, none⟩ = some (.int .i64 z)) (hc1 : W.cell? ⟨bl, 1, none⟩ = some (.int .i64 y)) => stack_put (.slice none 0 0) (.slice (some ⟨bl, 0, none⟩) 2 2) [] [z, y] W row_none (row_cells2 hc hc1 hz hy) (by simp) (by simp))
  have HA := Lib.hid ha
  clear ha
  rcases ho with rfl | rfl
  all_goals
    go_enter Tryz.func121, Tryz.ntmps121
    go_wp2_with fail
    go_region_with (first | (go_at_call 105; have hMark := Hr.out; clear hMark; refine (HP1.out _ _ a HA.out ?_).mono ?_; (focus (first | (go_cell; done) | (simp [go_sem]; done))); rintro e w2 ⟨r2, rfl, hr2, hb2⟩; have Hr2 := Lib.hid hr2; have HB2 : Below w1.heap.size w1 w2 := Below.trans (by (repeat' (first | (with_reducible exact Below.refl _ _) | (with_reducible assumption) | (with_reducible refine below_drewN ?_ _) | (with_reducible refine Below.alloc ?_ ?_ _) | (with_reducible refine Below.drew ?_) | (with_reducible refine Below.setCell ?_ ?_ _) | go_size))) (hb2.mono (by first | omega | (simp <;> omega))); obtain ⟨ra2, rc2, rfl⟩ := row_get hr2; clear hr2 hb2) | (go_at_call 105; refine (HP2.out _ _ a 2 HA.out I64_2 ?_ ?_).mono ?_; (focus (first | (go_cell; done) | (simp [go_sem]; done))); (focus (first | (go_cell; done) | (simp [go_sem]; done))); rintro e w1 ⟨r, rfl, hr, hb⟩; have hB : Below w.heap.size w w1 := Below.trans (by (repeat' (first | (with_reducible exact Below.refl _ _) | (with_reducible assumption) | (with_reducible refine below_drewN ?_ _) | (with_reducible refine Below.alloc ?_ ?_ _) | (with_reducible refine Below.drew ?_) | (with_reducible refine Below.setCell ?_ ?_ _) | go_size))) (hb.mono (by first | omega | (simp <;> omega))); obtain ⟨hc, hf⟩ := bcell hb; have hlt := blt hb; have hz := hb.size; (try simp only [World.size_alloc, World.size_drew, World.size_setCell, World.heap_drewN] at hz hc hf hlt); have Hr := Lib.hid hr; obtain ⟨ra, rc, rfl⟩ := row_get hr; clear hr hb))
  all_goals
    go_wp2_with fail
    go_returns
    exact ⟨_, _, rfl, Hr.out.below intR_stable HB2, Hr2.out, hB.trans (HB2.mono hB.size)⟩
end Go.Proofs.YtefejcofmopjfaaGreatDoor
