/- Layers 18, 19: what the rows' lists give. -/
import Derived.Test.YtefejcofmopjfaaGreatDoorLaidFlat
import Derived.Test.YtefejcofmopjfaaGreatDoorRefs
import Derived.Test.YtefejcofmopjfaaGreatDoorBlock
namespace Go.Proofs.YtefejcofmopjfaaGreatDoor
open Go.RowKit
set_option maxRecDepth 100000 in
theorem laidMet_of_H {l : List (String × DataW Unit)} {W : World} (h : laidMetH Tryz.prog l W) (hp : (l.all fun x => x.2.handleName?.isNone) = true) : laidMet Tryz.prog l W := (Go.MakeChecks.laidMetH_plain _ _ _ hp) ▸ h
set_option maxRecDepth 100000 in
theorem aGoes_of {W : World} {rest : List (String × DataW Unit)} (h : laidMet Tryz.prog (("ladderback/alu.goes", Rows.laid_ladderback_alu_goes) :: rest) W) : AGoes W := by
  have c := laid_cells (g := 2) (n := 18) (t := 171) (e := 3) (by kernel_rfl) (by kernel_rfl) Tryz.underlying171 (Or.inl ⟨_, Tryz.underlying3⟩) (by kernel_rfl) (by kernel_rfl) h
  exact ⟨fun i _ => by rw [c i, ← List.getElem?_map]; rfl, big_of_cell (c 0)⟩
set_option maxRecDepth 100000 in
theorem sTab_of {W : World} {rest : List (String × DataW Unit)} (h : laidMet Tryz.prog (("ladderback/op.shapes", Rows.laid_ladderback_op_shapes) :: rest) W) : STab W := by
  have d := laid_flat (g := 1) (t := 170) (q := 3) (by kernel_rfl) (by kernel_rfl) (flatAt_array (n := 38) (m := 2) Tryz.underlying170 (flatAt_array (n := 2) (m := 1) Tryz.underlying169 (flatAt_int Tryz.underlying3) (by kernel_rfl) (by kernel_rfl)) (by kernel_rfl) (by kernel_rfl)) h
  have ed : flatF 3 (Rows.laid_ladderback_op_shapes : DataW Unit) = shapesV := by kernel_rfl
  rw [ed] at d
  exact ⟨d, big_of_cell (d 0)⟩
set_option maxRecDepth 100000 in
theorem fields_case {fs : Array Field} {ts : Array (TypeId × Nat)} (h : fs.map (fun f => (f.type, f.offset)) = ts) {i : Nat} {f : Field} (hf : fs[i]? = some f) : ts[i]? = some (f.type, f.offset) := by
  rw [← h]; simp [hf]
set_option maxRecDepth 100000 in
theorem flat_shape : FlatAt Tryz.prog 181 1 3 := by
  have hu : Tryz.prog.underlying 181 = some (.struct (Tryz.prog.fieldsOf 181)) := by kernel_rfl
  have hs : (Tryz.prog.fieldsOf 181).size = 3 := by kernel_rfl
  have hm : (Tryz.prog.fieldsOf 181).map (fun f => (f.type, f.offset)) = #[(9, 0), (3, 1), (3, 2)] := by kernel_rfl
  have hc1 : Tryz.prog.cellsOf 9 = 1 := by kernel_rfl
  have hc2 : Tryz.prog.cellsOf 3 = 1 := by kernel_rfl
  have this : FlatAt Tryz.prog 181 1 (Tryz.prog.fieldsOf 181).size := flatAt_struct hu (by rw [hs]; kernel_rfl) (fun i f hf => by
    have hk := fields_case hm hf
    have hi : i < 3 := by
      by_cases h : i < 3
      · exact h
      · rw [Array.getElem?_eq_none (by simp; omega)] at hk; cases hk
    obtain rfl | rfl | rfl : i = 0 ∨ i = 1 ∨ i = 2 := by omega
    all_goals
      have h1 := Option.some.inj hk
      have h2 := congrArg Prod.fst h1
      have h3 := congrArg Prod.snd h1
      simp only at h2 h3
      rw [← h2, ← h3]
      first | exact ⟨flatAt_string Tryz.underlying9, rfl, hc1⟩ | exact ⟨flatAt_int Tryz.underlying3, rfl, hc2⟩)
  rw [hs] at this
  exact @this
set_option maxRecDepth 100000 in
theorem bSh_of {W : World} {rest : List (String × DataW Unit)} (h : laidMet Tryz.prog (("ladderback/block.shapes", Rows.laid_ladderback_block_shapes) :: rest) W) : BSh W := by
  have c := laid_flat (g := 3) (t := 182) (by kernel_rfl) (by kernel_rfl) (show FlatAt Tryz.prog 182 2 (8 * 3) from flatAt_array (n := 8) (m := 3) Tryz.underlying182 flat_shape (by kernel_rfl) (by kernel_rfl)) h
  have ec : flatF 2 (Rows.laid_ladderback_block_shapes : DataW Unit) = bShapesV := by kernel_rfl
  rw [ec] at c
  exact ⟨c, big_of_cell (c 0)⟩
set_option maxRecDepth 100000 in
theorem flat_field : FlatAt Tryz.prog 184 1 2 := by
  have hu : Tryz.prog.underlying 184 = some (.struct (Tryz.prog.fieldsOf 184)) := by kernel_rfl
  have hs : (Tryz.prog.fieldsOf 184).size = 2 := by kernel_rfl
  have hm : (Tryz.prog.fieldsOf 184).map (fun f => (f.type, f.offset)) = #[(9, 0), (3, 1)] := by kernel_rfl
  have hc1 : Tryz.prog.cellsOf 9 = 1 := by kernel_rfl
  have hc2 : Tryz.prog.cellsOf 3 = 1 := by kernel_rfl
  have this : FlatAt Tryz.prog 184 1 (Tryz.prog.fieldsOf 184).size := flatAt_struct hu (by rw [hs]; kernel_rfl) (fun i f hf => by
    have hk := fields_case hm hf
    have hi : i < 2 := by
      by_cases h : i < 2
      · exact h
      · rw [Array.getElem?_eq_none (by simp; omega)] at hk; cases hk
    obtain rfl | rfl : i = 0 ∨ i = 1 := by omega
    all_goals
      have h1 := Option.some.inj hk
      have h2 := congrArg Prod.fst h1
      have h3 := congrArg Prod.snd h1
      simp only at h2 h3
      rw [← h2, ← h3]
      first | exact ⟨flatAt_string Tryz.underlying9, rfl, hc1⟩ | exact ⟨flatAt_int Tryz.underlying3, rfl, hc2⟩)
  rw [hs] at this
  exact @this
set_option maxRecDepth 100000 in
theorem bTab_of {W : World} {rest : List (String × DataW Unit)} (h : laidMet Tryz.prog (("ladderback/block.shapes", Rows.laid_ladderback_block_shapes) :: ("ladderback/block.rows", Rows.laid_ladderback_block_rows) :: rest) W) : BTab W := by
  have c := laid_flat (g := 3) (t := 182) (by kernel_rfl) (by kernel_rfl) (show FlatAt Tryz.prog 182 2 (8 * 3) from flatAt_array (n := 8) (m := 3) Tryz.underlying182 flat_shape (by kernel_rfl) (by kernel_rfl)) h
  have d := laid_flat (g := 4) (t := 186) (q := 3) (by kernel_rfl) (by kernel_rfl) (flatAt_array (n := 5) (m := 16) Tryz.underlying186 (flatAt_array (n := 8) (m := 2) Tryz.underlying185 flat_field (by kernel_rfl) (by kernel_rfl)) (by kernel_rfl) (by kernel_rfl)) (laidMet_head_tail h)
  have ec : flatF 2 (Rows.laid_ladderback_block_shapes : DataW Unit) = bShapesV := by kernel_rfl
  have ed : flatF 3 (Rows.laid_ladderback_block_rows : DataW Unit) = rowsV := by kernel_rfl
  rw [ec] at c
  rw [ed] at d
  exact ⟨c, d, big_of_cell (c 0), big_of_cell (d 0)⟩
set_option maxRecDepth 100000 in
theorem tabR_of {W : World} {rest : List (String × DataW Unit)} (h : laidMet Tryz.prog (("ladderback/alu.goes", Rows.laid_ladderback_alu_goes) :: ("ladderback/block.shapes", Rows.laid_ladderback_block_shapes) :: ("ladderback/block.rows", Rows.laid_ladderback_block_rows) :: ("ladderback/op.shapes", Rows.laid_ladderback_op_shapes) :: rest) W) : TabR W ∧ BTab W :=
  ⟨⟨sTab_of (laidMet_head_tail (laidMet_head_tail (laidMet_head_tail h))), aGoes_of h, bSh_of (laidMet_head_tail h)⟩, bTab_of (laidMet_head_tail h)⟩
end Go.Proofs.YtefejcofmopjfaaGreatDoor
