/- Layer 5: what the rows' lists give. -/
import Derived.Test.YthammifbpdoggaaDoorIdTaken
namespace Go.Proofs.YthammifbpdoggaaDoor
open Go.RowKit
theorem laidMet_of_H {l : List (String × DataW Unit)} {W : World} (h : laidMetH Tryd.prog l W) (hp : (l.all fun x => x.2.handleName?.isNone) = true) : laidMet Tryd.prog l W := (Go.MakeChecks.laidMetH_plain _ _ _ hp) ▸ h
theorem idTab_of {W : World} {a b c : String × DataW Unit} {rest : List (String × DataW Unit)} (h : laidMet Tryd.prog (a :: b :: c :: ("ladderback/ident.words", Rows.laid_ladderback_ident_words) :: ("ladderback/ident.alone", Rows.laid_ladderback_ident_alone) :: rest) W) : IdTab W := by
  have h1 := laidMet_head_tail (laidMet_head_tail (laidMet_head_tail h))
  have d := laid_flat (g := 1) (t := 32) (q := 2) (by kernel_rfl) (by kernel_rfl) (flatAt_array (n := 40) (m := 1) Tryd.underlying32 (flatAt_string Tryd.underlying9) (by kernel_rfl) (by kernel_rfl)) h1
  have ed : flatF 2 (Rows.laid_ladderback_ident_words : DataW Unit) = idWordsV := by kernel_rfl
  rw [ed] at d
  have h2 := laidMet_head_tail h1
  have c := laid_flat (g := 0) (t := 30) (q := 2) (by kernel_rfl) (by kernel_rfl) (flatAt_array (n := 4) (m := 1) Tryd.underlying30 (flatAt_string Tryd.underlying9) (by kernel_rfl) (by kernel_rfl)) h2
  have ec : flatF 2 (Rows.laid_ladderback_ident_alone : DataW Unit) = aloneV := by kernel_rfl
  rw [ec] at c
  exact ⟨d, c, big_of_cell (d 0), big_of_cell (c 0)⟩
end Go.Proofs.YthammifbpdoggaaDoor
