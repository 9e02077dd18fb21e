/- Layer 11: Find, and the answer's Names. -/
import Derived.Test.YtajgdfgemcpjgaaDoorBlockP
namespace Go.Proofs.YtajgdfgemcpjgaaDoor
open Go.RowKit
set_option linter.unusedSimpArgs false
set_option linter.unusedVariables false
def bFi (s : List UInt8) : Int := if s = [84, 79, 78] then 1 else if s = [84, 79, 70] then 2 else if s = [84, 80] then 3 else if s = [67, 84, 85] then 4 else if s = [67, 84, 68] then 5 else if s = [67, 84, 85, 68] then 6 else if s = [82, 95, 84, 82, 73, 71] then 7 else if s = [70, 95, 84, 82, 73, 71] then 8 else 0
def nmK (k : Int) : List UInt8 := (bN k).data.toList
theorem ref11_Names (w : World) : Calls Tryd.prog 14 #[] w fun e w' => e = .returned (.slice (some ⟨w.heap.size, 0, none⟩) 9 9) ∧ w' = w.alloc (.cells #[.string ⟨#[]⟩, .string ⟨#[84, 79, 78]⟩, .string ⟨#[84, 79, 70]⟩, .string ⟨#[84, 80]⟩, .string ⟨#[67, 84, 85]⟩, .string ⟨#[67, 84, 68]⟩, .string ⟨#[67, 84, 85, 68]⟩, .string ⟨#[82, 95, 84, 82, 73, 71]⟩, .string ⟨#[70, 95, 84, 82, 73, 71]⟩] 9) := by
  go_enter Tryd.func14, Tryd.ntmps14
  go_wp2
  go_ret
  exact ⟨rfl, rfl⟩
theorem nm_case (s : List UInt8) : s = [84, 79, 78] ∨ s = [84, 79, 70] ∨ s = [84, 80] ∨ s = [67, 84, 85] ∨ s = [67, 84, 68] ∨ s = [67, 84, 85, 68] ∨ s = [82, 95, 84, 82, 73, 71] ∨ s = [70, 95, 84, 82, 73, 71] ∨ (([84, 79, 78] == s) = false ∧ ([84, 79, 70] == s) = false ∧ ([84, 80] == s) = false ∧ ([67, 84, 85] == s) = false ∧ ([67, 84, 68] == s) = false ∧ ([67, 84, 85, 68] == s) = false ∧ ([82, 95, 84, 82, 73, 71] == s) = false ∧ ([70, 95, 84, 82, 73, 71] == s) = false ∧ bFi s = 0) := by
  by_cases h1 : s = [84, 79, 78]
  · exact Or.inl h1
  by_cases h2 : s = [84, 79, 70]
  · exact Or.inr (Or.inl h2)
  by_cases h3 : s = [84, 80]
  · exact Or.inr (Or.inr (Or.inl h3))
  by_cases h4 : s = [67, 84, 85]
  · exact Or.inr (Or.inr (Or.inr (Or.inl h4)))
  by_cases h5 : s = [67, 84, 68]
  · exact Or.inr (Or.inr (Or.inr (Or.inr (Or.inl h5))))
  by_cases h6 : s = [67, 84, 85, 68]
  · exact Or.inr (Or.inr (Or.inr (Or.inr (Or.inr (Or.inl h6)))))
  by_cases h7 : s = [82, 95, 84, 82, 73, 71]
  · exact Or.inr (Or.inr (Or.inr (Or.inr (Or.inr (Or.inr (Or.inl h7))))))
  by_cases h8 : s = [70, 95, 84, 82, 73, 71]
  · exact Or.inr (Or.inr (Or.inr (Or.inr (Or.inr (Or.inr (Or.inr (Or.inl h8)))))))
  exact Or.inr (Or.inr (Or.inr (Or.inr (Or.inr (Or.inr (Or.inr (Or.inr (⟨beqL_no (fun e => h1 e.symm), beqL_no (fun e => h2 e.symm), beqL_no (fun e => h3 e.symm), beqL_no (fun e => h4 e.symm), beqL_no (fun e => h5 e.symm), beqL_no (fun e => h6 e.symm), beqL_no (fun e => h7 e.symm), beqL_no (fun e => h8 e.symm), by unfold bFi; rw [if_neg h1, if_neg h2, if_neg h3, if_neg h4, if_neg h5, if_neg h6, if_neg h7, if_neg h8]⟩))))))))
set_option maxHeartbeats 4000000 in
theorem block_Find (s : List UInt8) (w : World) (hT : BTab w) : Calls Tryd.prog 15 #[.string ⟨s.toArray⟩] w fun e w' => e = .returned (.int .i64 (bFi s)) ∧ w = w' := by
  have c1 : w.cell? ⟨0, 0, none⟩ = some (.string ⟨#[84, 79, 78]⟩) := hT.sh 0
  have c2 : w.cell? ⟨0, 3, none⟩ = some (.string ⟨#[84, 79, 70]⟩) := hT.sh 3
  have c3 : w.cell? ⟨0, 6, none⟩ = some (.string ⟨#[84, 80]⟩) := hT.sh 6
  have c4 : w.cell? ⟨0, 9, none⟩ = some (.string ⟨#[67, 84, 85]⟩) := hT.sh 9
  have c5 : w.cell? ⟨0, 12, none⟩ = some (.string ⟨#[67, 84, 68]⟩) := hT.sh 12
  have c6 : w.cell? ⟨0, 15, none⟩ = some (.string ⟨#[67, 84, 85, 68]⟩) := hT.sh 15
  have c7 : w.cell? ⟨0, 18, none⟩ = some (.string ⟨#[82, 95, 84, 82, 73, 71]⟩) := hT.sh 18
  have c8 : w.cell? ⟨0, 21, none⟩ = some (.string ⟨#[70, 95, 84, 82, 73, 71]⟩) := hT.sh 21
  clear hT
  rcases nm_case s with rfl | rfl | rfl | rfl | rfl | rfl | rfl | rfl | ⟨b1, b2, b3, b4, b5, b6, b7, b8, hf⟩
  · have hf : bFi [84, 79, 78] = 1 := by decide
    have HF := Lib.hid hf
    clear hf
    go_enter Tryd.func15, Tryd.ntmps15
    go_wp2
    go_rounds 9
    go_ret
    exact ⟨by rw [HF.out]; rfl, rfl⟩
  · have hf : bFi [84, 79, 70] = 2 := by decide
    have HF := Lib.hid hf
    clear hf
    go_enter Tryd.func15, Tryd.ntmps15
    go_wp2
    go_rounds 9
    go_ret
    exact ⟨by rw [HF.out]; rfl, rfl⟩
  · have hf : bFi [84, 80] = 3 := by decide
    have HF := Lib.hid hf
    clear hf
    go_enter Tryd.func15, Tryd.ntmps15
    go_wp2
    go_rounds 9
    go_ret
    exact ⟨by rw [HF.out]; rfl, rfl⟩
  · have hf : bFi [67, 84, 85] = 4 := by decide
    have HF := Lib.hid hf
    clear hf
    go_enter Tryd.func15, Tryd.ntmps15
    go_wp2
    go_rounds 9
    go_ret
    exact ⟨by rw [HF.out]; rfl, rfl⟩
  · have hf : bFi [67, 84, 68] = 5 := by decide
    have HF := Lib.hid hf
    clear hf
    go_enter Tryd.func15, Tryd.ntmps15
    go_wp2
    go_rounds 9
    go_ret
    exact ⟨by rw [HF.out]; rfl, rfl⟩
  · have hf : bFi [67, 84, 85, 68] = 6 := by decide
    have HF := Lib.hid hf
    clear hf
    go_enter Tryd.func15, Tryd.ntmps15
    go_wp2
    go_rounds 9
    go_ret
    exact ⟨by rw [HF.out]; rfl, rfl⟩
  · have hf : bFi [82, 95, 84, 82, 73, 71] = 7 := by decide
    have HF := Lib.hid hf
    clear hf
    go_enter Tryd.func15, Tryd.ntmps15
    go_wp2
    go_rounds 9
    go_ret
    exact ⟨by rw [HF.out]; rfl, rfl⟩
  · have hf : bFi [70, 95, 84, 82, 73, 71] = 8 := by decide
    have HF := Lib.hid hf
    clear hf
    go_enter Tryd.func15, Tryd.ntmps15
    go_wp2
    go_rounds 9
    go_ret
    exact ⟨by rw [HF.out]; rfl, rfl⟩
  · have HF := Lib.hid hf
    clear hf
    go_enter Tryd.func15, Tryd.ntmps15
    go_wp2
    go_rounds 9
    go_ret
    exact ⟨by rw [HF.out]; rfl, rfl⟩
end Go.Proofs.YtajgdfgemcpjgaaDoor
