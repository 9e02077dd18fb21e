/- Layer 12: a word's operation is found. -/
import Derived.Test.YtmjhjcfjgefdiaaDoorOpBkPure
import Derived.Deep.MidRow
namespace Go.Proofs.YtmjhjcfjgefdiaaDoor
open Go.RowKit
set_option linter.unusedSimpArgs false
set_option linter.unusedVariables false
theorem wordsV_at {k : Nat} (h : k < 38) : wordsV.toArray[k]? = some (.string ⟨(wL.getD k []).toArray⟩) := by
  have hall : ∀ n : Fin 38, wordsV.toArray[n.1]? = some (.string ⟨(wL.getD n.1 []).toArray⟩) := by
    intro n
    have := n.2
    obtain h | h | h | h | h | h | h | h | h | h | h | h | h | h | h | h | h | h | h | h | h | h | h | h | h | h | h | h | h | h | h | h | h | h | h | h | h | h := o38 (n := (n.1 : Int)) (by omega)
    all_goals
      have e : n.1 = (n.1 : Int).toNat := by omega
      rw [e, h]
      rfl
  exact hall ⟨k, h⟩
theorem words_range {w : World} (hT : OTab w) : w.rangeAt 1 0 wordsV := fun j v hv => by rw [Nat.zero_add]; exact (hT.wd j).trans hv
theorem words_info : (Tryd.prog.info? 42).map (·.size) = some wordsV.length := by kernel_rfl
theorem beqs_yes {a b : List UInt8} (h : a = b) : (a == b) = true := by rw [h]; simp
theorem beqs_no {a b : List UInt8} (h : ¬ a = b) : (a == b) = false := by rw [beq_eq_false_iff_ne]; exact h
theorem words_index {A : Array Value} (hA : ∀ k, k < 38 → A[k]? = some (.string ⟨(wL.getD k []).toArray⟩)) {k : Nat} (h : k < 38) (W : World) : (Instr.index 42 (.agg A) (.int .i64 k)).run Tryd.prog W = .ok (.string ⟨(wL.getD k []).toArray⟩) W := by
  have h1 := hA k h
  have hk : (0 : Int) ≤ k ∧ k < 38 := by omega
  obtain ⟨i, hi, hsize⟩ : ∃ i, Tryd.prog.info? 9 = some i ∧ i.size = 1 := ⟨(Tryd.prog.info? 9).get!, by kernel_rfl, by kernel_rfl⟩
  simp [Instr.index, run_underlying Tryd.underlying42, asIntOf, hk, go_sem, part, sizeOf, typeInfo, hi, hsize, h1, h]
set_option maxHeartbeats 1000000 in
theorem op_Find (l : List UInt8) (w : World) (hT : OTab w) : Calls Tryd.prog 10 #[.string ⟨l.toArray⟩] w fun e w' => e = .returned (.tuple #[.int .i64 (oFi l), .bool (oFb l)]) ∧ w = w' := by
  have hR := words_range hT
  have hi := words_info
  have hA := @wordsV_at
  have HE := Lib.hid (oFi_end (l := l))
  have HH := Lib.hid (fun k => @oFi_hit l k)
  clear hT
  generalize wordsV = L at *
  go_enter Tryd.func10, Tryd.ntmps10
  go_wp2_with (with_reducible show wpList _ _ _ _ _ _; refine wpList_load_mid (op := ⟨some 6, _, _, _, _, _⟩) rfl 42 _ rfl 1 0 rfl L (.array 38 9) hR Tryd.underlying42 rfl hi ?_)
  clear hR hi
  generalize L.toArray = A at *
  go_loopw [7] (fun j wr => ∃ k : Nat, k ≤ 38 ∧ j = .int .i64 k ∧ Hid (∀ j, j < k → wL.getD j [] ≠ l) ∧ w = wr) (fun j _ => 38 - (intOf j).toNat)
  case atStart => exact ⟨0, by omega, rfl, Lib.hid (fun j h => by omega), rfl⟩
  case round =>
    obtain ⟨k, hk, rfl, hno, rfl⟩ := hrel
    by_cases h38 : k < 38
    · have hI := fun W => words_index (fun k h => hA h) h38 W
      by_cases hc : wL.getD k [] = l
      · obtain ⟨q1, q2⟩ := HH.out k h38 hc hno.out
        have Q1 := Lib.hid q1
        have Q2 := Lib.hid q2
        have hb := beqs_yes hc
        clear q1 q2 hc
        generalize wL.getD k [] = x at *
        go_wp2_with fail
        go_returns
        exact ⟨by rw [Q1.out, Q2.out]; rfl, rfl⟩
      · have hb := beqs_no hc
        have HC := Lib.hid hc
        clear hc
        generalize hx : wL.getD k [] = x at *
        have HX := Lib.hid hx
        clear hx
        go_wp2_with fail
        go_roundw
        case rel => exact ⟨k + 1, by omega, by simp, Lib.hid (fun j hj => by
          rcases (show j < k ∨ j = k by omega) with h3 | h3
          · exact hno.out j h3
          · rw [h3, HX.out]; exact HC.out), trivial⟩
        case measure => first | (simp [intOf]; done) | (simp [intOf]; omega)
    · obtain rfl : k = 38 := by omega
      obtain ⟨q1, q2⟩ := HE.out hno.out
      have Q1 := Lib.hid q1
      have Q2 := Lib.hid q2
      clear q1 q2
      go_wp2_with fail
      go_returns
      exact ⟨by rw [Q1.out, Q2.out]; rfl, rfl⟩
end Go.Proofs.YtmjhjcfjgefdiaaDoor
