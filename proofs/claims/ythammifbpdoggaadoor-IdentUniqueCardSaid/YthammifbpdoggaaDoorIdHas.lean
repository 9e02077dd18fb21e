/- Layer 5: is a text one of some (the answer's side). -/
import Derived.Test.YthammifbpdoggaaDoorIdUniqW
namespace Go.Proofs.YthammifbpdoggaaDoor
open Go.RowKit Go.Maps
set_option linter.unusedSimpArgs false
set_option linter.unusedVariables false
theorem has_yes {L : List (List UInt8)} {s : List UInt8} {k : Nat} (hk : k < L.length) (h : L.getD k [] = s) : L.contains s = true := by
  rw [List.contains_iff_mem, ← h, List.getD_eq_getElem?_getD, List.getElem?_eq_getElem hk]
  exact List.getElem_mem hk
theorem has_no {L : List (List UInt8)} {s : List UInt8} (h : ∀ j, j < L.length → (L.getD j [] == s) = false) : L.contains s = false := by
  cases hc : L.contains s
  · rfl
  · obtain ⟨j, hj, e⟩ := List.getElem_of_mem (List.contains_iff_mem.1 hc)
    have := h j hj
    rw [List.getD_eq_getElem?_getD, List.getElem?_eq_getElem hj] at this
    simp [e] at this
set_option maxHeartbeats 1000000 in
theorem ref05_has (v : Value) (L : List (List UInt8)) (s : List UInt8) (w : World) (hv : RowAt w v L.length (strV L)) : Calls Tryd.prog 22 #[v, .string ⟨s.toArray⟩] w fun e w' => e = .returned (.bool (L.contains s)) ∧ w' = w := by
  have h63 := hv.le
  obtain ⟨a, cap, rfl, hcell⟩ := row_any hv
  obtain ⟨N, hN⟩ : ∃ N, L.length = N := ⟨_, rfl⟩
  rw [hN] at hcell h63 ⊢
  have hN63 : (N : Int) ≤ 9223372036854775807 := by omega
  have HCl := Lib.hid hcell
  have HY := Lib.hid (fun k (h : k < N) (e : L.getD k [] = s) => has_yes (L := L) (by rw [hN]; exact h) e)
  have HNo := Lib.hid (fun (h : ∀ j, j < N → (L.getD j [] == s) = false) => has_no (L := L) (by rw [hN]; exact h))
  clear hv hcell hN h63
  go_enter Tryd.func22, Tryd.ntmps22
  go_wp2_with fail
  go_loopw [5] (fun jj wr => ∃ k : Nat, k ≤ N ∧ jj = .int .i64 k ∧ Hid (∀ j, j < k → (L.getD j [] == s) = false) ∧ wr = w) (fun jj _ => N - (intOf jj).toNat)
  case atStart => exact ⟨0, by omega, rfl, Lib.hid (fun j h => by omega), rfl⟩
  case round =>
    obtain ⟨k, hk, rfl, hno, rfl⟩ := hrel
    by_cases hlt : k < N
    · have qk : ((k : Int) < (N : Int)) = True := eq_true (by omega)
      have qk' : (k < N) = True := eq_true hlt
      obtain ⟨b, off, rfl, hc1, hc2, hbw, hcell0⟩ := HCl.out k hlt
      have hc3 : cap ≤ 9223372036854775807 := hc2
      have hcell : wr.cell? ⟨b, off + k, none⟩ = some (.string ⟨(L.getD k []).toArray⟩) := hcell0
      have HYk := Lib.hid (HY.out k hlt)
      have HLT := Lib.hid hlt
      have hk63 : (k : Int) < 9223372036854775807 := by omega
      clear hcell0 hc2 hbw hlt
      obtain ⟨x, hx⟩ : ∃ x, L.getD k [] = x := ⟨_, rfl⟩
      have HX := Lib.hid hx
      rw [hx] at hcell
      clear hx
      by_cases hc : x = s
      · have hb := bq_yes hc
        have hq := Lib.hid (HYk.out (HX.out.trans hc))
        clear hc
        go_wp2_with fail
        go_returns
        exact ⟨by rw [hq.out]; rfl, rfl⟩
      · have hb := bq_no hc
        have hq := Lib.hid (show (L.getD k [] == s) = false by rw [HX.out]; exact hb)
        clear hc
        go_wp2_with fail
        go_roundw
        case rel => exact ⟨k + 1, by have := HLT.out; omega, by simp, Lib.hid (fun j hj => by
          rcases (show j < k ∨ j = k by omega) with h3 | h3
          · exact hno.out j h3
          · rw [h3]; exact hq.out), by first | rfl | trivial⟩
        case measure => have := HLT.out; first | (simp [intOf]; done) | (simp [intOf]; omega)
    · obtain rfl : N = k := by omega
      have qk : ((N : Int) < (N : Int)) = False := eq_false (by omega)
      have qk' : (N < N) = False := eq_false (by omega)
      have hq := Lib.hid (HNo.out hno.out)
      go_wp2_with fail
      go_returns
      exact ⟨by rw [hq.out]; rfl, rfl⟩
end Go.Proofs.YthammifbpdoggaaDoor
