/- Layer 21: units that are few; the awake test. -/
import Derived.Test.YtmbnlihboilacaaClRefD
import Derived.Test.YtmbnlihboilacaaObj
namespace Go.Proofs.Ytmbnlihboilacaa
open Go.RowKit
set_option linter.unusedSimpArgs false
set_option linter.unusedVariables false
open CL (ordF)
def fewC (L : List Un) : Bool := decide (L.length ≤ 21 ∧ ∀ x ∈ L, x.code.length ≤ 300)
set_option maxHeartbeats 1000000 in
theorem law21_few (v : Value) (L : List Un) (w : World) (hv : RowR 5 unitR w v L) : Calls Try.prog 5 #[v] w fun r w' => r = .returned (.bool (fewC L)) ∧ w' = w := by
  have hn63 := hv.len
  have HV := Lib.hid hv
  obtain ⟨ad, cap, rfl⟩ := row_get hv
  obtain ⟨n, hN⟩ : ∃ n, L.length = n := ⟨_, rfl⟩
  have HN := Lib.hid hN
  rw [hN] at hn63 HV ⊢
  obtain ⟨Z, hZ⟩ : ∃ Z, fewC L = Z := ⟨_, rfl⟩
  rw [hZ]
  have HZ := Lib.hid hZ
  clear hv hN hZ
  go_enter Try.func5, Try.ntmps5
  go_wp2_with fail
  go_loopw [3] (fun jj wr => ∃ k : Nat, k ≤ n ∧ jj = .int .i64 k ∧ Hid (k ≤ 21 ∧ ∀ x ∈ L.take k, x.code.length ≤ 300) ∧ wr = w) (fun jj _ => n - (intOf jj).toNat)
  case atStart => exact ⟨0, by omega, rfl, Lib.hid ⟨by omega, by simp⟩, rfl⟩
  case round =>
    obtain ⟨k, hk, rfl, hT, hwr⟩ := hrel
    have hwr := hwr.symm
    subst hwr
    by_cases hlt : k < n
    case neg =>
      obtain rfl : k = n := by omega
      have qk : ((k : Int) < (k : Int)) = False := eq_false (by omega)
      have qk' : (k < k) = False := eq_false (by omega)
      have HE := Lib.hid (show Z = true by
        have h := hT.out
        rw [List.take_of_length_le (by rw [HN.out]; exact Nat.le_refl _)] at h
        rw [← HZ.out]
        exact decide_eq_true ⟨by rw [HN.out]; exact h.1, h.2⟩)
      clear hT hlt hk
      go_wp2_with fail
      go_ret
      exact ⟨by rw [HE.out]; rfl, rfl⟩
    have qk : ((k : Int) < (n : Int)) = True := eq_true (by omega)
    have qk' : (k < n) = True := eq_true hlt
    have hk62 : k ≤ 9223372036854775806 := by omega
    have HK := Lib.hid hlt
    by_cases h20 : 20 < k
    · have q20 : ((20 : Int) < (k : Int)) = True := eq_true (by omega)
      have q20' : (20 < k) = True := eq_true h20
      have HE := Lib.hid (show Z = false by
        rw [← HZ.out]
        exact decide_eq_false (fun h => by have := h.1; rw [HN.out] at this; omega))
      clear hT hlt hk h20
      go_wp2_with fail
      go_ret
      exact ⟨by rw [HE.out]; rfl, rfl⟩
    have q20 : ((20 : Int) < (k : Int)) = False := eq_false (by omega)
    have q20' : (20 < k) = False := eq_false h20
    obtain ⟨x, hx⟩ := get_some (L := L) (n := k) (by rw [HN.out]; exact hlt)
    obtain ⟨b, off, hse, hb, hcell⟩ := unit_at HV.out (k := k) (by rw [HN.out]; exact hlt)
    cases hse
    obtain ⟨u1, u3, u4, _, _, _, _, c4, hun⟩ := hcell k x hx
    obtain ⟨ca, cc, rfl⟩ := row_get hun.cs
    have hc63 := hun.cs.len
    have HXm := Lib.hid (List.mem_of_getElem? hx)
    have HTk := Lib.hid (show x.code.length ≤ 300 → k + 1 ≤ 21 ∧ ∀ y ∈ L.take (k + 1), y.code.length ≤ 300 from fun h => ⟨by omega, fun y hy => by
      rw [take_snoc hx, List.mem_append, List.mem_singleton] at hy
      rcases hy with hy | rfl
      · exact hT.out.2 y hy
      · exact h⟩)
    have HF := Lib.hid (show 300 < x.code.length → Z = false from fun h => by
      rw [← HZ.out]
      exact decide_eq_false (fun h' => by have := h'.2 x HXm.out; omega))
    generalize x.code.length = C at *
    clear hcell hun hx hT hlt hk h20
    by_cases h3 : 300 < C
    · have q3 : ((300 : Int) < (C : Int)) = True := eq_true (by omega)
      have q3' : (300 < C) = True := eq_true h3
      have HE := Lib.hid (HF.out h3)
      clear h3
      go_wp2_with fail
      go_ret
      exact ⟨by rw [HE.out]; rfl, rfl⟩
    · have q3 : ((300 : Int) < (C : Int)) = False := eq_false (by omega)
      have q3' : (300 < C) = False := eq_false h3
      have HE := Lib.hid (HTk.out (by omega))
      clear h3
      go_wp2_with fail
      go_roundw
      case rel => exact ⟨k + 1, by have := HK.out; omega, by simp, HE, by simp⟩
      case measure => have := HK.out; first | (simp [intOf]; done) | (simp [intOf]; omega)
def awU : List Un := [⟨[], [], 0, [], [(33, 1, 0)]⟩, ⟨[], [], 0, [], []⟩]
theorem aw_row {W : World} {b c : Nat} (hc : W.heap[c]? = some (.cells #[.int .i64 33, .int .i64 1, .int .i64 0] 40))
    (hb : W.heap[b]? = some (.cells #[.string ⟨#[]⟩, .slice none 0 0, .int .i64 0, .slice none 0 0, .slice (some ⟨c, 0, none⟩) 1 1, .string ⟨#[]⟩, .slice none 0 0, .int .i64 0, .slice none 0 0, .slice none 0 0] 38)) :
    RowR 5 unitR W (.slice (some ⟨b, 0, none⟩) 2 2) awU := by
  have i0 : I64 0 := by unfold I64; omega
  have i1 : I64 1 := by unfold I64; omega
  have i33 : I64 33 := by unfold I64; omega
  refine Or.inr ⟨b, 0, 2, rfl, by simp [awU], by simp [awU], by unfold maxLen; omega, heap_lt hb, fun i x hx => ?_⟩
  have hi : i < 2 := lt_of_get hx
  obtain rfl | rfl : i = 0 ∨ i = 1 := by omega
  · cases hx
    refine ⟨[.string ⟨#[]⟩, .slice none 0 0, .int .i64 0, .slice none 0 0, .slice (some ⟨c, 0, none⟩) 1 1], rfl, fun j u hu => ?_, _, _, _, rfl, row_none, row_none, ?_, by unfold sz; simp, i0⟩
    · have hj : j < 5 := lt_of_get hu
      refine obj_cell hb ?_
      obtain rfl | rfl | rfl | rfl | rfl : j = 0 ∨ j = 1 ∨ j = 2 ∨ j = 3 ∨ j = 4 := by omega
      all_goals (cases hu; rfl)
    · refine Or.inr ⟨c, 0, 1, rfl, by simp, by simp, by unfold maxLen; omega, heap_lt hc, fun i x hx => ?_⟩
      have hi : i < 1 := lt_of_get hx
      obtain rfl : i = 0 := by omega
      cases hx
      refine ⟨[.int .i64 33, .int .i64 1, .int .i64 0], rfl, fun j u hu => ?_, rfl, i33, i1, i0⟩
      have hj : j < 3 := lt_of_get hu
      refine obj_cell hc ?_
      obtain rfl | rfl | rfl : j = 0 ∨ j = 1 ∨ j = 2 := by omega
      all_goals (cases hu; rfl)
  · cases hx
    refine ⟨[.string ⟨#[]⟩, .slice none 0 0, .int .i64 0, .slice none 0 0, .slice none 0 0], rfl, fun j u hu => ?_, _, _, _, rfl, row_none, row_none, row_none, by unfold sz; simp, i0⟩
    have hj : j < 5 := lt_of_get hu
    refine obj_cell hb ?_
    obtain rfl | rfl | rfl | rfl | rfl : j = 0 ∨ j = 1 ∨ j = 2 ∨ j = 3 ∨ j = 4 := by omega
    all_goals (cases hu; rfl)
set_option maxHeartbeats 1000000 in
theorem law21_awake (w : World) : Calls Try.prog 6 #[] w fun r w' => r = .returned (.bool true) ∧ Below w.heap.size w w' := by
  obtain ⟨W0, hW0⟩ : ∃ W, W = (w.alloc (.cells #[.int .i64 33, .int .i64 1, .int .i64 0] 40)).alloc (.cells #[.string ⟨#[]⟩, .slice none 0 0, .int .i64 0, .slice none 0 0, .slice (some ⟨w.heap.size, 0, none⟩) 1 1, .string ⟨#[]⟩, .slice none 0 0, .int .i64 0, .slice none 0 0, .slice none 0 0] 38) := ⟨_, rfl⟩
  have hb0 : Below w.heap.size w W0 := by rw [hW0]; exact by (repeat' (first | (with_reducible exact Below.refl _ _) | (with_reducible assumption) | (with_reducible refine below_drewN ?_ _) | (with_reducible refine Below.alloc ?_ ?_ _) | (with_reducible refine Below.drew ?_) | (with_reducible refine Below.setCell ?_ ?_ _) | go_size))
  have oA : W0.heap[w.heap.size]? = some (.cells #[.int .i64 33, .int .i64 1, .int .i64 0] 40) := by rw [hW0]; rw [get_past (by simp)]; exact get_last rfl
  have oB := show W0.heap[w.heap.size + 1]? = some (.cells #[.string ⟨#[]⟩, .slice none 0 0, .int .i64 0, .slice none 0 0, .slice (some ⟨w.heap.size, 0, none⟩) 1 1, .string ⟨#[]⟩, .slice none 0 0, .int .i64 0, .slice none 0 0, .slice none 0 0] 38) by rw [hW0]; exact get_last (by simp)
  have HC := Lib.hid (calls_Order _ awU W0 (aw_row oA oB) (by decide) (by intro x hx; simp [awU] at hx; rcases hx with rfl | rfl <;> simp))
  have HE := Lib.hid (show ordF (calledF awU) awU.length [] = some [1, 0] by decide +kernel)
  have HB := Lib.hid hb0
  have HW := Lib.hid hW0
  clear hW0 hb0 oA oB
  go_enter Try.func6, Try.ntmps6
  go_wp2_with fail
  rw [← HW.out]
  refine HC.out.mono ?_; rintro r w1 ⟨u, ok, rfl, hok, hO, hB⟩
  rw [HE.out] at hok hO
  replace hok : ok = true := hok
  subst hok
  replace hO : w1.ownsRow W0.heap.size 3 1 u 2 (iV (nI [1, 0])) := hO
  have HB1 := Lib.hid (HB.out.trans (hB.mono HB.out.size))
  obtain ⟨ua, uc, rfl⟩ := owns_form hO
  obtain ⟨g, hse, c0, h1, h2, _⟩ := own_at hO (q := 0) (by omega) (z := 1) rfl
  cases hse
  have e1 : ((1 : Int) == 1) = true := rfl
  have e2 : ((2 : Int) == 2) = true := rfl
  clear hO hB
  go_wp2_with fail
  go_ret
  exact ⟨rfl, HB1.out⟩
end Go.Proofs.Ytmbnlihboilacaa
