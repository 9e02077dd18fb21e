/- Layer 32: does the program answer at all? What a row holds. -/
import Derived.Test.YtkjafkegkllbiaaPdRf
namespace Go.Proofs.Ytkjafkegkllbiaa
open Go.RowKit
set_option linter.unusedSimpArgs false
set_option linter.unusedVariables false
open DM (turnF endF nearP lastB rowN Eg)
theorem grid_ofP {w : World} {b : Nat} {next : List (List Int)} (h0 : 0 < next.length) (hm : next.length ≤ maxLen) (hb : b < w.heap.size) (h : ∀ i l, next[i]? = some l → ∃ u, w.cell? ⟨b, i, none⟩ = some u ∧ RowR 1 intR w u l) :
    RowR 1 gridR w (.slice (some ⟨b, 0, none⟩) next.length next.length) next := by
  refine Or.inr ⟨b, 0, next.length, rfl, h0, Nat.le_refl _, hm, hb, fun i l hl => ?_⟩
  obtain ⟨u, hc, hr⟩ := h i l hl
  refine ⟨[u], rfl, fun j x hx => ?_, u, rfl, hr⟩
  cases j with
  | zero => cases hx; simpa using hc
  | succ j => simp at hx
def awP : List (List Int) := [[1, 2], [3], [3], []]
theorem aw_near : nearP awP = [3, 3, 3, 4] := by decide
set_option maxHeartbeats 2000000 in
theorem law32_awake (w : World) : Calls Try.prog 6 #[] w fun r w' => r = .returned (.bool true) ∧ Below w.heap.size w w' := by
  obtain ⟨W1, hW1⟩ : ∃ W, W = (((w.alloc (.cells #[.int .i64 1, .int .i64 2] 3)).alloc (.cells #[.int .i64 3] 3)).alloc (.cells #[.int .i64 3] 3)).alloc (.cells #[.slice (some ⟨w.heap.size, 0, none⟩) 2 2, .slice (some ⟨w.heap.size + 1, 0, none⟩) 1 1, .slice (some ⟨w.heap.size + 1 + 1, 0, none⟩) 1 1, .slice none 0 0] 25) := ⟨_, rfl⟩
  have o0 : W1.heap[w.heap.size]? = some (.cells #[.int .i64 1, .int .i64 2] 3) := by rw [hW1, get_past (by simp; omega), get_past (by simp; omega), get_past (by simp)]; exact get_last rfl
  have o1 : W1.heap[w.heap.size + 1]? = some (.cells #[.int .i64 3] 3) := by rw [hW1, get_past (by simp), get_past (by simp)]; exact get_last (by simp)
  have o2 : W1.heap[w.heap.size + 1 + 1]? = some (.cells #[.int .i64 3] 3) := by rw [hW1, get_past (by simp)]; exact get_last (by simp)
  have o3 : W1.heap[w.heap.size + 1 + 1 + 1]? = some (.cells #[.slice (some ⟨w.heap.size, 0, none⟩) 2 2, .slice (some ⟨w.heap.size + 1, 0, none⟩) 1 1, .slice (some ⟨w.heap.size + 1 + 1, 0, none⟩) 1 1, .slice none 0 0] 25) := by rw [hW1]; exact get_last (by simp)
  have hb : Below w.heap.size w W1 := by rw [hW1]; exact by (repeat' (first | (with_reducible exact Below.refl _ _) | (with_reducible assumption) | (with_reducible refine below_drewN ?_ _) | (with_reducible refine Below.alloc ?_ ?_ _) | (with_reducible refine Below.drew ?_) | (with_reducible refine Below.setCell ?_ ?_ _) | go_size))
  have i3 : I64 3 := by unfold I64; omega
  have hG : RowR 1 gridR W1 (.slice (some ⟨w.heap.size + 1 + 1 + 1, 0, none⟩) 4 4) awP := grid_ofP (next := awP) (by decide) (by unfold maxLen; decide) (heap_lt o3) (fun i l hl => by
    match i, hl with
    | 0, hl => cases hl; exact ⟨_, obj_cell o3 (i := 0) rfl, row_cells2 (obj_cell o0 (i := 0) rfl) (obj_cell o0 (i := 1) rfl) (by unfold I64; omega) (by unfold I64; omega)⟩
    | 1, hl => cases hl; exact ⟨_, obj_cell o3 (i := 1) rfl, row_cells1 (obj_cell o1 (i := 0) rfl) i3⟩
    | 2, hl => cases hl; exact ⟨_, obj_cell o3 (i := 2) rfl, row_cells1 (obj_cell o2 (i := 0) rfl) i3⟩
    | 3, hl => cases hl; exact ⟨_, obj_cell o3 (i := 3) rfl, row_none⟩
    | n + 4, hl => simp [awP] at hl)
  have HI := Lib.hid (pdom_Nearest _ awP W1 hG (by decide) (by decide))
  rw [aw_near] at HI
  have HW1 := Lib.hid hW1
  have HB := Lib.hid hb
  clear hW1 o0 o1 o2 o3 hb hG i3
  go_enter Try.func6, Try.ntmps6
  go_wp2_with fail
  rw [← HW1.out]
  refine HI.out.mono ?_; rintro r w2 ⟨u, rfl, hO, hb, _⟩
  obtain ⟨a, c, rfl⟩ := owns_form hO
  obtain ⟨g, rfl, c0, hc1, hc2, _⟩ := own_at hO (q := 0) (by decide) (z := 3) rfl
  obtain ⟨g', hg', c3, _, _, _⟩ := own_at hO (q := 3) (by decide) (z := 4) rfl
  cases hg'
  have HBB := Lib.hid (HB.out.trans (hb.mono HB.out.size))
  have hl4 : awP.length = 4 := rfl
  rw [hl4] at hc1 ⊢
  clear hO hb HI hl4
  go_wp2_with fail
  go_ret
  exact ⟨rfl, HBB.out⟩
set_option maxHeartbeats 2000000 in
theorem ref30_Has (v : Value) (l : List Int) (z : Int) (w : World) (hv : RowR 1 intR w v l) :
    Calls Try.prog 13 #[v, .int .i64 z] w fun r w' => r = .returned (.bool (decide (z ∈ l))) ∧ w = w' := by
  have hlm := hv.len
  have HL := Lib.hid hv
  obtain ⟨ad, cap, rfl⟩ := row_get hv
  obtain ⟨m, hm⟩ : ∃ m, l.length = m := ⟨_, rfl⟩
  have HM := Lib.hid hm
  rw [hm] at hlm HL ⊢
  obtain ⟨Z, hZ⟩ : ∃ Z, decide (z ∈ l) = Z := ⟨_, rfl⟩
  have HZ := Lib.hid hZ
  rw [hZ]
  clear hv hm hZ
  go_enter Try.func13, Try.ntmps13
  go_wp2_with fail
  go_loopw [5] (fun jj wr => ∃ k : Nat, k ≤ m ∧ jj = .int .i64 k ∧ Hid (z ∈ l.drop k ↔ z ∈ l) ∧ wr = w) (fun jj _ => m - (intOf jj).toNat)
  case atStart => exact ⟨0, Nat.zero_le _, rfl, Lib.hid Iff.rfl, rfl⟩
  case round =>
    obtain ⟨k, hk, rfl, hA, hwr⟩ := hrel
    have hwr := hwr.symm
    subst hwr
    by_cases hlt : k < m
    case neg =>
      obtain rfl : m = k := by omega
      have q2 : ((m : Int) < (m : Int)) = False := eq_false (by omega)
      have q2' : (m < m) = False := eq_false (by omega)
      have hZ := Lib.hid (show Z = false by
        rw [← HZ.out]
        refine decide_eq_false (fun h => ?_)
        have := hA.out.2 h
        rw [List.drop_of_length_le (by rw [HM.out]; exact Nat.le_refl _)] at this
        cases this)
      clear hA hlt hk
      go_wp2_with fail
      go_ret
      exact ⟨by rw [hZ.out]; rfl, rfl⟩
    have q2 : ((k : Int) < (m : Int)) = True := eq_true (by omega)
    have q2' : (k < m) = True := eq_true hlt
    have hk62 : k ≤ 9223372036854775806 := by omega
    have HK := Lib.hid hlt
    obtain ⟨bl, ol, hse, hbl, hnl, hcl, cl1, _⟩ := int_at HL.out (k := k) (by rw [HM.out]; exact hlt)
    subst hse
    obtain ⟨T, hT⟩ : ∃ T, l.getD k 0 = T := ⟨_, rfl⟩
    have HA2 := Lib.hid (show (z = T ∨ z ∈ l.drop (k + 1)) ↔ z ∈ l by
      have h := hA.out
      rw [List.drop_eq_getElem_cons (by rw [HM.out]; exact hlt), List.mem_cons] at h
      have : l[k]'(by rw [HM.out]; exact hlt) = T := by rw [← hT]; simp [List.getD, HM.out, hlt]
      rw [this] at h
      exact h)
    rw [hT] at cl1
    clear hT hlt hk hA
    by_cases hz : T = z
    · have ez : (T == z) = true := by simpa using hz
      have hZ := Lib.hid (show Z = true by rw [← HZ.out]; exact decide_eq_true (HA2.out.1 (.inl hz.symm)))
      clear hz
      go_wp2_with fail
      go_ret
      exact ⟨by rw [hZ.out]; rfl, rfl⟩
    · have ez : (T == z) = false := by simpa using hz
      have HA3 := Lib.hid (show z ∈ l.drop (k + 1) ↔ z ∈ l from ⟨fun h => HA2.out.1 (.inr h), fun h => by rcases HA2.out.2 h with h | h; exact absurd h.symm hz; exact h⟩)
      clear hz
      go_wp2_with fail
      go_roundw
      case rel => exact ⟨k + 1, by have := HK.out; omega, by simp, HA3, by first | rfl | trivial⟩
      case measure => have := HK.out; first | (simp [intOf]; done) | (simp [intOf]; omega)
theorem has_ends {next : List (List Int)} {i : Nat} (hi : i < next.length) : decide (((i : Int) + 1) ∈ rowN (turnF next) 0) = lastB next i := by
  have h := DM.turn_zero (next := next) (v := i + 1)
  unfold Eg at h
  rw [DM.turn_len] at h
  rw [Bool.eq_iff_iff, decide_eq_true_iff]
  rw [show ((i : Int) + 1) = ((i + 1 : Nat) : Int) by omega]
  constructor
  · intro hm
    obtain ⟨i', e, _, h2⟩ := h.1 ⟨hm, by omega⟩
    rw [show i = i' by omega]; exact h2
  · intro hl
    exact (h.2 ⟨i, rfl, hi, hl⟩).1
theorem has_end2 {next : List (List Int)} {i : Nat} (hi : i < next.length) : decide (((next.length : Nat) : Int) ∈ rowN (endF next) i) = lastB next i := by
  have h := DM.end_edge (next := next) (u := i) (v := next.length)
  rw [Bool.eq_iff_iff, decide_eq_true_iff]
  constructor
  · intro hm
    rcases (h.1 ⟨hm, by rw [DM.end_len]; omega⟩).2 with h1 | h1
    · exact absurd h1.2 (by omega)
    · exact h1.1
  · intro hl
    exact (h.2 ⟨hi, .inr ⟨hl, rfl⟩⟩).1
theorem has_turn {next : List (List Int)} {i j : Nat} (hi : i < next.length) (hj : j < next.length) : decide (((i : Int) + 1) ∈ rowN (turnF next) (j + 1)) = decide ((j : Int) ∈ rowN next i) := by
  have h := DM.turn_succ (next := next) (k := j) (v := i + 1)
  unfold Eg at h
  rw [DM.turn_len] at h
  rw [Bool.eq_iff_iff, decide_eq_true_iff, decide_eq_true_iff]
  rw [show ((i : Int) + 1) = ((i + 1 : Nat) : Int) by omega]
  constructor
  · intro hm
    obtain ⟨i', e, _, h2⟩ := h.1 ⟨hm, by omega⟩
    rw [show i = i' by omega]; exact h2.1
  · intro hl
    exact (h.2 ⟨i, rfl, hi, hl, hj⟩).1
end Go.Proofs.Ytkjafkegkllbiaa
