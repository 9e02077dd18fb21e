/- Layer 11: Place and Find, and the answer's. -/
import Derived.Test.YtajgdfgemcpjgaaDoorBlockG
import Derived.LoopTactic
namespace Go.Proofs.YtajgdfgemcpjgaaDoor
open Go.RowKit
set_option linter.unusedSimpArgs false
set_option linter.unusedVariables false
theorem beqL_yes {a b : List UInt8} (h : a = b) : (a == b) = true := by rw [h]; simp
theorem beqL_no {a b : List UInt8} (h : ¬ a = b) : (a == b) = false := by rw [beq_eq_false_iff_ne]; exact h
def plc : List (List UInt8 × Int) → List UInt8 → Int
  | [], _ => -1
  | x :: t, s => if x.1 = s then 0 else if plc t s = -1 then -1 else plc t s + 1
theorem plc_ge : ∀ (L : List (List UInt8 × Int)) (s : List UInt8), -1 ≤ plc L s
  | [], _ => by simp [plc]
  | x :: t, s => by
    have := plc_ge t s
    unfold plc; split
    · omega
    split <;> omega
theorem plc_hit : ∀ (L : List (List UInt8 × Int)) (s : List UInt8) (j : Nat), j < L.length → (L.getD j ([], 0)).1 = s → (∀ m, m < j → (L.getD m ([], 0)).1 ≠ s) → plc L s = j
  | [], _, _, h, _, _ => by simp at h
  | x :: t, s, 0, _, h1, _ => by
    have h2 : x.1 = s := h1
    unfold plc; rw [if_pos h2]; rfl
  | x :: t, s, j + 1, h0, h1, h2 => by
    have h3 := plc_hit t s j (by simpa using h0) (by simpa using h1) (fun m hm => by simpa using h2 (m + 1) (by omega))
    have h4 : x.1 ≠ s := h2 0 (by omega)
    unfold plc; rw [if_neg h4, if_neg (by omega), h3]; simp
theorem plc_no : ∀ (L : List (List UInt8 × Int)) (s : List UInt8), (∀ m, m < L.length → (L.getD m ([], 0)).1 ≠ s) → plc L s = -1
  | [], _, _ => rfl
  | x :: t, s, h => by
    have h3 := plc_no t s (fun m hm => by simpa using h (m + 1) (by simp; omega))
    have h4 : x.1 ≠ s := h 0 (by simp)
    unfold plc; rw [if_neg h4, if_pos h3]
def nmL (k : Int) (j : Nat) : List UInt8 := ((bF k).getD j ([], 0)).1
theorem fldS_nat (k : Int) (j : Nat) : fldS k (j : Int) = ⟨(nmL k j).toArray⟩ := by unfold fldS nmL; rw [if_neg (by omega)]; rfl
theorem nmV_get {k : Int} {i : Nat} (h : i < (bF k).length) : (nmV k)[i]? = some (.string ⟨(nmL k i).toArray⟩) := by
  unfold nmV nmL
  simp [List.getD, h]
theorem nmV_size (k : Int) : (nmV k).size = (bF k).length := by simp [nmV]
theorem nmV_at {k : Int} {i : Nat} (h : i < (nmV k).size) : (nmV k)[i]'h = .string ⟨(nmL k i).toArray⟩ := by
  have h1 := nmV_get (k := k) (i := i) (by rw [← nmV_size]; exact h)
  rw [Array.getElem?_eq_getElem h] at h1
  exact Option.some.inj h1
set_option maxHeartbeats 1000000 in
theorem block_Place (k : Int) (s : List UInt8) (w : World) (hT : BTab w) : Calls Tryd.prog 11 #[.int .i64 k, .string ⟨s.toArray⟩] w fun e w' => e = .returned (.int .i64 (plc (bF k) s)) ∧ Below w.heap.size w w' := by
  have h8 := fld_len k
  have hN := block_Fields k w hT
  have HF := @block_Field k
  have HP := Lib.hid (fun j => plc_hit (bF k) s j)
  have HO := Lib.hid (plc_no (bF k) s)
  obtain ⟨n, hn⟩ : ∃ n, (bF k).length = n := ⟨_, rfl⟩
  rw [hn] at hN h8
  have HNn := Lib.hid hn
  clear hn
  go_enter Tryd.func11, Tryd.ntmps11
  go_wp2_with fail
  refine hN.mono ?_; rintro e w' ⟨rfl, rfl⟩
  clear hN
  go_wp2_with fail
  go_loopw [10] (fun j wr => ∃ q : Nat, q ≤ n ∧ j = .int .i64 q ∧ Hid (∀ m, m < q → nmL k m ≠ s) ∧ Below w.heap.size w wr) (fun j _ => n - (intOf j).toNat)
  case atStart => exact ⟨0, by omega, rfl, Lib.hid (fun m hm => by omega), Below.refl _ _⟩
  case round =>
    obtain ⟨q, hq, rfl, hno, hB⟩ := hrel
    by_cases hlt : q < n
    · have hF := HF q wr (hT.below hB)
      rw [fldS_nat] at hF
      by_cases hs : nmL k q = s
      · have hb := beqL_yes hs
        have HR := Lib.hid (HP.out q (by rw [HNn.out]; exact hlt) hs hno.out)
        generalize nmL k q = a at *
        clear hs
        go_wp2_with fail
        refine hF.mono ?_; rintro e w1 ⟨rfl, hb1⟩
        have hB1 := hB.trans (hb1.mono hB.size)
        clear hF hb1
        go_wp2_with fail
        go_ret
        exact ⟨by rw [HR.out]; rfl, hB1⟩
      · have hb := beqL_no hs
        have HS := Lib.hid hs
        clear hs
        obtain ⟨a, ha⟩ : ∃ a, nmL k q = a := ⟨_, rfl⟩
        rw [ha] at hF hb
        have HA := Lib.hid ha
        clear ha
        go_wp2_with fail
        refine hF.mono ?_; rintro e w1 ⟨rfl, hb1⟩
        have hB1 := hB.trans (hb1.mono hB.size)
        clear hF hb1
        go_wp2_with fail
        go_roundw
        case rel => exact ⟨q + 1, by omega, by simp, Lib.hid (fun m hm => by
          rcases (show m < q ∨ m = q by omega) with h | h
          · exact hno.out m h
          · subst h; exact HS.out), hB1⟩
        case measure => simp [intOf]; omega
    · obtain rfl : q = n := by omega
      have HR := Lib.hid (HO.out (fun m hm => hno.out m (by rw [HNn.out] at hm; exact hm)))
      go_wp2_with fail
      go_ret
      exact ⟨by rw [HR.out]; rfl, hB⟩
set_option maxHeartbeats 1000000 in
theorem ref11_Place (k : Int) (s : List UInt8) (w : World) : Calls Tryd.prog 12 #[.int .i64 k, .string ⟨s.toArray⟩] w fun e w' => e = .returned (.int .i64 (plc (bF k) s)) ∧ Below w.heap.size w w' := by
  by_cases hk : 1 ≤ k ∧ k ≤ 8
  · have h8 := fld_len k
    have hF := ref11_Fields k hk w
    have HP := Lib.hid (fun j => plc_hit (bF k) s j)
    have HO := Lib.hid (plc_no (bF k) s)
    have HAT := Lib.hid (fun i h => nmV_at (k := k) (i := i) h)
    have hAS := nmV_size k
    obtain ⟨n, hn⟩ : ∃ n, (bF k).length = n := ⟨_, rfl⟩
    obtain ⟨A, hA⟩ : ∃ A, nmV k = A := ⟨_, rfl⟩
    rw [hn] at hF h8 hAS
    rw [hA] at hF hAS
    have HNn := Lib.hid hn
    have HA := Lib.hid hA
    clear hn hA
    generalize tyV k = B at *
    generalize bI k = mm at *
    go_enter Tryd.func12, Tryd.ntmps12
    go_wp2_with fail
    refine hF.mono ?_; rintro e w' ⟨rfl, rfl⟩
    clear hF
    go_wp2_with fail
    go_loopw [8] (fun j wr => ∃ q : Nat, q ≤ n ∧ j = .int .i64 q ∧ Hid (∀ m, m < q → nmL k m ≠ s) ∧ wr = (w.alloc (.cells A 9)).alloc (.cells B 3)) (fun j _ => n - (intOf j).toNat)
    case atStart => exact ⟨0, by omega, rfl, Lib.hid (fun m hm => by omega), rfl⟩
    case round =>
      obtain ⟨q, hq, rfl, hno, rfl⟩ := hrel
      by_cases hlt : q < n
      · obtain ⟨a, ha⟩ : ∃ a, nmL k q = a := ⟨_, rfl⟩
        have hat : ∀ h : q < A.size, A[q]'h = Value.string ⟨a.toArray⟩ := fun h => by
          have h1 := HA.out
          subst h1
          rw [HAT.out q h, ha]
        by_cases hs : a = s
        · have hb := beqL_yes hs
          have HR := Lib.hid (HP.out q (by rw [HNn.out]; exact hlt) (by show nmL k q = s; rw [ha, hs]) hno.out)
          clear hs ha
          go_wp2_with fail
          go_ret
          exact ⟨by rw [HR.out]; rfl, by (repeat' (first | (with_reducible exact Below.refl _ _) | (with_reducible assumption) | (with_reducible refine below_drewN ?_ _) | (with_reducible refine Below.alloc ?_ ?_ _) | (with_reducible refine Below.drew ?_) | (with_reducible refine Below.setCell ?_ ?_ _) | go_size))⟩
        · have hb := beqL_no hs
          have HS := Lib.hid (show nmL k q ≠ s by rw [ha]; exact hs)
          clear hs ha
          go_wp2_with fail
          go_roundw
          case rel => exact ⟨q + 1, by omega, by simp, Lib.hid (fun m hm => by
            rcases (show m < q ∨ m = q by omega) with h | h
            · exact hno.out m h
            · subst h; exact HS.out), trivial⟩
          case measure => simp [intOf]; omega
      · obtain rfl : q = n := by omega
        have HR := Lib.hid (HO.out (fun m hm => hno.out m (by rw [HNn.out] at hm; exact hm)))
        go_wp2_with fail
        go_ret
        exact ⟨by rw [HR.out]; rfl, by (repeat' (first | (with_reducible exact Below.refl _ _) | (with_reducible assumption) | (with_reducible refine below_drewN ?_ _) | (with_reducible refine Below.alloc ?_ ?_ _) | (with_reducible refine Below.drew ?_) | (with_reducible refine Below.setCell ?_ ?_ _) | go_size))⟩
  · have hF := ref11_Fields_no k hk w
    have HR := Lib.hid (show plc (bF k) s = -1 by rw [bF_no hk]; rfl)
    go_enter Tryd.func12, Tryd.ntmps12
    go_wp2_with fail
    refine hF.mono ?_; rintro e w' ⟨rfl, rfl⟩
    clear hF
    go_wp2_with fail
    refine wp_loop_rounds 1 ?_
    rw [rounds_succ]
    go_wp2_with fail
    go_ret
    exact ⟨by rw [HR.out]; rfl, by (repeat' (first | (with_reducible exact Below.refl _ _) | (with_reducible assumption) | (with_reducible refine below_drewN ?_ _) | (with_reducible refine Below.alloc ?_ ?_ _) | (with_reducible refine Below.drew ?_) | (with_reducible refine Below.setCell ?_ ?_ _) | go_size))⟩
end Go.Proofs.YtajgdfgemcpjgaaDoor
