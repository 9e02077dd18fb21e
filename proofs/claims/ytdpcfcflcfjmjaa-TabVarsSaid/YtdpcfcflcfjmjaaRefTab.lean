/- Layer 14: the reference's tables: how they begin and end. -/
import Derived.Test.YtdpcfcflcfjmjaaTabGetB
namespace Go.Proofs.Ytdpcfcflcfjmjaa
open Go.RowKit
set_option linter.unusedSimpArgs false
set_option linter.unusedVariables false
theorem rf_new {w : World} {v : Value} {L : List UInt8} (hv : RowAt w v L.length (byteV L)) (hL : L.length ≤ 100000000) : ∃ q, RfAt (w.alloc (.cells #[v, .int .i64 0, .bool false] 81)) w.heap.size q L 0 false ∧ (0 < L.length → q < w.heap.size) := by
  have hv2 := hv.below ((Below.refl _ _).alloc (Nat.le_refl _) (.cells #[v, .int .i64 0, .bool false] 81))
  have hg := heap_alloc_new w (.cells #[v, .int .i64 0, .bool false] 81)
  rcases hv with ⟨a, cap, rfl, h0, hc⟩ | ⟨b, off, cap, rfl, h1, h2, h3, h4, h5⟩
  · exact ⟨w.heap.size + 1, ⟨_, hg, by simpa using hv2, (fun a n c h hn => by injection h; omega), by omega, Nat.zero_le _, hL⟩, by omega⟩
  · exact ⟨b, ⟨_, hg, by simpa using hv2, (fun a n c h hn => by injection h with h; injection h with h; rw [← h]), by omega, Nat.zero_le _, hL⟩, fun _ => h4⟩
/-- how many rows there are, or why there are none -/
def rowsN (L : List UInt8) (most : Int) : Int × Int :=
  if (rNum L 2 0 false).2.2 = true then (0, 1) else if most < (rNum L 2 0 false).1 then (0, 5) else ((rNum L 2 0 false).1, 0)
theorem row_form {w : World} {v : Value} {n : Nat} {f : Nat → Value} (h : RowAt w v n f) : ∃ a c, v = .slice a n c := by
  rcases h with ⟨a, cap, rfl, h0, _⟩ | ⟨b, off, cap, rfl, _⟩
  · exact ⟨a, cap, by rw [h0]⟩
  · exact ⟨_, cap, rfl⟩
theorem ref14_Rows (v : Value) (L : List UInt8) (most : Int) (w : World) (hv : RowAt w v L.length (byteV L)) (hL : L.length ≤ 1000000) :
    Calls Try.prog 32 #[v, .int .i64 most] w fun e w' => ∃ g q, e = .returned (.tuple #[.pointer (some ⟨g, 0, none⟩), .int .i64 (rowsN L most).1, .int .i64 (rowsN L most).2]) ∧ RfAt w' g q L (rNum L 2 0 false).2.1 (rNum L 2 0 false).2.2 ∧ (0 < L.length → q < w.heap.size) ∧ w.heap.size ≤ g ∧ Below w.heap.size w w' := by
  obtain ⟨av, cv, rfl⟩ := row_form hv
  unfold rowsN
  obtain ⟨A, hA⟩ : ∃ A, rNum L 2 0 false = A := ⟨_, rfl⟩
  have HN := Lib.hid (fun g q W hW => rf_Num g q L 0 2 false 2 W hW (by decide) (by omega))
  rw [hA] at HN ⊢
  obtain ⟨c, n, b⟩ := A
  dsimp only at HN ⊢
  clear hA
  obtain ⟨q, hR, hq⟩ := rf_new hv (by omega)
  have HR := Lib.hid hR
  clear hR
  cases b
  · by_cases hlim : most < c
    · have q0 : (most < c) = True := eq_true hlim
      rw [if_neg (by simp), if_pos hlim]
      go_enter Try.func32, Try.ntmps32
      go_wp2_with fail
      refine (HN.out _ q _ HR.out).mono ?_; rintro e w2 ⟨rfl, hR2, hG2⟩
      have hB2 := grownBelow ((Below.refl _ _).alloc (Nat.le_refl _) _) hG2 (Nat.le_refl _) (by simp)
      have HR2 := Lib.hid hR2
      obtain ⟨rv, hg, _, _, _, _, _⟩ := hR2
      have c2 := cell_of hg 2 rfl
      clear hg hG2 HR HN
      go_wp2_with fail
      go_returns
      exact ⟨_, q, rfl, HR2.out, hq, Nat.le_refl _, hB2⟩
    · have q0 : (most < c) = False := eq_false hlim
      rw [if_neg (by simp), if_neg hlim]
      go_enter Try.func32, Try.ntmps32
      go_wp2_with fail
      refine (HN.out _ q _ HR.out).mono ?_; rintro e w2 ⟨rfl, hR2, hG2⟩
      have hB2 := grownBelow ((Below.refl _ _).alloc (Nat.le_refl _) _) hG2 (Nat.le_refl _) (by simp)
      have HR2 := Lib.hid hR2
      obtain ⟨rv, hg, _, _, _, _, _⟩ := hR2
      have c2 := cell_of hg 2 rfl
      clear hg hG2 HR HN
      go_wp2_with fail
      go_returns
      exact ⟨_, q, rfl, HR2.out, hq, Nat.le_refl _, hB2⟩
  · rw [if_pos rfl]
    go_enter Try.func32, Try.ntmps32
    go_wp2_with fail
    refine (HN.out _ q _ HR.out).mono ?_; rintro e w2 ⟨rfl, hR2, hG2⟩
    have hB2 := grownBelow ((Below.refl _ _).alloc (Nat.le_refl _) _) hG2 (Nat.le_refl _) (by simp)
    have HR2 := Lib.hid hR2
    obtain ⟨rv, hg, _, _, _, _, _⟩ := hR2
    have c2 := cell_of hg 2 rfl
    clear hg hG2 HR HN
    go_wp2_with fail
    go_returns
    exact ⟨_, q, rfl, HR2.out, hq, Nat.le_refl _, hB2⟩
/-- how reading ends -/
def endE (L : List UInt8) (n : Nat) (bad : Bool) : Int := if bad = true then 1 else if 0 < leftOf L n bad then 4 else 0
theorem ref14_End (g q : Nat) (L : List UInt8) (n : Nat) (bad : Bool) (w : World) (h : RfAt w g q L n bad) :
    Calls Try.prog 34 #[.pointer (some ⟨g, 0, none⟩)] w fun e w' => e = .returned (.int .i64 (endE L n bad)) ∧ w = w' := by
  obtain ⟨rv, hg, hr, hi, hq, hn, hL⟩ := h
  obtain ⟨p, cap, rfl⟩ := row_drop hr hi (m := 0)
  have c0 := cell_of hg 0 rfl
  have c2 := cell_of hg 2 rfl
  have hl : (((L.length - n : Nat)) : Int) ≤ 9223372036854775807 := by omega
  have HL := Lib.hid (show leftOf L n false = ((L.length - n : Nat) : Int) by unfold leftOf; simp; omega)
  clear hr hg
  unfold endE
  cases bad
  · rw [if_neg (by simp), HL.out]
    generalize L.length - n = ln at *
    by_cases h0 : 0 < ln
    · have q0 : (0 < (ln : Int)) = True := eq_true (by omega)
      rw [if_pos (by omega)]
      go_enter Try.func34, Try.ntmps34
      go_wp2_with fail
      go_ret
      exact ⟨rfl, rfl⟩
    · have q0 : (0 < (ln : Int)) = False := eq_false (by omega)
      rw [if_neg (by omega)]
      go_enter Try.func34, Try.ntmps34
      go_wp2_with fail
      go_ret
      exact ⟨rfl, rfl⟩
  · rw [if_pos rfl]
    go_enter Try.func34, Try.ntmps34
    go_wp2_with fail
    go_ret
    exact ⟨rfl, rfl⟩
end Go.Proofs.Ytdpcfcflcfjmjaa
