/- Layer 3: what a reader answers in any state: one contract for each of its methods. -/
import Derived.Test.YtdpcfcflcfjmjaaReaderText
namespace Go.Proofs.Ytdpcfcflcfjmjaa
open Go.RowKit
set_option linter.unusedSimpArgs false
set_option linter.unusedVariables false
/-- the next bytes: what they are, how many were read then, whether it is bad then -/
def rTake (L : List UInt8) (z : Int) (n : Nat) (bad : Bool) : List UInt8 × Nat × Bool :=
  if bad then ([], n, true) else if z < 0 ∨ (L.length : Int) - n < z then ([], n, true) else ((L.drop n).take z.toNat, n + z.toNat, false)
/-- the next number of N bytes -/
def rNum (L : List UInt8) (N : Nat) (n : Nat) (bad : Bool) : Int × Nat × Bool :=
  (numV (rTake L N n bad).1, (rTake L N n bad).2)
/-- the next text -/
def rText (L : List UInt8) (n : Nat) (bad : Bool) : List UInt8 × Nat × Bool :=
  rTake L (rNum L 1 n bad).1 (rNum L 1 n bad).2.1 (rNum L 1 n bad).2.2
theorem rTake_bad (L : List UInt8) (z : Int) (n : Nat) : rTake L z n true = ([], n, true) := by simp [rTake]
theorem rTake_fail {L : List UInt8} {z : Int} {n : Nat} (h : z < 0 ∨ (L.length : Int) - n < z) : rTake L z n false = ([], n, true) := by simp [rTake, h]
theorem rTake_ok {L : List UInt8} {m n : Nat} (h : n + m ≤ L.length) : rTake L m n false = ((L.drop n).take m, n + m, false) := by
  have e : ¬ ((m : Int) < 0 ∨ (L.length : Int) - n < m) := by omega
  simp [rTake, e]
theorem rTake_at (L : List UInt8) (z : Int) (n : Nat) (bad : Bool) (hn : n ≤ L.length) : n ≤ (rTake L z n bad).2.1 ∧ (rTake L z n bad).2.1 ≤ L.length ∧ (bad = true → (rTake L z n bad).2.2 = true) := by
  cases bad
  · by_cases h : z < 0 ∨ (L.length : Int) - n < z
    · rw [rTake_fail h]; exact ⟨Nat.le_refl _, hn, fun h => by cases h⟩
    · obtain ⟨m, rfl⟩ : ∃ m : Nat, z = m := ⟨z.toNat, by omega⟩
      rw [rTake_ok (by omega)]; exact ⟨by simp, by simp; omega, fun h => by cases h⟩
  · rw [rTake_bad]; exact ⟨Nat.le_refl _, hn, fun _ => rfl⟩
theorem rTake_len (L : List UInt8) (z : Int) (n : Nat) (bad : Bool) : (rTake L z n bad).1.length ≤ L.length := by
  unfold rTake
  split
  · simp
  · split
    · simp
    · simp; omega
theorem numV_nil : numV [] = 0 := by decide +kernel
theorem rd_here {w : World} {g q : Nat} {L : List UInt8} {n : Nat} {bad : Bool} (h : RdAt w g q L n bad) : n ≤ L.length ∧ L.length ≤ 100000000 := ⟨h.2.2.1, h.2.2.2.1⟩
theorem rd_New (v : Value) (l : List UInt8) (w : World) (hv : RowAt w v l.length (byteV l)) (hm : l.length ≤ 100000000) :
    Calls Try.prog 50 #[v] w fun e w' => ∃ g q, e = .returned (.pointer (some ⟨g, 0, none⟩)) ∧ RdAt w' g q l 0 false ∧ w.heap.size ≤ g ∧ (w.heap.size ≤ q ∧ q < g) ∧ Below w.heap.size w w' := by
  go_enter Try.func50, Try.ntmps50
  go_wp2_with fail
  rw [show (0 : Int) = ((0 : Nat) : Int) from rfl]
  refine (octet_grown v l 0 _ hv (by omega)).mono ?_; rintro e w1 ⟨rfl, hO, hb⟩
  have hz := hb.size
  have hcell : ∀ i, i < l.length → w1.cell? ⟨w.heap.size, i, none⟩ = some (byteV l i) := by
    intro i hi
    have := hO.cellAt i (by omega)
    rw [this]
    exact byteV_at hi
  have hlt : w.heap.size < w1.heap.size := (hO.lt _ rfl).2
  have HC := Lib.hid hcell
  clear hO hcell
  go_wp2_with fail
  go_ret
  refine ⟨w1.heap.size, w.heap.size, rfl, ⟨?_, by omega, by omega, hm, fun i hi => ?_⟩, hz, ⟨Nat.le_refl _, hlt⟩, hb.alloc hz _⟩
  · exact heap_alloc_new w1 _
  · exact (((Below.refl w1.heap.size w1).alloc (Nat.le_refl _) _).cell (p := ⟨w.heap.size, i, none⟩) hlt).trans (HC.out i hi)
theorem rd_next (g q : Nat) (L : List UInt8) (n : Nat) (bad : Bool) (z : Int) (w : World) (h : RdAt w g q L n bad) :
    Calls Try.prog 53 #[.pointer (some ⟨g, 0, none⟩), .int .i64 z] w fun e w' => ∃ r, e = .returned r ∧ RowAt w' r (rTake L z n bad).1.length (byteV (rTake L z n bad).1) ∧ RdAt w' g q L (rTake L z n bad).2.1 (rTake L z n bad).2.2 ∧ w.grownBy w' (some g) := by
  cases bad
  · by_cases hz : z < 0 ∨ (L.length : Int) - n < z
    · rw [rTake_fail hz]
      refine (next_fail g q L n z w h hz).mono ?_; rintro e w' ⟨rfl, h1, h2⟩
      exact ⟨_, rfl, Or.inl ⟨none, 0, rfl, rfl, fun _ => rfl⟩, h1, h2⟩
    · obtain ⟨m, rfl⟩ : ∃ m : Nat, z = m := ⟨z.toNat, by omega⟩
      have hm : n + m ≤ L.length := by omega
      rw [rTake_ok hm]
      refine (next_ok g q L n m m w h rfl hm).mono ?_; rintro e w' ⟨r, rfl, h1, h2, h3⟩
      have hl : ((L.drop n).take m).length = m := by simp; omega
      exact ⟨r, rfl, by rw [hl]; exact h1, h2, h3⟩
  · rw [rTake_bad]
    refine (next_bad g q L n z w h).mono ?_; rintro e w' ⟨rfl, rfl⟩
    exact ⟨_, rfl, Or.inl ⟨none, 0, rfl, rfl, fun _ => rfl⟩, h, World.grownBy.refl _ _⟩
theorem rd_Num (g q : Nat) (L : List UInt8) (n N : Nat) (bad : Bool) (z : Int) (w : World) (h : RdAt w g q L n bad) (hN : near8 z = N) (h8 : N ≤ 8) :
    Calls Try.prog 31 #[.pointer (some ⟨g, 0, none⟩), .int .i64 z] w fun e w' => e = .returned (.int .i64 (rNum L N n bad).1) ∧ RdAt w' g q L (rNum L N n bad).2.1 (rNum L N n bad).2.2 ∧ w.grownBy w' (some g) := by
  unfold rNum
  cases bad
  · by_cases hz : n + N ≤ L.length
    · rw [rTake_ok hz]
      exact reader_Num_ok g q L n N z w h hN h8 hz
    · rw [rTake_fail (by omega), numV_nil]
      exact reader_Num_fail g q L n N z w h hN h8 (by omega)
  · rw [rTake_bad, numV_nil]
    refine (reader_Num_bad g q L n z w h).mono ?_; rintro e w' ⟨rfl, rfl⟩
    exact ⟨rfl, h, World.grownBy.refl _ _⟩
set_option maxHeartbeats 400000 in
theorem rd_Text (g q : Nat) (L : List UInt8) (n : Nat) (bad : Bool) (w : World) (h : RdAt w g q L n bad) :
    Calls Try.prog 41 #[.pointer (some ⟨g, 0, none⟩)] w fun e w' => e = .returned (.string ⟨(rText L n bad).1.toArray⟩) ∧ RdAt w' g q L (rText L n bad).2.1 (rText L n bad).2.2 ∧ w.grownBy w' (some g) := by
  unfold rText
  obtain ⟨A, hA⟩ : ∃ A, rNum L 1 n bad = A := ⟨_, rfl⟩
  obtain ⟨c, n1, b1⟩ := A
  have HNum := Lib.hid (rd_Num g q L n 1 bad 1 w h (by decide) (by omega))
  rw [hA] at HNum ⊢
  clear hA h
  obtain ⟨B, hB⟩ : ∃ B, rTake L c n1 b1 = B := ⟨_, rfl⟩
  have HNext := Lib.hid (fun W hW => rd_next g q L n1 b1 c W hW)
  rw [hB] at HNext ⊢
  clear hB
  go_enter Try.func41, Try.ntmps41
  go_wp2_with fail
  refine HNum.out.mono ?_; rintro e w1 ⟨rfl, hR, hG⟩
  have HG := Lib.hid hG
  clear hG
  go_wp2_with fail
  refine (HNext.out w1 hR).mono ?_; rintro e w2 ⟨r, rfl, hr, hR2, hG2⟩
  have hcv := conv_row (P := Try.prog) (src := 23) (dst := 9) (e := 5) Try.underlying23 Try.underlying5 Try.underlying9 hr
  have HR2 := Lib.hid hR2
  have HG2 := Lib.hid hG2
  clear hr hR hR2 hG2 HNum HNext
  go_wp2_with fail
  go_ret
  exact ⟨rfl, HR2.out, grown_grown HG.out HG2.out⟩
end Go.Proofs.Ytdpcfcflcfjmjaa
