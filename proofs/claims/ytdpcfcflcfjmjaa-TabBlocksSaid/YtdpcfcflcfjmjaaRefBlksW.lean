/- Layer 14: the reference's table of blocks as bytes, however long. -/
import Derived.Test.YtdpcfcflcfjmjaaRefBlks
namespace Go.Proofs.Ytdpcfcflcfjmjaa
open Go.RowKit
set_option linter.unusedSimpArgs false
set_option linter.unusedVariables false
theorem ref14_Blocks_long (v : Value) (L : List Bk) (w : World) (hv : RowR 2 blkR w v L) (hlen : 32 < L.length) :
    Calls Try.prog 18 #[v] w fun e w' => e = .returned (.tuple #[.slice none 0 0, .bool false]) ∧ Below w.heap.size w w' := by
  have hl := hv.len
  obtain ⟨sa, ca, rfl⟩ := row_get hv
  obtain ⟨n, hN⟩ : ∃ n, L.length = n := ⟨_, rfl⟩
  rw [hN] at hv hlen hl ⊢
  have q0 : (32 < (n : Int)) = True := eq_true (by omega)
  go_enter Try.func18, Try.ntmps18
  go_wp2_with fail
  go_returns
  exact ⟨rfl, by (repeat' (first | (with_reducible exact Below.refl _ _) | (with_reducible assumption) | (with_reducible refine below_drewN ?_ _) | (with_reducible refine Below.alloc ?_ ?_ _) | (with_reducible refine Below.drew ?_) | (with_reducible refine Below.setCell ?_ ?_ _) | go_size))⟩
theorem ref14_Blocks (v : Value) (L : List Bk) (w : World) (hv : RowR 2 blkR w v L) (hn : ∀ x ∈ L, x.name.length ≤ 1000000) :
    Calls Try.prog 18 #[v] w (PutsB w L) := by
  by_cases h : L.length ≤ 32
  · exact ref14_Blocks_in v L w hv hn h
  · have ho : okBs L = false := by unfold okBs; rw [decide_eq_false h]; rfl
    refine (ref14_Blocks_long v L w hv (by omega)).mono ?_
    rintro e w' ⟨rfl, h3⟩
    exact ⟨_, by rw [ho], fun h => (by rw [ho] at h; cases h), fun _ => rfl, h3⟩
end Go.Proofs.Ytdpcfcflcfjmjaa
