/- Layer 14: PutBlocks. -/
import Derived.Test.YtdpcfcflcfjmjaaTabD
namespace Go.Proofs.Ytdpcfcflcfjmjaa
open Go.RowKit
set_option linter.unusedSimpArgs false
set_option linter.unusedVariables false
theorem tab_put_long (v : Value) (L : List Bk) (w : World) (hv : RowR 2 blkR w v L) (hlen : 32 < L.length) :
    Calls Try.prog 43 #[v, .int .i64 32, .func (.func 44) #[] #[]] w fun e w' => e = .returned (.tuple #[.slice none 0 0, .bool false]) ∧ Below w.heap.size w w' := by
  have hl := hv.len
  obtain ⟨sa, ca, rfl⟩ := row_get hv
  obtain ⟨n, hN⟩ : ∃ n, L.length = n := ⟨_, rfl⟩
  rw [hN] at hv hlen hl ⊢
  have q0 : (32 < (n : Int)) = True := eq_true (by omega)
  go_enter Try.func43, Try.ntmps43
  go_wp2_with fail
  go_returns
  exact ⟨rfl, by (repeat' (first | (with_reducible exact Below.refl _ _) | (with_reducible assumption) | (with_reducible refine below_drewN ?_ _) | (with_reducible refine Below.alloc ?_ ?_ _) | (with_reducible refine Below.drew ?_) | (with_reducible refine Below.setCell ?_ ?_ _) | go_size))⟩
/-- what PutBlocks tells -/
def PutsB (w : World) (L : List Bk) (e : Ending) (w' : World) : Prop :=
  ∃ r, e = .returned (.tuple #[r, .bool (okBs L)]) ∧ (okBs L = true → w'.ownsRow w.heap.size 5 1 r (2 + (blksL L).length) (bytesV (putL 2 L.length ++ blksL L))) ∧ (okBs L = false → r = .slice none 0 0) ∧ Below w.heap.size w w'
theorem tab_put_any (v : Value) (L : List Bk) (w : World) (hv : RowR 2 blkR w v L) (hn : ∀ x ∈ L, x.name.length ≤ 1000000) :
    Calls Try.prog 43 #[v, .int .i64 32, .func (.func 44) #[] #[]] w (PutsB w L) := by
  by_cases h : L.length ≤ 32
  · have ho : okBs L = L.all blkOk := by unfold okBs; rw [decide_eq_true h]; rfl
    refine (tab_put_blocks v L w hv hn h).mono ?_
    rintro e w' ⟨r, rfl, h1, h2, h3⟩
    exact ⟨r, by rw [ho], by rw [ho]; exact h1, by rw [ho]; exact h2, h3⟩
  · have ho : okBs L = false := by unfold okBs; rw [decide_eq_false h]; rfl
    refine (tab_put_long v L w hv (by omega)).mono ?_
    rintro e w' ⟨rfl, h3⟩
    exact ⟨_, by rw [ho], fun h => (by rw [ho] at h; cases h), fun _ => rfl, h3⟩
theorem tab_PutBlocks (v : Value) (L : List Bk) (w : World) (hv : RowR 2 blkR w v L) (hn : ∀ x ∈ L, x.name.length ≤ 1000000) :
    Calls Try.prog 17 #[v] w (PutsB w L) := by
  have HP := Lib.hid (tab_put_any v L w hv hn)
  obtain ⟨sa, ca, rfl⟩ := row_get hv
  clear hv
  go_enter Try.func17, Try.ntmps17
  go_wp2_with fail
  refine HP.out.mono ?_; rintro e w1 ⟨r, rfl, h1, h2, h3⟩
  have H1 := Lib.hid h1
  have H2 := Lib.hid h2
  clear h1 h2 HP
  go_wp2_with fail
  go_returns
  exact ⟨r, rfl, H1.out, H2.out, h3⟩
end Go.Proofs.Ytdpcfcflcfjmjaa
