/- Layer 47: the law's awake. -/
import Derived.Test.YtfgnpphbkjeooaaLxSame
namespace Go.Proofs.Ytfgnpphbkjeooaa
open Go.RowKit
set_option linter.unusedSimpArgs false
set_option linter.unusedVariables false
def A47 : List UInt8 := [120, 58, 61, 73, 78, 84, 35, 45, 53, 59]
theorem a47_T : LX.T A47 10 0 1 [] = (some [⟨1, 1, [120]⟩, ⟨2, 1, [58, 61]⟩, ⟨1, 1, [73, 78, 84, 35, 45, 53]⟩, ⟨2, 1, [59]⟩], 0) := by rfl
theorem a47_told {w : World} {e : Ending} {w' : World} (h : SplitQ A47 w e w') : ∃ g c, e = .returned (.tuple #[.slice (some ⟨g, 0, none⟩) 4 c, .int .i64 0]) ∧ Below w.heap.size w w' ∧ w'.cell? ⟨g, 8, none⟩ = some (.string ⟨#[73, 78, 84, 35, 45, 53]⟩) := by
  obtain ⟨hb, ⟨ln, h1, _⟩ | ⟨out, u, h1, rfl, _, h3⟩⟩ := h
  · have := a47_T.symm.trans h1
    cases this
  · have h4 := a47_T.symm.trans h1
    have h5 : out = [⟨1, 1, [120]⟩, ⟨2, 1, [58, 61]⟩, ⟨1, 1, [73, 78, 84, 35, 45, 53]⟩, ⟨2, 1, [59]⟩] := by
      simp only [Prod.mk.injEq, Option.some.injEq, and_true] at h4
      exact h4.symm
    subst h5
    obtain ⟨b, cap, rfl, hc⟩ := tk_of_owns h3
    obtain ⟨g, rfl, _, _, _, c2⟩ := hc 2 _ rfl
    exact ⟨g, cap, rfl, hb, c2⟩
theorem law47_awake (w : World) (hm : MaxL w) : Calls Try.prog 5 #[] w fun e w' => e = .returned (.bool true) ∧ Below w.heap.size w w' := by
  have HS := Lib.hid (lex_Split A47 w (by decide) hm)
  replace HS := Lib.hid (show Calls Try.prog 6 #[.string ⟨#[120, 58, 61, 73, 78, 84, 35, 45, 53, 59]⟩] w (SplitQ A47 w) from HS.out)
  go_enter Try.func5, Try.ntmps5
  go_wp2_with fail
  refine HS.out.mono ?_; intro e w1 hq
  obtain ⟨g, c, rfl, hb, hc⟩ := a47_told hq
  have HB := Lib.hid hb
  clear hq hb
  go_wp2_with fail
  go_ret
  exact ⟨rfl, HB.out⟩
end Go.Proofs.Ytfgnpphbkjeooaa
