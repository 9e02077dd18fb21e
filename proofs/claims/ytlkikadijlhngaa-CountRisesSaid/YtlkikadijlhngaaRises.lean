/- Layer 9: CountRises: how often two rows rise. -/
import Derived.Test.YtlkikadijlhngaaLawNine
import Derived.Test.YtlkikadijlhngaaRowTwo
namespace Go.Proofs.Ytlkikadijlhngaa
open Go.RowKit
set_option linter.unusedSimpArgs false
set_option linter.unusedVariables false
def prv (G : Nat → Bool) : Nat → Bool
  | 0 => false
  | k + 1 => G k
def rs (G : Nat → Bool) (k : Nat) : Bool := G k && !prv G k
def ups (G : Nat → Bool) : Nat → Int
  | 0 => 0
  | k + 1 => ups G k + bnum (rs G k)
def bth (F G : Nat → Bool) : Nat → Int
  | 0 => 0
  | k + 1 => bth F G k + bnum (rs F k && !rs G k) - bnum (rs G k && !rs F k)
theorem ups_bd (G : Nat → Bool) : ∀ k : Nat, 0 ≤ ups G k ∧ ups G k ≤ k
  | 0 => by simp [ups]
  | k + 1 => by
    have := ups_bd G k
    simp only [ups]
    cases rs G k <;> simp [bnum] <;> omega
theorem bth_bd (F G : Nat → Bool) : ∀ k : Nat, -(k : Int) ≤ bth F G k ∧ bth F G k ≤ k
  | 0 => by simp [bth]
  | k + 1 => by
    have := bth_bd F G k
    simp only [bth]
    cases rs G k <;> cases rs F k <;> simp [bnum] <;> omega
theorem riseA (f p : Bool) (x0 a3 up : Int) (hx : x0 = bnum f) (h : 0 ≤ up ∧ up ≤ 200) : ∃ a3', ctStep 4 x0 0 0 a3 up (bnum p) 0 0 0 0 = .agg #[.int .i64 x0, .int .i64 0, .int .i64 0, .int .i64 a3', .int .i64 (up + bnum (f && !p)), .int .i64 (bnum f), .int .i64 0, .int .i64 0, .int .i64 0, .int .i64 0] := by
  have h1 : up < 32767 := by omega
  refine ⟨bnum (decide (0 ≤ up + bnum (f && !p))), ?_⟩
  subst hx
  cases f <;> cases p <;> simp [ctStep, u4, rb, ctMore, bnum, h1]
theorem riseB (g q : Bool) (x0 b3 dn : Int) (hx : x0 = bnum g) (h : 0 ≤ dn ∧ dn ≤ 200) : ∃ b3', ctStep 5 x0 0 0 b3 (-dn) (bnum q) 0 0 0 0 = .agg #[.int .i64 x0, .int .i64 0, .int .i64 0, .int .i64 b3', .int .i64 (-dn - bnum (g && !q)), .int .i64 (bnum g), .int .i64 0, .int .i64 0, .int .i64 0, .int .i64 0] := by
  have h1 : -32768 < -dn := by omega
  refine ⟨bnum (decide (-dn - bnum (g && !q) ≤ 0)), ?_⟩
  subst hx
  cases g <;> cases q <;> simp [ctStep, d4, rb, ctLess, bnum, h1]
theorem riseC (f g p q : Bool) (x0 x1 c5 c6 bo : Int) (hx : x0 = bnum f) (hy : x1 = bnum g) (h : -200 ≤ bo ∧ bo ≤ 200) : ∃ c5' c6', ctStep 6 x0 x1 0 0 0 c5 c6 bo (bnum p) (bnum q) = .agg #[.int .i64 x0, .int .i64 x1, .int .i64 0, .int .i64 0, .int .i64 0, .int .i64 c5', .int .i64 c6', .int .i64 (bo + bnum ((f && !p) && !(g && !q)) - bnum ((g && !q) && !(f && !p))), .int .i64 (bnum f), .int .i64 (bnum g)] := by
  have h1 : bo < 32767 := by omega
  have h2 : -32768 < bo := by omega
  refine ⟨bnum (decide (0 ≤ bo + bnum ((f && !p) && !(g && !q)) - bnum ((g && !q) && !(f && !p)))), bnum (decide (bo + bnum ((f && !p) && !(g && !q)) - bnum ((g && !q) && !(f && !p)) ≤ 0)), ?_⟩
  subst hx hy
  cases f <;> cases p <;> cases g <;> cases q <;> simp [ctStep, b7, rb, ctMore, ctLess, bnum, h1, h2]
end Go.Proofs.Ytlkikadijlhngaa
