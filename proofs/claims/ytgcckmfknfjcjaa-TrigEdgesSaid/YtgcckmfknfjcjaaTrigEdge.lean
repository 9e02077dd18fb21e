/- Layer 10: TrigEdges: how often a row rises and falls. -/
import Derived.Test.YtgcckmfknfjcjaaLawTen
import Derived.Test.YtgcckmfknfjcjaaMoreB
import Derived.LoopTactic
import Derived.OwnWalk
namespace Go.Proofs.Ytgcckmfknfjcjaa
open Go.RowKit
set_option linter.unusedSimpArgs false
set_option linter.unusedVariables false
theorem more_more (w : World) (l l2 : Array Obj) (d d2 : Nat) : wmore (wmore w l d) l2 d2 = wmore w (l ++ l2) d2 := by simp [wmore, Array.append_assoc]
theorem more_start (w : World) : w = wmore w #[] w.drawn := by simp [wmore]
def bnum (b : Bool) : Int := if b then 1 else 0
def prv (G : Nat → Bool) : Nat → Bool
  | 0 => false
  | k + 1 => G k
def ups (G : Nat → Bool) : Nat → Int
  | 0 => 0
  | k + 1 => ups G k + bnum (G k && !prv G k)
def downs (G : Nat → Bool) : Nat → Int
  | 0 => 0
  | k + 1 => downs G k + bnum (prv G k && !G k)
theorem ups_downs (G : Nat → Bool) : ∀ k, ups G k - downs G k = bnum (prv G k)
  | 0 => rfl
  | k + 1 => by
    have h := ups_downs G k
    show (ups G k + bnum (G k && !prv G k)) - (downs G k + bnum (prv G k && !G k)) = bnum (G k)
    generalize ups G k = u at h ⊢
    generalize downs G k = d at h ⊢
    generalize prv G k = p at h ⊢
    generalize G k = g at h ⊢
    cases g <;> cases p <;> simp only [bnum] at h ⊢ <;> simp at h ⊢ <;> omega
theorem ups_bd (G : Nat → Bool) : ∀ k : Nat, 0 ≤ ups G k ∧ ups G k ≤ k ∧ 0 ≤ downs G k ∧ downs G k ≤ k
  | 0 => by simp [ups, downs]
  | k + 1 => by
    have := ups_bd G k
    simp only [ups, downs]
    cases hg : G k <;> cases hp : prv G k <;> simp [bnum] <;> omega
set_option maxHeartbeats 1000000 in
theorem trig_Edges (v : Value) (n : Nat) (G : Nat → Bool) (w : World) (hn : n ≤ 200) (hv : RowAt w v n (fun i => .bool (G i))) :
    Calls Try.prog 9 #[v] w fun e w' => e = .returned (.tuple #[.int .i64 (ups G n), .int .i64 (downs G n)]) ∧ w' = w := by
  rcases hv with ⟨a, cap, rfl, rfl, _⟩ | ⟨b, off, cap, rfl, h1, h2, h3, h4, hcell⟩
  · go_enter Try.func9, Try.ntmps9
    go_wp2
    go_rounds 1
    go_ret2
    exact ⟨rfl, rfl⟩
  · go_enter Try.func9, Try.ntmps9
    go_wp2
    go_loop [4, 5, 6, 11] (fun s4 s5 s6 s11 => ∃ k : Nat, k ≤ n ∧ s11 = .int .i64 k ∧ s4 = .int .i64 (ups G k) ∧ s5 = .int .i64 (downs G k) ∧ s6 = .bool (prv G k)) (fun _ _ _ s11 => n - (intOf s11).toNat)
    case atStart => exact ⟨0, Nat.zero_le _, rfl, rfl, rfl, rfl⟩
    case round =>
      obtain ⟨k, hk, rfl, rfl, rfl, rfl⟩ := hrel
      by_cases hlt : k < n
      · have hc := hcell k hlt
        obtain ⟨b1, b2, b3, b4⟩ := ups_bd G k
        have HU := Lib.hid (show ups G (k + 1) = ups G k + bnum (G k && !prv G k) from rfl)
        have HD := Lib.hid (show downs G (k + 1) = downs G k + bnum (prv G k && !G k) from rfl)
        have HP := Lib.hid (show prv G (k + 1) = G k from rfl)
        generalize G k = g at *
        generalize prv G k = p at *
        generalize ups G k = u at *
        generalize downs G k = d at *
        clear hcell
        cases g <;> cases p
        all_goals
          go_wp2
          go_round
          case rel => exact ⟨k + 1, by omega, by go_num, by rw [HU.out]; simp [bnum], by rw [HD.out]; simp [bnum], by rw [HP.out]⟩
          case measure => simp [intOf]; omega
      · obtain rfl : k = n := by omega
        clear hcell
        go_wp2
        go_ret2
        exact ⟨rfl, rfl⟩
end Go.Proofs.Ytgcckmfknfjcjaa
