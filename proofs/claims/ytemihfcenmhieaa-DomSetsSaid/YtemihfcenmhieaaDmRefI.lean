/- The document's dominating and nearest dominators; which graphs are small. -/
import Derived.Test.YtemihfcenmhieaaDmRef
namespace Go.Proofs.Ytemihfcenmhieaa
open Go.RowKit
set_option linter.unusedSimpArgs false
set_option linter.unusedVariables false
open DM (rowN okN gI reachF domF bestF)
theorem owned_bool {w : World} {B n : Nat} {e : TypeId} {u : Value} {L : List Bool} (h : w.ownsRow B e 1 u n (bV1 L)) (hn : 0 < n) : ∃ g c, u = .slice (some ⟨g, 0, none⟩) n c ∧ n ≤ c ∧ c ≤ 9223372036854775807 := by
  rcases h.2 with ⟨_, h0⟩ | ⟨g, cap, cur, h1, _, _, h2, h3, _⟩
  · omega
  · exact ⟨g, cap, h1, h2, h3⟩
set_option maxHeartbeats 4000000 in
theorem ref31_Dominates (v : Value) (next : List (List Int)) (a b : Nat) (w : World) (hv : RowR 1 gridR w v next) (hn : next.length ≤ 1024) (ha : a < next.length) (hb : b < next.length) :
    Calls Try.prog 16 #[v, .int .i64 (a : Int), .int .i64 (b : Int)] w fun r w' => r = .returned (.bool (domF next a b)) ∧ Below w.heap.size w w' := by
  have HR := Lib.hid (fun wo W (h : Below w.heap.size w W) => ref31_Reach v next wo W (hv.below gridR_stable h) hn)
  obtain ⟨ad, cap, rfl⟩ := row_get hv
  obtain ⟨n, hN⟩ : ∃ n, next.length = n := ⟨_, rfl⟩
  have HD := Lib.hid (show domF next a b = ((reachF next (-1)).getD b false && !(reachF next (a : Int)).getD b false) by unfold domF; rw [show decide (b < next.length ∧ a < next.length) = true from decide_eq_true ⟨hb, ha⟩, Bool.true_and])
  rw [hN] at hn ha hb HR ⊢
  have hn63 : n ≤ 9223372036854775807 := by omega
  have qa : ((n : Int) ≤ (a : Int)) = False := eq_false (by omega)
  have qa' : (n ≤ a) = False := eq_false (by omega)
  have qb : ((n : Int) ≤ (b : Int)) = False := eq_false (by omega)
  have qb' : (n ≤ b) = False := eq_false (by omega)
  have qb2 : ((b : Int) < (n : Int)) = True := eq_true (by omega)
  have qb2' : (b < n) = True := eq_true hb
  have HBn := Lib.hid hb
  generalize domF next a b = Z at *
  clear hv hN hn ha hb
  go_enter Try.func16, Try.ntmps16
  go_wp2_with fail
  refine (HR.out _ _ (Below.refl _ _)).mono ?_; rintro r w2 ⟨u, rfl, hO, hb⟩
  obtain ⟨g, c, rfl, hc1, hc2⟩ := owned_bool hO (by have := HBn.out; omega)
  have cb := owns_bool_at hO HBn.out false
  have HB2 := Lib.hid hb
  clear hO hb
  cases hx : (reachF next (-1)).getD b false
  · rw [hx] at cb
    have hZ := Lib.hid (show Z = false by rw [HD.out, hx]; rfl)
    clear hx
    go_wp2_with fail
    go_ret
    exact ⟨by rw [hZ.out]; rfl, HB2.out⟩
  · rw [hx] at cb
    have HD := Lib.hid (show Z = !(reachF next (a : Int)).getD b false by rw [HD.out, hx]; rfl)
    clear hx
    go_wp2_with fail
    refine (HR.out _ _ HB2.out).mono ?_; rintro r w3 ⟨u, rfl, hO, hb⟩
    obtain ⟨g3, c3, rfl, hc31, hc32⟩ := owned_bool hO (by have := HBn.out; omega)
    have cb3 := owns_bool_at hO HBn.out false
    have HB3 := Lib.hid (HB2.out.trans (hb.mono HB2.out.size))
    clear hO hb cb
    generalize (reachF next (a : Int)).getD b false = y at *
    go_wp2_with fail
    go_ret
    exact ⟨by rw [HD.out]; rfl, HB3.out⟩
def few31 (next : List (List Int)) (most : Int) : Bool := decide ((next.length : Int) ≤ most) && next.all fun l => decide (l.length ≤ 40)
set_option maxHeartbeats 2000000 in
theorem ref31_Few (v : Value) (next : List (List Int)) (most : Int) (w : World) (hv : RowR 1 gridR w v next) :
    Calls Try.prog 6 #[v, .int .i64 most] w fun r w' => r = .returned (.bool (few31 next most)) ∧ w = w' := by
  have hlen := hv.len
  have HV := Lib.hid hv
  obtain ⟨ad, cap, rfl⟩ := row_get hv
  obtain ⟨n, hN⟩ : ∃ n, next.length = n := ⟨_, rfl⟩
  have HN := Lib.hid hN
  have HZ := Lib.hid (show few31 next most = (decide ((n : Int) ≤ most) && next.all fun l => decide (l.length ≤ 40)) by unfold few31; rw [hN])
  rw [hN] at hlen HV ⊢
  generalize few31 next most = Z at *
  clear hv hN
  by_cases h0 : (n : Int) ≤ most
  case neg =>
    have q0 : (most < (n : Int)) = True := eq_true (by omega)
    have hZ := Lib.hid (show Z = false by rw [HZ.out, show decide ((n : Int) ≤ most) = false from decide_eq_false h0]; rfl)
    clear h0
    go_enter Try.func6, Try.ntmps6
    go_wp2_with fail
    go_ret
    exact ⟨by rw [hZ.out]; rfl, rfl⟩
  have q0 : (most < (n : Int)) = False := eq_false (by omega)
  have HZ := Lib.hid (show Z = next.all fun l => decide (l.length ≤ 40) by rw [HZ.out, show decide ((n : Int) ≤ most) = true from decide_eq_true h0, Bool.true_and])
  clear h0
  go_enter Try.func6, Try.ntmps6
  go_wp2_with fail
  go_loopw [5] (fun jj wr => ∃ k : Nat, k ≤ n ∧ jj = .int .i64 k ∧ Hid ((next.take k).all (fun l => decide (l.length ≤ 40)) = true) ∧ wr = w) (fun jj _ => n - (intOf jj).toNat)
  case atStart => exact ⟨0, Nat.zero_le _, rfl, Lib.hid (by simp), rfl⟩
  case round =>
    obtain ⟨k, hk, rfl, hA, hwr⟩ := hrel
    have hwr := hwr.symm
    subst hwr
    by_cases hlt : k < n
    case neg =>
      obtain rfl : n = k := by omega
      have q1 : ((n : Int) < (n : Int)) = False := eq_false (by omega)
      have q1' : (n < n) = False := eq_false (by omega)
      have hZ := Lib.hid (show Z = true by rw [HZ.out, ← hA.out, List.take_of_length_le (by rw [HN.out]; exact Nat.le_refl _)])
      clear hA hlt hk
      go_wp2_with fail
      go_ret
      exact ⟨by rw [hZ.out]; rfl, rfl⟩
    have q1 : ((k : Int) < (n : Int)) = True := eq_true (by omega)
    have q1' : (k < n) = True := eq_true hlt
    have hk62 : k ≤ 9223372036854775806 := by omega
    have HK := Lib.hid hlt
    obtain ⟨l, hl⟩ := get_some (L := next) (n := k) (by rw [HN.out]; exact hlt)
    obtain ⟨bn, on', sl, sc, rfl, hbn, hnN, hcN, cn0, hL⟩ := grid_at HV.out hl
    have hlm := hL.len
    have HL := Lib.hid hl
    obtain ⟨m, hm⟩ : ∃ m, l.length = m := ⟨_, rfl⟩
    have HM := Lib.hid hm
    rw [hm] at cn0 hlm
    clear hL hl hm hlt hk
    by_cases h40 : m ≤ 40
    · have q2 : ((40 : Int) < (m : Int)) = False := eq_false (by omega)
      have q2' : (40 < m) = False := eq_false (by omega)
      have HA2 := Lib.hid (show (next.take (k + 1)).all (fun l => decide (l.length ≤ 40)) = true by rw [take_snoc HL.out, List.all_append, hA.out]; simp [HM.out, h40])
      clear hA h40
      go_wp2_with fail
      go_roundw
      case rel => exact ⟨k + 1, by have := HK.out; omega, by simp, HA2, by first | rfl | trivial⟩
      case measure => have := HK.out; first | (simp [intOf]; done) | (simp [intOf]; omega)
    · have q2 : ((40 : Int) < (m : Int)) = True := eq_true (by omega)
      have q2' : (40 < m) = True := eq_true (by omega)
      have hZ := Lib.hid (show Z = false by
        rw [HZ.out]
        refine List.all_eq_false.2 ⟨l, List.mem_of_getElem? HL.out, ?_⟩
        rw [HM.out]; simpa using h40)
      clear hA h40
      go_wp2_with fail
      go_ret
      exact ⟨by rw [hZ.out]; rfl, rfl⟩
end Go.Proofs.Ytemihfcenmhieaa
