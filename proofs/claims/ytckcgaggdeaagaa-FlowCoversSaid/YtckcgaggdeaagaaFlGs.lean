/- flow.jumpsRight, flow.Goes. -/
import Derived.Test.YtckcgaggdeaagaaFlGo
namespace Go.Proofs.Ytckcgaggdeaagaa
open Go.RowKit
set_option linter.unusedSimpArgs false
set_option linter.unusedVariables false
open FL (opA aA goesP)
def jumpsB (L : List Ins) : Bool := (List.range L.length).all fun pc => jumpQ L pc (opA L pc) (aA L pc) == 0
theorem jumps_sw {L : List Ins} (h : jumpsB L = true) {pc : Nat} (hp : pc < L.length) : swOk L pc := by
  intro ho k hk
  have h1 := List.all_eq_true.1 h pc (List.mem_range.2 hp)
  have h2 : jumpQ L pc 32 (aA L pc) = 0 := by rw [ho] at h1; simpa using h1
  unfold jumpQ at h2
  rw [if_neg (by omega), jumpP_s] at h2
  split at h2
  · omega
  · cases h2
set_option maxHeartbeats 2000000 in
theorem flow_jumpsRight (v : Value) (L : List Ins) (w : World) (hv : RowR 3 insR w v L) (hn : L.length ≤ 300) :
    Calls Try.prog 9 #[v] w fun r w' => r = .returned (.bool (jumpsB L)) ∧ Below w.heap.size w w' := by
  have HJ := Lib.hid (fun (W : World) (h : Below w.heap.size w W) (pc : Nat) (x : Ins) (hx : L[pc]? = some x) => refs_JumpQ v L pc x W (hv.below insR_stable h) hx hn)
  obtain ⟨s, t, rfl⟩ := row_get hv
  obtain ⟨n, hN⟩ : ∃ n, L.length = n := ⟨_, rfl⟩
  have HN := Lib.hid hN
  have HZ := Lib.hid (show jumpsB L = (List.range n).all fun pc => jumpQ L pc (opA L pc) (aA L pc) == 0 by unfold jumpsB; rw [hN])
  generalize jumpsB L = Z at *
  rw [hN] at HJ hn ⊢
  clear hv hN
  go_enter Try.func9, Try.ntmps9
  go_wp2_with fail
  go_loopw [6] (fun jj wr => ∃ k : Nat, k ≤ n ∧ jj = .int .i64 k ∧ Hid (((List.range k).all fun pc => jumpQ L pc (opA L pc) (aA L pc) == 0) = true) ∧ Hid (Below w.heap.size w wr)) (fun jj _ => n - (intOf jj).toNat)
  case atStart => exact ⟨0, by omega, rfl, Lib.hid rfl, Lib.hid (Below.refl _ _)⟩
  case round =>
    obtain ⟨k, hk, rfl, hT, hB⟩ := hrel
    by_cases hlt : k < n
    case neg =>
      obtain rfl : n = k := by omega
      have qk : ((n : Int) < (n : Int)) = False := eq_false (by omega)
      have qk' : (n < n) = False := eq_false (by omega)
      have HE := Lib.hid (show Z = true by rw [HZ.out]; exact hT.out)
      have HB := hB
      clear hT hB hlt hk
      go_wp2_with fail
      go_ret
      exact ⟨by rw [HE.out]; rfl, HB.out⟩
    have qk : ((k : Int) < (n : Int)) = True := eq_true (by omega)
    have qk' : (k < n) = True := eq_true hlt
    have hk62 : k ≤ 9223372036854775806 := by omega
    have HK := Lib.hid hlt
    obtain ⟨x, hx⟩ := get_some (L := L) (n := k) (by rw [HN.out]; exact hlt)
    have HC := Lib.hid (HJ.out _ hB.out k x hx)
    have e1 : opA L k = x.1 := by unfold opA; simp [List.getD, hx]
    have e2 : aA L k = x.2.1 := by unfold aA; simp [List.getD, hx]
    have HTk := Lib.hid (show ((List.range (k + 1)).all fun pc => jumpQ L pc (opA L pc) (aA L pc) == 0) = (jumpQ L k x.1 x.2.1 == 0) by
      rw [List.range_succ, List.all_append, hT.out, ← e1, ← e2]; simp)
    have HF := Lib.hid (show jumpQ L k x.1 x.2.1 ≠ 0 → Z = false from fun h => by
      rw [HZ.out]
      cases hh : (List.range n).all fun pc => jumpQ L pc (opA L pc) (aA L pc) == 0
      · rfl
      · have := List.all_eq_true.1 hh k (List.mem_range.2 hlt)
        rw [e1, e2] at this
        exact absurd (by simpa using this) h)
    generalize jumpQ L k x.1 x.2.1 = j at *
    have HB := hB
    clear hT hB hlt hk hx e1 e2
    go_wp2_with fail
    refine HC.out.mono ?_; rintro r w2 ⟨rfl, hb2⟩
    have HB2 := Lib.hid (HB.out.trans (hb2.mono HB.out.size))
    clear hb2
    by_cases h0 : j = 0
    · have q0 : (j != 0) = false := by simpa using h0
      have HE := Lib.hid (show ((List.range (k + 1)).all fun pc => jumpQ L pc (opA L pc) (aA L pc) == 0) = true by rw [HTk.out, h0]; rfl)
      clear h0
      go_wp2_with fail
      go_roundw
      case rel => exact ⟨k + 1, by have := HK.out; omega, by simp, HE, HB2⟩
      case measure => have := HK.out; first | (simp [intOf]; done) | (simp [intOf]; omega)
    · have q0 : (j != 0) = true := by simpa using h0
      have HE := Lib.hid (HF.out h0)
      clear h0
      go_wp2_with fail
      go_ret
      exact ⟨by rw [HE.out]; rfl, HB2.out⟩
def goesZ (L : List Ins) (z : Int) : List Int := if 0 ≤ z ∧ z < (L.length : Int) ∧ jumpsB L = true then goesP L z.toNat else []
set_option maxHeartbeats 2000000 in
theorem flow_Goes (v : Value) (L : List Ins) (z : Int) (w : World) (hv : RowR 3 insR w v L) (hn : L.length ≤ 300) :
    Calls Try.prog 8 #[v, .int .i64 z] w fun r w' => ∃ u, r = .returned u ∧ w'.ownsRow w.heap.size 3 1 u (goesZ L z).length (iV (goesZ L z)) ∧ Below w.heap.size w w' := by
  have HJ := Lib.hid (flow_jumpsRight v L w hv hn)
  have HG := Lib.hid (fun (W : World) (h : Below w.heap.size w W) (pc : Nat) (hp : pc < L.length) (hj : jumpsB L = true) => flow_goes v L pc W (hv.below insR_stable h) hp hn (jumps_sw hj hp))
  obtain ⟨s, t, rfl⟩ := row_get hv
  have HZ := Lib.hid (show goesZ L z = if 0 ≤ z ∧ z < (L.length : Int) ∧ jumpsB L = true then goesP L z.toNat else [] from rfl)
  generalize goesZ L z = Z at *
  generalize L.length = n at *
  clear hv
  by_cases h0 : z < 0
  · have q0 : (z < 0) = True := eq_true h0
    have HE := Lib.hid (show Z = [] by rw [HZ.out, if_neg (fun h => by omega)])
    clear h0
    go_enter Try.func8, Try.ntmps8
    go_wp2_with fail
    go_ret
    exact ⟨_, rfl, by rw [HE.out]; exact World.ownsRow_nil _ _ _ _, Below.refl _ _⟩
  have q0 : (z < 0) = False := eq_false h0
  by_cases h1 : (n : Int) ≤ z
  · have q1 : ((n : Int) ≤ z) = True := eq_true h1
    have HE := Lib.hid (show Z = [] by rw [HZ.out, if_neg (fun h => by omega)])
    clear h0 h1
    go_enter Try.func8, Try.ntmps8
    go_wp2_with fail
    go_ret
    exact ⟨_, rfl, by rw [HE.out]; exact World.ownsRow_nil _ _ _ _, Below.refl _ _⟩
  obtain ⟨u, rfl⟩ : ∃ u : Nat, z = (u : Int) := ⟨z.toNat, by omega⟩
  have q1 : ((n : Int) ≤ (u : Int)) = False := eq_false h1
  have q1' : (n ≤ u) = False := eq_false (by omega)
  have hun : u < n := by omega
  cases hj : jumpsB L
  · have HE := Lib.hid (show Z = [] by rw [HZ.out, if_neg (fun h => by have := h.2.2; rw [hj] at this; cases this)])
    rw [hj] at HJ
    clear h0 h1 hj hun
    go_enter Try.func8, Try.ntmps8
    go_wp2_with fail
    refine HJ.out.mono ?_; rintro r w2 ⟨rfl, hb2⟩
    have HB := Lib.hid hb2
    clear hb2
    go_wp2_with fail
    go_ret
    exact ⟨_, rfl, by rw [HE.out]; exact World.ownsRow_nil _ _ _ _, HB.out⟩
  · have HE := Lib.hid (show Z = goesP L u by rw [HZ.out, if_pos ⟨by omega, by omega, hj⟩, Int.toNat_natCast])
    have HG := Lib.hid (fun W h => HG.out W h u hun hj)
    rw [hj] at HJ
    clear h0 h1 hj hun
    go_enter Try.func8, Try.ntmps8
    go_wp2_with fail
    refine HJ.out.mono ?_; rintro r w2 ⟨rfl, hb2⟩
    have HB := Lib.hid hb2
    have HG2 := Lib.hid (HG.out _ hb2)
    clear hb2
    go_wp2_with fail
    refine HG2.out.mono ?_; rintro r w3 ⟨x, rfl, hO, hb3⟩
    have HB3 := Lib.hid (HB.out.trans (hb3.mono HB.out.size))
    have HO := Lib.hid (own_low hO HB.out.size)
    clear hb3 hO
    go_wp2_with fail
    go_ret
    exact ⟨_, rfl, by rw [HE.out]; exact HO.out, HB3.out⟩
end Go.Proofs.Ytckcgaggdeaagaa
