/- flow.end. -/
import Derived.Test.YtckcgaggdeaagaaFlLd
namespace Go.Proofs.Ytckcgaggdeaagaa
open Go.RowKit
set_option linter.unusedSimpArgs false
set_option linter.unusedVariables false
open FL (opA aA goesP brB farB endF stopB)
set_option maxHeartbeats 2000000 in
theorem flow_end (v : Value) (L : List Ins) (M F : Nat → Bool) (fb C f : Nat) (w : World) (hv : RowR 3 insR w v L) (hn : L.length ≤ 300) (hM : FL.Met L M)
    (hF : w.ownsRow C 4 1 (.slice (some ⟨fb, 0, none⟩) L.length L.length) L.length (bV1 (rowF L.length F))) (hf : f < L.length) (hmf : M f = true) :
    Calls Try.prog 12 #[v, .slice (some ⟨fb, 0, none⟩) L.length L.length, .int .i64 (f : Int)] w fun r w' => r = .returned (.int .i64 ((endF L F f : Nat) : Int)) ∧ w' = w := by
  have HV := Lib.hid hv
  have HM := Lib.hid hM
  have HFr := Lib.hid hF
  have HBr := Lib.hid (fun o W => flow_branches o W)
  have HE := Lib.hid (fun p (hp : p < L.length) (h1 : f ≤ p) hs hno => FL.endF_eq (F := F) (L := L) (f := f) (p := p) hp h1 hs hno)
  obtain ⟨s, t, rfl⟩ := row_get hv
  generalize endF L F f = Z at *
  obtain ⟨n, hN⟩ : ∃ n, L.length = n := ⟨_, rfl⟩
  have HN := Lib.hid hN
  rw [hN] at hn HV HFr HE hf ⊢
  have HF0 := Lib.hid (And.intro hf hmf)
  clear hv hN hM hF hf hmf
  go_enter Try.func12, Try.ntmps12
  go_wp2_with fail
  go_loopw [2] (fun pp wr => ∃ p : Nat, pp = .int .i64 p ∧ p < n ∧ Hid (f ≤ p ∧ M p = true ∧ ∀ q, f ≤ q → q < p → stopB L F q = false) ∧ wr = w) (fun pp _ => n - (intOf pp).toNat)
  case atStart => exact ⟨f, rfl, HF0.out.1, Lib.hid ⟨Nat.le_refl _, HF0.out.2, fun q h1 h2 => by omega⟩, rfl⟩
  case round =>
    obtain ⟨p, rfl, hp, hT, hwr⟩ := hrel
    have hwr := hwr.symm
    subst hwr
    have q1 : ((p : Int) < (n : Int)) = True := eq_true (by omega)
    have q1' : (p < n) = True := eq_true hp
    have hp62 : p ≤ 9223372036854775806 := by omega
    have HP := Lib.hid hp
    obtain ⟨x, hx⟩ := get_some (L := L) (n := p) (by rw [HN.out]; exact hp)
    obtain ⟨b, off, hse, hbw, hc⟩ := code_at HV.out (k := p) (by rw [HN.out]; exact hp)
    cases hse
    obtain ⟨c0, _, _, _, _, _⟩ := hc p x hx
    have hop := FL.opA_get hx
    obtain ⟨o, a, bb⟩ := x
    simp only at hop c0
    have HSt := Lib.hid (show stopB L F p = (brB o || decide (o = 34) || F (p + 1)) by unfold stopB farB; rw [hop])
    have HBo := Lib.hid (HBr.out o)
    have HEp := Lib.hid (fun h => HE.out p hp hT.out.1 h hT.out.2.2)
    cases hbr : brB o
    case true =>
      rw [hbr] at HBo
      have HZ := Lib.hid (HEp.out (by rw [HSt.out, hbr]; rfl))
      clear hT hp hx hc hop hbr
      go_wp2_with fail
      refine (HBo.out _).mono ?_; rintro r w2 ⟨rfl, rfl⟩
      go_wp2_with fail
      go_ret
      exact ⟨by rw [HZ.out]; simp, rfl⟩
    rw [hbr] at HBo
    by_cases h34 : o = 34
    · have e34 : (o == 34) = true := by simpa using h34
      have HZ := Lib.hid (HEp.out (by rw [HSt.out, hbr, h34]; rfl))
      clear hT hp hx hc hop hbr h34
      go_wp2_with fail
      refine (HBo.out _).mono ?_; rintro r w2 ⟨rfl, rfl⟩
      go_wp2_with fail
      go_ret
      exact ⟨by rw [HZ.out]; simp, rfl⟩
    have e34 : (o == 34) = false := by simpa using h34
    obtain ⟨hn1, hm1⟩ := FL.next_in HM.out (by rw [HN.out]; exact hp) hT.out.2.1 (by unfold farB; rw [hop, hbr]; simpa using h34)
    rw [HN.out] at hn1
    have cF := owns_bool_at HFr.out hn1 false
    rw [rowF_at hn1] at cF
    have q2 : ((p : Int) + 1 < (n : Int)) = True := eq_true (by omega)
    have q2' : (p + 1 < n) = True := eq_true hn1
    have q3 : (0 ≤ (p : Int) + 1) = True := eq_true (by omega)
    have q4 : ((p : Int) + 1).toNat = p + 1 := by omega
    have HN1 := Lib.hid hn1
    cases hF1 : F (p + 1)
    case true =>
      rw [hF1] at cF
      have HZ := Lib.hid (HEp.out (by rw [HSt.out, hF1]; simp))
      clear hT hp hx hc hop hbr h34 hF1 hn1 hm1
      go_wp2_with fail
      refine (HBo.out _).mono ?_; rintro r w2 ⟨rfl, rfl⟩
      go_wp2_with fail
      go_ret
      exact ⟨by rw [HZ.out]; simp, rfl⟩
    case false =>
      rw [hF1] at cF
      have HTn := Lib.hid (show f ≤ p + 1 ∧ M (p + 1) = true ∧ ∀ q, f ≤ q → q < p + 1 → stopB L F q = false from ⟨by have := hT.out.1; omega, hm1, fun q h1 h2 => by
        by_cases e : q = p
        · subst e; rw [HSt.out, hbr, hF1]; simpa using h34
        · exact hT.out.2.2 q h1 (by omega)⟩)
      clear hT hp hx hc hop hbr h34 hF1 hn1 hm1
      go_wp2_with fail
      refine (HBo.out _).mono ?_; rintro r w2 ⟨rfl, rfl⟩
      go_wp2_with fail
      go_roundw
      case rel => exact ⟨p + 1, by simp, HN1.out, HTn, by simp⟩
      case measure => have := HN1.out; first | (simp [intOf]; done) | (simp [intOf]; omega)
end Go.Proofs.Ytckcgaggdeaagaa
