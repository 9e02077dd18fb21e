/- Layer 47: the walk of LexSplits. -/
import Derived.Test.YtfgnpphbkjeooaaLxAw
import Derived.Test.YtfgnpphbkjeooaaLxRef
namespace Go.Proofs.Ytfgnpphbkjeooaa
open Go.RowKit
set_option linter.unusedSimpArgs false
set_option linter.unusedVariables false
set_option maxHeartbeats 4000000 in
theorem lexSplits_walk (l : List UInt8) (w : World) (hm : MaxL w) (hlm : l.length ≤ 9223372036854775807) :
    Calls Try.prog 3 #[.string ⟨l.toArray⟩] w fun e w' => e = .returned (.bool true) ∧ Below w.heap.size w w' := by
  have HA := Lib.hid (fun W (h : Below w.heap.size w W) => law47_awake W (hm.below h))
  have hlen : (⟨l.toArray⟩ : ByteArray).size = l.length := List.size_toArray
  by_cases hl : l.length ≤ 1000
  case neg =>
    have q0 : ((l.length : Int) ≤ 1000) = False := eq_false (by omega)
    have q0' : ((1000 : Int) < (l.length : Int)) = True := eq_true (by omega)
    have q0'' : (1000 < l.length) = True := eq_true (by omega)
    generalize (⟨l.toArray⟩ : ByteArray) = S at *
    generalize l.length = n at *
    clear hl hm
    go_enter Try.func3, Try.ntmps3
    go_wp2_with fail
    refine (HA.out _ (Below.refl _ _)).mono ?_; rintro e w1 ⟨rfl, hb1⟩
    go_wp2_with fail
    go_ret
    exact ⟨rfl, hb1⟩
  have q0 : ((l.length : Int) ≤ 1000) = True := eq_true (by omega)
  have q0' : ((1000 : Int) < (l.length : Int)) = False := eq_false (by omega)
  have q0'' : (1000 < l.length) = False := eq_false (by omega)
  have HP := Lib.hid (lex_Split l w (by omega) hm)
  have HR := Lib.hid (fun W => ref47_Split l W hl)
  have HL := Lib.hid hl
  generalize (⟨l.toArray⟩ : ByteArray) = S at *
  clear hl hm
  obtain ⟨n, hn⟩ : ∃ n, l.length = n := ⟨_, rfl⟩
  rw [hn] at hlen q0 q0' q0'' hlm
  clear hn
  go_enter Try.func3, Try.ntmps3
  go_wp2_with fail
  refine HP.out.mono ?_; rintro e w1 ⟨hb1, ⟨ln, h1, rfl⟩ | ⟨out, u, h1, rfl, h2, h3⟩⟩
  · have HB1 := Lib.hid hb1
    have HT := Lib.hid h1
    clear hb1 h1
    go_wp2_with fail
    refine (HR.out _).mono ?_; rintro e w2 ⟨hb2, ⟨ln2, h1, rfl⟩ | ⟨out, u, h1, rfl, h2, h3⟩⟩
    · obtain rfl : ln2 = ln := by have := h1.symm.trans HT.out; simpa using this
      have HB2 := Lib.hid (HB1.out.trans (hb2.mono HB1.out.size))
      clear hb2 h1
      go_wp2_with fail
      refine (ref47_Same0 _).mono ?_; rintro e w3 ⟨rfl, m, rfl⟩
      have HB3 := Lib.hid (HB2.out.trans ((Below_drewN _ _ m).mono HB2.out.size))
      generalize w2.drewN m = W3 at *
      go_wp2_with fail
      refine (HA.out _ HB3.out).mono ?_; rintro e w4 ⟨rfl, hb4⟩
      have HB4 := Lib.hid (HB3.out.trans (hb4.mono HB3.out.size))
      clear hb4
      go_wp2_with fail
      go_ret
      exact ⟨rfl, HB4.out⟩
    · exact absurd (h1.symm.trans HT.out) (by simp)
  · have HB1 := Lib.hid hb1
    have HT := Lib.hid h1
    have HN := Lib.hid h2
    obtain ⟨a, cp, rfl⟩ := owns_form h3
    have HU := Lib.hid (tk_of_owns h3)
    clear hb1 h1 h2 h3
    obtain ⟨k, hk⟩ : ∃ k, out.length = k := ⟨_, rfl⟩
    have HKo := Lib.hid hk
    rw [hk] at HU ⊢
    clear hk
    go_wp2_with fail
    refine (HR.out _).mono ?_; rintro e w2 ⟨hb2, ⟨ln2, h1, rfl⟩ | ⟨out2, u, h1, rfl, h2, h3⟩⟩
    · exact absurd (h1.symm.trans HT.out) (by simp)
    · obtain rfl : out2 = out := by have := h1.symm.trans HT.out; simpa using this
      have HB2 := Lib.hid (HB1.out.trans (hb2.mono HB1.out.size))
      obtain ⟨a2, cp2, rfl⟩ := owns_form h3
      have HV := Lib.hid (tk_of_owns h3)
      have HW := Lib.hid (HU.out.below hb2)
      rw [HKo.out] at HV ⊢
      clear hb2 h1 h2 h3
      go_wp2_with fail
      refine (ref47_Same out2 _ _ _ HW.out HV.out (by have := HN.out; have := HL.out; omega)).mono ?_; rintro e w3 ⟨rfl, m, rfl⟩
      have HB3 := Lib.hid (HB2.out.trans ((Below_drewN _ _ m).mono HB2.out.size))
      generalize w2.drewN m = W3 at *
      go_wp2_with fail
      refine (HA.out _ HB3.out).mono ?_; rintro e w4 ⟨rfl, hb4⟩
      have HB4 := Lib.hid (HB3.out.trans (hb4.mono HB3.out.size))
      clear hb4
      go_wp2_with fail
      go_ret
      exact ⟨rfl, HB4.out⟩
end Go.Proofs.Ytfgnpphbkjeooaa
