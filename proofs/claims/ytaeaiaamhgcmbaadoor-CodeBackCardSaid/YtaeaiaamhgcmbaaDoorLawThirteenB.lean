/- Layer 13: the law CodeBack's walk. -/
import Derived.Test.YtaeaiaamhgcmbaaDoorLawThirteen
namespace Go.Proofs.YtaeaiaamhgcmbaaDoor
open Go.RowKit
set_option linter.unusedSimpArgs false
set_option linter.unusedVariables false
set_option maxHeartbeats 4000000 in
theorem codeBack_walk (v u : Value) (L : List Ins) (B : List UInt8) (w : World) (hT : STab w) (hv : RowR 3 insR w v L) (hv2 : RowAt w u B.length (byteV B)) :
    Calls Tryd.prog 5 #[v, u] w fun e w' => e = .returned (.bool true) ∧ Below w.heap.size w w' := by
  obtain ⟨sa, cap, rfl⟩ := ins_get hv
  obtain ⟨sb, cbp, rfl⟩ := bytes_get hv2
  by_cases hl : 200 < L.length
  · have q1 : (200 < (L.length : Int)) = True := eq_true (by omega)
    go_enter Tryd.func5, Tryd.ntmps5
    go_wp2_with fail
    refine (law13_awake _ hT).mono ?_; rintro e w1 ⟨rfl, hb⟩
    go_wp2_with fail
    go_ret
    exact ⟨rfl, hb⟩
  have q1 : (200 < (L.length : Int)) = False := eq_false (by omega)
  by_cases hl2 : 1000 < B.length
  · have q2 : (1000 < (B.length : Int)) = True := eq_true (by omega)
    go_enter Tryd.func5, Tryd.ntmps5
    go_wp2_with fail
    refine (law13_awake _ hT).mono ?_; rintro e w1 ⟨rfl, hb⟩
    go_wp2_with fail
    go_ret
    exact ⟨rfl, hb⟩
  have q2 : (1000 < (B.length : Int)) = False := eq_false (by omega)
  have hn : L.length ≤ 200 := by omega
  have hn2 : B.length ≤ 1000 := by omega
  clear hl hl2
  have hEnc := code_Encode _ L w hT hv (by omega)
  have hDec := fun W (hb : Below w.heap.size w W) => code_Decode _ B W (hT.below hb) (hv2.below hb) (by omega)
  cases hal : L.all rI
  · rw [hal] at hEnc
    go_enter Tryd.func5, Tryd.ntmps5
    go_wp2_with fail
    refine hEnc.mono ?_; rintro e W1 ⟨r, rfl, hr, hb1⟩
    clear hr
    go_wp2_with fail
    refine (hDec _ hb1).mono ?_; rintro e V1 ⟨r2, M, a2, e2, rfl, d2, hr2, hb2⟩
    have hA1 := Below.trans hb1 (hb2.mono (Below.size hb1))
    have hfew := dec_few d2 hn2
    have hen := code_Encode r2 M V1 (hT.below hA1) hr2 hfew
    obtain ⟨s2, p2, rfl⟩ := ins_get hr2
    have hbk := d2.back
    clear d2
    go_wp2_with fail
    refine hen.mono ?_; rintro e V2 ⟨r3, rfl, hr3, hb3⟩
    have hA2 := hA1.trans (hb3.mono hA1.size)
    have hvb := hv2.below hA2
    have hA := fun W (h : Below w.heap.size w W) => law13_awake W (hT.below h)
    rcases hbk with ⟨g1, g2⟩ | ⟨g1, g2, g3⟩
    · have hne : (e2 != 0) = true := by simpa using g1
      subst g2
      clear g1 hr3 hvb
      go_wp2_with fail
      refine (hA _ hA2).mono ?_; rintro e V3 ⟨rfl, hb4⟩
      have hA3 := hA2.trans (hb4.mono hA2.size)
      go_wp2_with fail
      go_ret
      exact ⟨rfl, hA3⟩
    · subst g1
      have hee : encO M = B := by rw [encO_yes g2, g3]
      rw [hee] at hr3
      rw [g2]
      have cv1 := conv_row (P := Tryd.prog) (src := 24) (dst := 9) (e := 5) Tryd.underlying24 Tryd.underlying5 Tryd.underlying9 hr3
      have cv2 := conv_row (P := Tryd.prog) (src := 24) (dst := 9) (e := 5) Tryd.underlying24 Tryd.underlying5 Tryd.underlying9 hvb
      clear hr3 hvb g2 g3 hee
      go_wp2_with fail
      refine (hA _ hA2).mono ?_; rintro e V3 ⟨rfl, hb4⟩
      have hA3 := hA2.trans (hb4.mono hA2.size)
      go_wp2_with fail
      go_ret
      exact ⟨rfl, hA3⟩
  · rw [hal] at hEnc
    have hee := encO_yes hal
    have hel := enc_len L
    rw [hee] at hEnc
    go_enter Tryd.func5, Tryd.ntmps5
    go_wp2_with fail
    refine hEnc.mono ?_; rintro e W1 ⟨r, rfl, hr, hb1⟩
    have hD1 := code_Decode r (enc L) W1 (hT.below hb1) hr (by omega)
    obtain ⟨s1, p1, rfl⟩ := bytes_get hr
    have hw5 : IntKind.i64.wrap (5 * (L.length : Int)) = 5 * (L.length : Int) := IntWalk.i64_in _ (by omega)
    have hneq : (((enc L).length : Int) != 5 * (L.length : Int)) = false := by rw [hel]; simp
    clear hr hel hee
    go_wp2_with fail
    refine hD1.mono ?_; rintro e W2 ⟨r4, M4, a4, e4, rfl, d4, hr4, hb4⟩
    obtain ⟨h1, rfl, rfl⟩ := d4.unique (enc_dec hal)
    subst h1
    have hB2 := hb1.trans (hb4.mono hb1.size)
    have hS := ref13_Same _ r4 M4 M4 W2 (hv.below insR_stable hB2) hr4 (by omega)
    rw [decide_eq_true rfl] at hS
    clear d4 hr4
    go_wp2_with fail
    refine hS.mono ?_; rintro e w3 ⟨rfl, m, rfl⟩
    go_wp2_with fail
    refine (hDec _ (below_drewN hB2 m)).mono ?_; rintro e V1 ⟨r2, M, a2, e2, rfl, d2, hr2, hb2⟩
    have hA1 := Below.trans (below_drewN hB2 m) (hb2.mono (Below.size (below_drewN hB2 m)))
    have hfew := dec_few d2 hn2
    have hen := code_Encode r2 M V1 (hT.below hA1) hr2 hfew
    obtain ⟨s2, p2, rfl⟩ := ins_get hr2
    have hbk := d2.back
    clear d2
    go_wp2_with fail
    refine hen.mono ?_; rintro e V2 ⟨r3, rfl, hr3, hb3⟩
    have hA2 := hA1.trans (hb3.mono hA1.size)
    have hvb := hv2.below hA2
    have hA := fun W (h : Below w.heap.size w W) => law13_awake W (hT.below h)
    rcases hbk with ⟨g1, g2⟩ | ⟨g1, g2, g3⟩
    · have hne : (e2 != 0) = true := by simpa using g1
      subst g2
      clear g1 hr3 hvb
      go_wp2_with fail
      refine (hA _ hA2).mono ?_; rintro e V3 ⟨rfl, hb4⟩
      have hA3 := hA2.trans (hb4.mono hA2.size)
      go_wp2_with fail
      go_ret
      exact ⟨rfl, hA3⟩
    · subst g1
      have hee : encO M = B := by rw [encO_yes g2, g3]
      rw [hee] at hr3
      rw [g2]
      have cv1 := conv_row (P := Tryd.prog) (src := 24) (dst := 9) (e := 5) Tryd.underlying24 Tryd.underlying5 Tryd.underlying9 hr3
      have cv2 := conv_row (P := Tryd.prog) (src := 24) (dst := 9) (e := 5) Tryd.underlying24 Tryd.underlying5 Tryd.underlying9 hvb
      clear hr3 hvb g2 g3 hee
      go_wp2_with fail
      refine (hA _ hA2).mono ?_; rintro e V3 ⟨rfl, hb4⟩
      have hA3 := hA2.trans (hb4.mono hA2.size)
      go_wp2_with fail
      go_ret
      exact ⟨rfl, hA3⟩
end Go.Proofs.YtaeaiaamhgcmbaaDoor
