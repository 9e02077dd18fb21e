/- Layer 31: the walk of DomNearest. -/
import Derived.Test.YtemihfcenmhieaaDmLaw
namespace Go.Proofs.Ytemihfcenmhieaa
open Go.RowKit
set_option linter.unusedSimpArgs false
set_option linter.unusedVariables false
set_option maxHeartbeats 4000000 in
theorem domNearest_walk (v : Value) (next : List (List Int)) (w : World) (hv : RowR 1 gridR w v next) :
    Calls Try.prog 3 #[v] w fun r w' => r = .returned (.bool true) ∧ Below w.heap.size w w' := by
  have HF := Lib.hid (ref31_Few v next 24 w hv)
  have HA0 := Lib.hid (fun W => law31_awake W)
  cases hf : few31 next 24
  · rw [hf] at HF
    obtain ⟨ad, cap, rfl⟩ := row_get hv
    clear hv hf
    go_enter Try.func3, Try.ntmps3
    go_wp2_with fail
    refine HF.out.mono ?_; rintro r w2 ⟨rfl, rfl⟩
    go_wp2_with fail
    refine (HA0.out _).mono ?_; rintro r w3 ⟨rfl, hb⟩
    go_wp2_with fail
    go_ret
    exact ⟨rfl, hb⟩
  rw [hf] at HF
  obtain ⟨hn, hl⟩ := few31_le (k := 24) hf
  obtain ⟨d, DF, T⟩ := told next
  obtain ⟨K, hK⟩ := T.ord
  obtain ⟨f, m, hM⟩ := T.rst
  obtain ⟨K2, N2, hS⟩ := T.set
  have hbest := T.best
  have hd1 : d.length ≤ 4096 := by have := T.len; omega
  have H1 := Lib.hid (fun W (h : Below w.heap.size w W) => dom_Order v next W (hv.below gridR_stable h) (by omega) K d hK)
  have H2 := Lib.hid (fun W (h : Below w.heap.size w W) => ref31_Order v next W (hv.below gridR_stable h) (by omega) f m d hM hd1 T.lt)
  have H3 := Lib.hid (fun W (h : Below w.heap.size w W) => dom_Idom v next W (hv.below gridR_stable h) (by omega) (fun l hl' => by have := hl l hl'; omega) K d hK T.len T.lt K2 N2 DF hS)
  have H4 := Lib.hid (fun W (h : Below w.heap.size w W) => ref31_Idom v next W (hv.below gridR_stable h) (by omega))
  have HI1 := Lib.hid (nI_i64 (l := d.reverse) (n := next.length) (by omega) (fun x hx => T.lt x (by simpa using hx)))
  have HL1 := Lib.hid (show d.length = (nI d.reverse).length by rw [nI_len, List.length_reverse])
  rw [← hbest] at H4
  have HNl := Lib.hid hn
  obtain ⟨ad, cap, rfl⟩ := row_get hv
  clear hv hf hn hl T hK hM hS hbest hd1
  go_enter Try.func3, Try.ntmps3
  go_wp2_with fail
  refine HF.out.mono ?_; rintro r w2 ⟨rfl, rfl⟩
  go_wp2_with fail
  refine (H1.out _ (Below.refl _ _)).mono ?_; rintro r w2 ⟨u1, rfl, hO1, hb1⟩
  have HR1 := Lib.hid (row_of_owns (own_owns hO1 HL1.out rfl) HI1.out)
  obtain ⟨a1, c1, rfl⟩ := owns_form hO1
  have HB1 := Lib.hid hb1
  clear hO1 hb1
  go_wp2_with fail
  refine (H2.out _ HB1.out).mono ?_; rintro r w3 ⟨u2, rfl, hO2, hb2⟩
  have HR2 := Lib.hid (row_of_owns (own_owns hO2 HL1.out rfl) HI1.out)
  have HR1 := Lib.hid (HR1.out.below intR_stable hb2)
  obtain ⟨a2, c2, rfl⟩ := owns_form hO2
  have HB2 := Lib.hid (HB1.out.trans (hb2.mono HB1.out.size))
  have HIn := Lib.hid (ref15_Ints _ _ (nI d.reverse) (nI d.reverse) w3 HR1.out HR2.out)
  rw [eqI_self] at HIn
  clear hO2 hb2
  go_wp2_with fail
  refine HIn.out.mono ?_; rintro r w4 ⟨rfl, q, rfl⟩
  have HB3 := Lib.hid (show Below w.heap.size w (w3.drewN q) from HB2.out.trans (Below_drewN _ _ _))
  go_wp2_with fail
  refine (H3.out _ HB3.out).mono ?_; rintro r w5 ⟨u3, rfl, hO3, hb3, hF3, hL3⟩
  have hI64 := fine_i64 hF3 hL3 (by have := HNl.out; omega)
  have HI3 := Lib.hid hI64
  have HR3 := Lib.hid (row_of_owns (own_owns hO3 hL3.symm rfl) hI64)
  have HL3 := Lib.hid hL3
  obtain ⟨a3, c3, rfl⟩ := owns_form hO3
  have HB4 := Lib.hid (HB3.out.trans (hb3.mono HB3.out.size))
  clear hO3 hb3 hF3 hL3 hI64
  go_wp2_with fail
  refine (H4.out _ HB4.out).mono ?_; rintro r w6 ⟨u4, rfl, hO4, hb4⟩
  have HR4 := Lib.hid (row_of_owns (own_owns hO4 HL3.out.symm rfl) HI3.out)
  have HR3 := Lib.hid (HR3.out.below intR_stable hb4)
  obtain ⟨a4, c4, rfl⟩ := owns_form hO4
  have HB5 := Lib.hid (HB4.out.trans (hb4.mono HB4.out.size))
  have HIn2 := Lib.hid (ref15_Ints _ _ DF DF w6 HR3.out HR4.out)
  rw [eqI_self] at HIn2
  clear hO4 hb4
  go_wp2_with fail
  refine HIn2.out.mono ?_; rintro r w7 ⟨rfl, q2, rfl⟩
  have HB6 := Lib.hid (show Below w.heap.size w (w6.drewN q2) from HB5.out.trans (Below_drewN _ _ _))
  go_wp2_with fail
  refine (HA0.out _).mono ?_; rintro r w8 ⟨rfl, hb⟩
  have HB7 := Lib.hid (HB6.out.trans (hb.mono HB6.out.size))
  clear hb
  go_wp2_with fail
  go_ret
  exact ⟨rfl, HB7.out⟩
end Go.Proofs.Ytemihfcenmhieaa
