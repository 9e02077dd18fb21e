/- Layer 13: the law CodeEncodes' walk. -/
import Derived.Test.YtaeaiaamhgcmbaaDoorCodeText
import Derived.Test.YtaeaiaamhgcmbaaDoorLawThirteen
namespace Go.Proofs.YtaeaiaamhgcmbaaDoor
open Go.RowKit
set_option linter.unusedSimpArgs false
set_option linter.unusedVariables false
set_option maxHeartbeats 4000000 in
theorem codeEncodes_walk (v : Value) (L : List Ins) (w : World) (hT : OTab w) (hv : RowR 3 insR w v L) :
    Calls Tryd.prog 3 #[v] w fun e w' => e = .returned (.bool true) ∧ Below w.heap.size w w' := by
  obtain ⟨sa, cap, rfl⟩ := ins_get hv
  by_cases hl : 200 < L.length
  · have q1 : (200 < (L.length : Int)) = True := eq_true (by omega)
    go_enter Tryd.func3, Tryd.ntmps3
    go_wp2_with fail
    refine (law13_awake _ hT.st).mono ?_; rintro e w1 ⟨rfl, hb⟩
    go_wp2_with fail
    go_ret
    exact ⟨rfl, hb⟩
  have q1 : (200 < (L.length : Int)) = False := eq_false (by omega)
  have hn : L.length ≤ 200 := by omega
  clear hl
  have hE1 := fun W (h : Below w.heap.size w W) => code_Encode _ L W (hT.st.below h) (hv.below insR_stable h) (by omega)
  have hE2 := fun W (h : Below w.heap.size w W) => ref13_Encode _ L W (hv.below insR_stable h) (by omega)
  have hT1 := fun W (h : Below w.heap.size w W) => code_Text _ L W (hT.below h) (hv.below insR_stable h) (by omega)
  have hT2 := fun W (h : Below w.heap.size w W) => ref13_Text _ L W (hv.below insR_stable h) (by omega)
  have hA := fun W (h : Below w.heap.size w W) => law13_awake W (hT.st.below h)
  generalize txt L L.length = tt at *
  generalize encO L = B at *
  generalize L.all rI = ok at *
  go_enter Tryd.func3, Tryd.ntmps3
  go_wp2_with fail
  refine (hE1 _ (Below.refl _ _)).mono ?_; rintro e V1 ⟨r1, rfl, hr1, hb1⟩
  go_wp2_with fail
  refine (hE2 _ hb1).mono ?_; rintro e V2 ⟨r2, rfl, hr2, hb2⟩
  have hA2 := hb1.trans (hb2.mono hb1.size)
  have hr1 := hr1.below hb2
  have cv1 := conv_row (P := Tryd.prog) (src := 24) (dst := 9) (e := 5) Tryd.underlying24 Tryd.underlying5 Tryd.underlying9 hr1
  have cv2 := conv_row (P := Tryd.prog) (src := 24) (dst := 9) (e := 5) Tryd.underlying24 Tryd.underlying5 Tryd.underlying9 hr2
  clear hr1 hr2
  go_wp2_with fail
  refine (hT1 _ hA2).mono ?_; rintro e V3 ⟨rfl, hb3⟩
  have hA3 := hA2.trans (hb3.mono hA2.size)
  go_wp2_with fail
  refine (hT2 _ hA3).mono ?_; rintro e V4 ⟨rfl, hb4⟩
  have hA4 := hA3.trans (hb4.mono hA3.size)
  go_wp2_with fail
  refine (hA _ hA4).mono ?_; rintro e V5 ⟨rfl, hb5⟩
  have hA5 := hA4.trans (hb5.mono hA4.size)
  go_wp2_with fail
  go_ret
  exact ⟨rfl, hA5⟩
end Go.Proofs.YtaeaiaamhgcmbaaDoor
