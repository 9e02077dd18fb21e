/- Layer 6: the walk of BitsJoin. -/
import Derived.Test.YtochjlllfbmhpaaDoorLawBitA
import Derived.Test.YtochjlllfbmhpaaDoorBitJ5
namespace Go.Proofs.YtochjlllfbmhpaaDoor
open Go.RowKit
set_option linter.unusedSimpArgs false
set_option linter.unusedVariables false
theorem andB_get (x y : List Bool) (i : Nat) : (andB x y).getD i false = (x.getD i false && y.getD i false) := by
  unfold andB
  rw [mapB_get]
  by_cases h : i < min x.length y.length
  · simp [h]
  · rw [decide_eq_false h]
    by_cases hx : i < x.length
    · rw [getD_ge (x := y) (by omega)]; simp
    · rw [getD_ge (x := x) (by omega)]; simp
theorem orB_get (x y : List Bool) (i : Nat) : (orB x y).getD i false = (x.getD i false || y.getD i false) := by
  unfold orB
  rw [mapB_get]
  by_cases h : i < max x.length y.length
  · simp [h]
  · rw [decide_eq_false h, getD_ge (x := y) (by omega), getD_ge (x := x) (by omega)]; simp
theorem andB_len (x y : List Bool) : (andB x y).length = min x.length y.length := by simp [andB]
theorem orB_len (x y : List Bool) : (orB x y).length = max x.length y.length := by simp [orB]
theorem andB_comm (x y : List Bool) : andB y x = andB x y := list_ext (by rw [andB_len, andB_len]; omega) fun i => by rw [andB_get, andB_get, Bool.and_comm]
theorem orB_comm (x y : List Bool) : orB y x = orB x y := list_ext (by rw [orB_len, orB_len]; omega) fun i => by rw [orB_get, orB_get, Bool.or_comm]
theorem join_count (x y : List Bool) : (lst (andB x y)).length + (lst (orB x y)).length = (lst x).length + (lst y).length := by
  have h : ∀ N, (lstN (andB x y) N).length + (lstN (orB x y) N).length = (lstN x N).length + (lstN y N).length := by
    intro N
    induction N with
    | zero => rfl
    | succ N ih =>
      rw [lstN_succ, lstN_succ, lstN_succ, lstN_succ, andB_get, orB_get, List.length_append, List.length_append, List.length_append, List.length_append]
      cases x.getD N false <;> cases y.getD N false <;> simp <;> omega
  have e := h (max x.length y.length)
  rw [lstN_far _ (by rw [andB_len]; omega), lstN_far _ (by rw [orB_len]; omega), lstN_far x (by omega), lstN_far y (by omega)] at e
  exact e
theorem same_form (v u : Value) (x y : List Bool) (w : World) (hx : SetR w v x) (hy : SetR w u y) (b : Bool) (hb : decide (x = y) = b) : Calls Tryd.prog 18 #[v, u] w fun e w' => e = .returned (.bool b) ∧ Below w.heap.size w w' := by
  subst hb; exact bits_Same v u x y w hx hy
set_option maxHeartbeats 4000000 in
theorem bitsJoin_walk (r0 r1 : Int) (va vb : Value) (l1 l2 : List Int) (w : World) (hva : RowR 1 intR w va l1) (hvb : RowR 1 intR w vb l2) (hT : DB w) : Calls Tryd.prog 4 #[.agg #[.int .i64 r0, .int .i64 r1], va, vb] w fun e w' => e = .returned (.bool true) ∧ Below w.heap.size w w' := by
  have HA0 := Lib.hid (fun W (h : Below w.heap.size w W) => law06_awake W (hT.below h))
  have HT := Lib.hid hT
  have hl1 := hva.len
  have hl2 := hvb.len
  obtain ⟨sv1, cv1, rfl⟩ := row_get hva
  obtain ⟨sv2, cv2, rfl⟩ := row_get hvb
  obtain ⟨N1, hN1⟩ : ∃ N, l1.length = N := ⟨_, rfl⟩
  obtain ⟨N2, hN2⟩ : ∃ N, l2.length = N := ⟨_, rfl⟩
  rw [hN1] at hva hl1 ⊢
  rw [hN2] at hvb hl2 ⊢
  have HV1 := Lib.hid hva
  have HV2 := Lib.hid hvb
  clear hva hvb hT hN1 hN2
  by_cases h1 : 500 < r0
  · have p1 : (500 < r0) = True := eq_true h1

    clear h1
    go_enter Tryd.func4, Tryd.ntmps4
    go_wp2_with fail
    refine (HA0.out _ (by (repeat' (first | (with_reducible exact Below.refl _ _) | (with_reducible assumption) | (with_reducible refine below_drewN ?_ _) | (with_reducible refine Below.alloc ?_ ?_ _) | (with_reducible refine Below.drew ?_) | (with_reducible refine Below.setCell ?_ ?_ _) | go_size)))).mono ?_; rintro e w2 ⟨rfl, hb⟩
    go_wp2_with fail
    go_ret
    exact ⟨rfl, Below.trans (by (repeat' (first | (with_reducible exact Below.refl _ _) | (with_reducible assumption) | (with_reducible refine below_drewN ?_ _) | (with_reducible refine Below.alloc ?_ ?_ _) | (with_reducible refine Below.drew ?_) | (with_reducible refine Below.setCell ?_ ?_ _) | go_size))) (hb.mono (by simp))⟩
  have p1 : (500 < r0) = False := eq_false h1
  by_cases h2 : 500 < r1
  · have p2 : (500 < r1) = True := eq_true h2

    clear h1 h2
    go_enter Tryd.func4, Tryd.ntmps4
    go_wp2_with fail
    refine (HA0.out _ (by (repeat' (first | (with_reducible exact Below.refl _ _) | (with_reducible assumption) | (with_reducible refine below_drewN ?_ _) | (with_reducible refine Below.alloc ?_ ?_ _) | (with_reducible refine Below.drew ?_) | (with_reducible refine Below.setCell ?_ ?_ _) | go_size)))).mono ?_; rintro e w2 ⟨rfl, hb⟩
    go_wp2_with fail
    go_ret
    exact ⟨rfl, Below.trans (by (repeat' (first | (with_reducible exact Below.refl _ _) | (with_reducible assumption) | (with_reducible refine below_drewN ?_ _) | (with_reducible refine Below.alloc ?_ ?_ _) | (with_reducible refine Below.drew ?_) | (with_reducible refine Below.setCell ?_ ?_ _) | go_size))) (hb.mono (by simp))⟩
  have p2 : (500 < r1) = False := eq_false h2
  by_cases h3 : 60 < N1
  · have p3 : (60 < (N1 : Int)) = True := eq_true (by omega)
    have p3' : (60 < N1) = True := eq_true h3

    clear h1 h2 h3
    go_enter Tryd.func4, Tryd.ntmps4
    go_wp2_with fail
    refine (HA0.out _ (by (repeat' (first | (with_reducible exact Below.refl _ _) | (with_reducible assumption) | (with_reducible refine below_drewN ?_ _) | (with_reducible refine Below.alloc ?_ ?_ _) | (with_reducible refine Below.drew ?_) | (with_reducible refine Below.setCell ?_ ?_ _) | go_size)))).mono ?_; rintro e w2 ⟨rfl, hb⟩
    go_wp2_with fail
    go_ret
    exact ⟨rfl, Below.trans (by (repeat' (first | (with_reducible exact Below.refl _ _) | (with_reducible assumption) | (with_reducible refine below_drewN ?_ _) | (with_reducible refine Below.alloc ?_ ?_ _) | (with_reducible refine Below.drew ?_) | (with_reducible refine Below.setCell ?_ ?_ _) | go_size))) (hb.mono (by simp))⟩
  have p3 : (60 < (N1 : Int)) = False := eq_false (by omega)
  have p3' : (60 < N1) = False := eq_false h3
  by_cases h4 : 60 < N2
  · have p4 : (60 < (N2 : Int)) = True := eq_true (by omega)
    have p4' : (60 < N2) = True := eq_true h4

    clear h1 h2 h3 h4
    go_enter Tryd.func4, Tryd.ntmps4
    go_wp2_with fail
    refine (HA0.out _ (by (repeat' (first | (with_reducible exact Below.refl _ _) | (with_reducible assumption) | (with_reducible refine below_drewN ?_ _) | (with_reducible refine Below.alloc ?_ ?_ _) | (with_reducible refine Below.drew ?_) | (with_reducible refine Below.setCell ?_ ?_ _) | go_size)))).mono ?_; rintro e w2 ⟨rfl, hb⟩
    go_wp2_with fail
    go_ret
    exact ⟨rfl, Below.trans (by (repeat' (first | (with_reducible exact Below.refl _ _) | (with_reducible assumption) | (with_reducible refine below_drewN ?_ _) | (with_reducible refine Below.alloc ?_ ?_ _) | (with_reducible refine Below.drew ?_) | (with_reducible refine Below.setCell ?_ ?_ _) | go_size))) (hb.mono (by simp))⟩
  have p4 : (60 < (N2 : Int)) = False := eq_false (by omega)
  have p4' : (60 < N2) = False := eq_false h4
  obtain ⟨n, hn⟩ : ∃ n, clampR r0 = n := ⟨_, rfl⟩
  obtain ⟨n2, hn2⟩ : ∃ n, clampR r1 = n := ⟨_, rfl⟩
  have hn65 : n ≤ 65536 := by rw [← hn]; exact clampR_le r0
  have hn265 : n2 ≤ 65536 := by rw [← hn2]; exact clampR_le r1
  have HOa := Lib.hid (fun W (h : Below w.heap.size w W) => of_form r0 (.slice sv1 N1 cv1) l1 n hn W (HV1.out.below intR_stable h))
  have HOb := Lib.hid (fun W (h : Below w.heap.size w W) => of_form r1 (.slice sv2 N2 cv2) l2 n2 hn2 W (HV2.out.below intR_stable h))
  have HSLa := Lib.hid (show (setOf r0 l1).length = n by rw [setOf_len, hn])
  have HSLb := Lib.hid (show (setOf r1 l2).length = n2 by rw [setOf_len, hn2])
  clear h1 h2 h3 h4 hn hn2 HV1 HV2
  obtain ⟨W0, hW0⟩ : ∃ W0, W0 = w.alloc (.cells #[.int .i64 r0, .int .i64 r1] 37) := ⟨_, rfl⟩
  have B0 := Lib.hid (show Below w.heap.size w W0 from by rw [hW0]; exact by (repeat' (first | (with_reducible exact Below.refl _ _) | (with_reducible assumption) | (with_reducible refine below_drewN ?_ _) | (with_reducible refine Below.alloc ?_ ?_ _) | (with_reducible refine Below.drew ?_) | (with_reducible refine Below.setCell ?_ ?_ _) | go_size)))
  have o0 : W0.heap[w.heap.size]? = some (.cells #[.int .i64 r0, .int .i64 r1] 37) := by rw [hW0]; exact get_last rfl
  have O0 := Lib.hid o0
  have H0 := Lib.hid hW0
  clear o0 hW0
  go_enter Tryd.func4, Tryd.ntmps4
  go_wp2_with fail
  rw [← H0.out]
  refine (HOa.out _ B0.out).mono ?_; rintro e W1 ⟨a, q, c, a8, c8, rfl, hS, hX, hb1⟩
  generalize setOf r0 l1 = x at *
  have o1 := obj_below O0.out hb1 (heap_lt O0.out)
  have k01 : W1.cell? ⟨w.heap.size, 1, none⟩ = some (.int .i64 r1) := obj_cell o1 (i := 1) rfl
  have cp := @cell_past
  have z0 := heap_lt o1
  have HB1 := Lib.hid (B0.out.trans (hb1.mono B0.out.size))
  have HS1 := Lib.hid hS
  have HX1 := Lib.hid hX
  clear hS hX hb1 o1
  go_wp2_with fail
  obtain ⟨W2, hW2⟩ : ∃ W2, W2 = W1.alloc (.cells #[.int .i64 n, .slice a q c] 26) := ⟨_, rfl⟩
  have hb12 : Below W1.heap.size W1 W2 := by rw [hW2]; exact by (repeat' (first | (with_reducible exact Below.refl _ _) | (with_reducible assumption) | (with_reducible refine below_drewN ?_ _) | (with_reducible refine Below.alloc ?_ ?_ _) | (with_reducible refine Below.drew ?_) | (with_reducible refine Below.setCell ?_ ?_ _) | go_size))
  have h7 : W2.heap[W1.heap.size]? = some (.cells #[.int .i64 n, .slice a q c] 26) := by rw [hW2]; exact get_last rfl
  rw [← hW2]
  have HB2 := Lib.hid (HB1.out.trans (hb12.mono HB1.out.size))
  refine (HOb.out _ HB2.out).mono ?_; rintro e W3 ⟨a2, q2, c2, a10, c10, rfl, hS3, hX3, hb3⟩
  generalize setOf r1 l2 = y at *
  have hS1 := (HS1.out.below hb12).below hb3
  have hX1 := (HX1.out.below boolR_stable hb12).below boolR_stable hb3
  obtain ⟨P7, hP7⟩ : ∃ P7, W1.heap.size = P7 := ⟨_, rfl⟩
  rw [hP7] at h7
  have h73 := obj_below h7 hb3 (heap_lt h7)
  have HB3 := Lib.hid (HB2.out.trans (hb3.mono HB2.out.size))
  have z73 := heap_lt h73
  clear hW2 hb12 h7 hb3 k01 cp z0
  have HP := Lib.hid hP7
  have HH := Lib.hid (And.intro h73 (And.intro hS1 (And.intro hX1 (And.intro hS3 hX3))))
  clear h73 hS1 hX1 hS3 hX3 HS1 HX1 hP7 z73
  go_wp2_with fail
  rw [HP.out]
  obtain ⟨WB, hWB⟩ : ∃ WB, WB = W3.alloc (.cells #[.int .i64 n2, .slice a2 q2 c2] 26) := ⟨_, rfl⟩
  have hb3B : Below W3.heap.size W3 WB := by rw [hWB]; exact by (repeat' (first | (with_reducible exact Below.refl _ _) | (with_reducible assumption) | (with_reducible refine below_drewN ?_ _) | (with_reducible refine Below.alloc ?_ ?_ _) | (with_reducible refine Below.drew ?_) | (with_reducible refine Below.setCell ?_ ?_ _) | go_size))
  obtain ⟨h73, hS1, hX1, hS3, hX3⟩ := HH.out
  have h7 := obj_below h73 hb3B (heap_lt h73)
  have h9 : WB.heap[W3.heap.size]? = some (.cells #[.int .i64 n2, .slice a2 q2 c2] 26) := by rw [hWB]; exact get_last rfl
  have hSx := hS1.below hb3B
  have hXx := hX1.below boolR_stable hb3B
  have hSy := hS3.below hb3B
  have hXy := hX3.below boolR_stable hb3B
  have HBB := Lib.hid (HB3.out.trans (hb3B.mono HB3.out.size))
  obtain ⟨P9, hP9⟩ : ∃ P9, W3.heap.size = P9 := ⟨_, rfl⟩
  rw [← hWB, hP9]
  rw [hP9] at h9
  obtain ⟨nA, hnA⟩ : ∃ nA, (andB x y).length = nA := ⟨_, rfl⟩
  obtain ⟨nO, hnO⟩ : ∃ nO, (orB x y).length = nO := ⟨_, rfl⟩
  have hR := join_r5 WB P7 P9 n n2 nA nO a a2 q c q2 c2 x y (heap_lt h7) (heap_lt h9) (obj_cell h7 (i := 0) rfl) (obj_cell h7 (i := 1) rfl) (obj_cell h9 (i := 0) rfl) (obj_cell h9 (i := 1) rfl) (Lib.hid hSx) (Lib.hid hSy) (Lib.hid hnA) (Lib.hid hnO)
  refine Code.wp_mono ?_ (hR _ _ _ _ _ _ _ _ _ _ _ _ _ _ _ _ _ _ _ _ _ _ _ _ _ _ _ _ _ _ _ _ _ _ _ _ _ _ _ _ _ _ _ _ _ _ _ _ _ _ _ _ _ _ _ _ _ _ _ _ _ _ _ _ _ _ _ _ _ _ _ _ _ _ _ _ _ _ _ _ _ _ _ _ _ _ _ _ _ _ _ _ _ _ _ _ _ _ _ _ _ _ _ _ _ _)
  rintro e bb WC ⟨rfl, u46, u47, u48, u49, u50, u51, u11, u12, rfl, hBC, ⟨pA, gA, mA, rfl, hpA, hA, hSA⟩, ⟨pO, gO, mO, rfl, hpO, hO, hSO⟩⟩
  have h7 := obj_below h7 hBC (heap_lt h7)
  have h9 := obj_below h9 hBC (heap_lt h9)
  have HBW := Lib.hid (HBB.out.trans (hBC.mono HBB.out.size))
  have hT := HT.out.below HBW.out
  have hSx := hSx.below hBC
  have hSy := hSy.below hBC
  have hXx := hXx.below boolR_stable hBC
  have hXy := hXy.below boolR_stable hBC
  have c70 : WC.cell? ⟨P7, 0, none⟩ = some (.int .i64 n) := obj_cell h7 (i := 0) rfl
  have c71 : WC.cell? ⟨P7, 1, none⟩ = some (.slice a q c) := obj_cell h7 (i := 1) rfl
  have c90 : WC.cell? ⟨P9, 0, none⟩ = some (.int .i64 n2) := obj_cell h9 (i := 0) rfl
  have c91 : WC.cell? ⟨P9, 1, none⟩ = some (.slice a2 q2 c2) := obj_cell h9 (i := 1) rfl
  have cA0 : WC.cell? ⟨pA, 0, none⟩ = some (.int .i64 nA) := obj_cell hA (i := 0) rfl
  have cA1 : WC.cell? ⟨pA, 1, none⟩ = some (.slice (some ⟨gA, 0, none⟩) mA mA) := obj_cell hA (i := 1) rfl
  have cO0 : WC.cell? ⟨pO, 0, none⟩ = some (.int .i64 nO) := obj_cell hO (i := 0) rfl
  have cO1 : WC.cell? ⟨pO, 1, none⟩ = some (.slice (some ⟨gO, 0, none⟩) mO mO) := obj_cell hO (i := 1) rfl
  have z7 := heap_lt h7
  have z9 := heap_lt h9
  have zA := heap_lt hA
  have zO := heap_lt hO
  have HRA := Lib.hid (fun W (h : Below WC.heap.size WC W) => ref06_And _ _ x y W (hXx.below boolR_stable h) (hXy.below boolR_stable h) (by rw [HSLa.out]; exact hn65) (by rw [HSLb.out]; exact hn265))
  have HRO := Lib.hid (fun W (h : Below WC.heap.size WC W) => ref06_Or _ _ x y W (hXx.below boolR_stable h) (hXy.below boolR_stable h) (by rw [HSLa.out]; exact hn65) (by rw [HSLb.out]; exact hn265))
  have HLA := Lib.hid (fun W u (h : Below WC.heap.size WC W) (hu : RowR 1 boolR W u (andB x y)) => law06_like _ u (andB x y) W (hSA.below h) hu (hT.below h))
  have HLO := Lib.hid (fun W u (h : Below WC.heap.size WC W) (hu : RowR 1 boolR W u (orB x y)) => law06_like _ u (orB x y) W (hSO.below h) hu (hT.below h))
  obtain ⟨bs, hbs⟩ : ∃ bs, decide (x = y) = bs := ⟨_, rfl⟩
  have HSM := Lib.hid (fun W (h : Below WC.heap.size WC W) => same_form _ _ x y W (hSx.below h) (hSy.below h) bs hbs)
  have HSR := Lib.hid (fun W (h : Below WC.heap.size WC W) => (ref06_Same _ _ x y W (hXx.below boolR_stable h) (hXy.below boolR_stable h)).mono (fun e w' (h : e = _ ∧ ∃ m, w' = _) => (by obtain ⟨h1, m, h2⟩ := h; rw [hbs] at h1; exact ⟨h1, h2 ▸ Below_drewN _ _ _⟩ : e = .returned (.bool bs) ∧ Below W.heap.size W w')))
  have HTA := Lib.hid (fun W (h : Below WC.heap.size WC W) => (bits_And _ _ y x W (hSy.below h) (hSx.below h)))
  have HTO := Lib.hid (fun W (h : Below WC.heap.size WC W) => (bits_Or _ _ y x W (hSy.below h) (hSx.below h)))
  rw [andB_comm, hnA] at HTA
  rw [orB_comm, hnO] at HTO
  have HSA := Lib.hid (fun W u (h : Below WC.heap.size WC W) (hu : SetR W u (andB x y)) => same_form _ u (andB x y) (andB x y) W (hSA.below h) hu true (by simp))
  have HSO := Lib.hid (fun W u (h : Below WC.heap.size WC W) (hu : SetR W u (orB x y)) => same_form _ u (orB x y) (orB x y) W (hSO.below h) hu true (by simp))
  obtain ⟨kA, hkA⟩ : ∃ k, (lst (andB x y)).length = k := ⟨_, rfl⟩
  obtain ⟨kO, hkO⟩ : ∃ k, (lst (orB x y)).length = k := ⟨_, rfl⟩
  obtain ⟨kX, hkX⟩ : ∃ k, (lst x).length = k := ⟨_, rfl⟩
  obtain ⟨kY, hkY⟩ : ∃ k, (lst y).length = k := ⟨_, rfl⟩
  have HCA := Lib.hid (fun W (h : Below WC.heap.size WC W) => bits_Count _ _ W (hSA.below h))
  have HCO := Lib.hid (fun W (h : Below WC.heap.size WC W) => bits_Count _ _ W (hSO.below h))
  have HCX := Lib.hid (fun W (h : Below WC.heap.size WC W) => bits_Count _ _ W (hSx.below h))
  have HCY := Lib.hid (fun W (h : Below WC.heap.size WC W) => bits_Count _ _ W (hSy.below h))
  have hsum := join_count x y
  rw [hkA] at HCA hsum
  rw [hkO] at HCO hsum
  rw [hkX] at HCX hsum
  rw [hkY] at HCY hsum
  have bX : kX ≤ 65536 := by rw [← hkX]; exact Nat.le_trans (lstN_le _ _) (by rw [HSLa.out]; exact hn65)
  have bY : kY ≤ 65536 := by rw [← hkY]; exact Nat.le_trans (lstN_le _ _) (by rw [HSLb.out]; exact hn265)
  have hsum' : ((kA : Int) + (kO : Int)) = (kX : Int) + (kY : Int) := by omega
  have hse : ((kX : Int) + (kY : Int) == (kX : Int) + (kY : Int)) = true := by simp
  have bA : kA ≤ 140000 := by omega
  have bO : kO ≤ 140000 := by omega
  have hbb : (bs == bs) = true := by simp
  have HLX := Lib.hid (fun W (h : Below WC.heap.size WC W) => law06_like _ _ x W (hSx.below h) (hXx.below boolR_stable h) (hT.below h))
  have HAW := Lib.hid (fun W (h : Below WC.heap.size WC W) => HA0.out W (HBW.out.trans (h.mono HBW.out.size)))
  clear h7 h9 hT hSx hSy hXx hXy hSA hSO hA hO hpA hpO hBC hR hS1 hX1 hS3 hX3 h73 hb3B hWB HH HOa HOb hbs hnA hnO hkA hkO hkX hkY hsum hP9
  go_wp2_with fail
  refine wp_region_held_drew (S := (fun w' => Below WC.heap.size WC w')) (by kernel_rfl) ?_ (fun hHeld => ?_)
  · (try dsimp only); first | assumption | exact Below.alloc hHeld hHeld.size _ | exact (Below.refl _ _).drew | exact Below.drew (Below.refl _ _) | exact Below_drewN _ _ _ | exact Below.refl _ _ | (trace_state; fail)
  refine wpAnyH_take (i := 0) (oi := { dst := some 52, op := Op.load 26 (Operand.tmp 11), type := 26, pos := _, after := #[], guard := none }) (v := ?_) rfl (by kernel_rfl) (by kernel_rfl) (by kernel_rfl) (fun _ _ _ h => h) (Or.inl ⟨by rfl, ?_⟩) (by assumption) ?_
  rotate_left
  · intro wt hSw; (try dsimp only at hSw); have c70 := cellB hSw c70 z7; have c71 := cellB hSw c71 z7; have c90 := cellB hSw c90 z9; have c91 := cellB hSw c91 z9; have cA0 := cellB hSw cA0 zA; have cA1 := cellB hSw cA1 zA; have cO0 := cellB hSw cO0 zO; have cO1 := cellB hSw cO1 zO; first | (go_simp; done) | (go_simp; with_reducible rfl) | (trace_state; fail)
  try simp only [Act.put, List.setIfInBounds_toArray, List.set_cons_zero, List.set_cons_succ]
  refine wpAnyH_take (i := 1) (oi := { dst := some 53, op := Op.move (Operand.tmp 8), type := 27, pos := _, after := #[], guard := none }) (v := ?_) rfl (by kernel_rfl) (by kernel_rfl) (by kernel_rfl) (fun _ _ _ h => h) (Or.inl ⟨by rfl, ?_⟩) (by assumption) ?_
  rotate_left
  · intro wt hSw; (try dsimp only at hSw); have c70 := cellB hSw c70 z7; have c71 := cellB hSw c71 z7; have c90 := cellB hSw c90 z9; have c91 := cellB hSw c91 z9; have cA0 := cellB hSw cA0 zA; have cA1 := cellB hSw cA1 zA; have cO0 := cellB hSw cO0 zO; have cO1 := cellB hSw cO1 zO; first | (go_simp; done) | (go_simp; with_reducible rfl) | (trace_state; fail)
  try simp only [Act.put, List.setIfInBounds_toArray, List.set_cons_zero, List.set_cons_succ]
  refine wpAnyH_take (i := 2) (oi := { dst := some 54, op := Op.move (Operand.tmp 10), type := 27, pos := _, after := #[], guard := none }) (v := ?_) rfl (by kernel_rfl) (by kernel_rfl) (by kernel_rfl) (fun _ _ _ h => h) (Or.inl ⟨by rfl, ?_⟩) (by assumption) ?_
  rotate_left
  · intro wt hSw; (try dsimp only at hSw); have c70 := cellB hSw c70 z7; have c71 := cellB hSw c71 z7; have c90 := cellB hSw c90 z9; have c91 := cellB hSw c91 z9; have cA0 := cellB hSw cA0 zA; have cA1 := cellB hSw cA1 zA; have cO0 := cellB hSw cO0 zO; have cO1 := cellB hSw cO1 zO; first | (go_simp; done) | (go_simp; with_reducible rfl) | (trace_state; fail)
  try simp only [Act.put, List.setIfInBounds_toArray, List.set_cons_zero, List.set_cons_succ]
  refine wpAnyH_ready (rs := [3]) (by kernel_rfl) (by simp) ?_
  refine AllReadyH.cons (o := { dst := some 55, op := Op.call { callee := Callee.value (Operand.func 16), args := #[Operand.tmp 53, Operand.tmp 54], argTypes := #[27, 27] }, type := 27, pos := _, after := #[{ on := 1, ground := Ground.data }, { on := 2, ground := Ground.data }], guard := none }) rfl (fun K hK => ?_) AllReadyH.nil
  go_simp
  refine (HRA.out _ hHeld).mono ?_; rintro e w3 ⟨r3, rfl, hr3, hb⟩; have hr3' := hr3; have hHeld := hHeld.trans (hb.mono hHeld.size)
  go_wp2_with fail
  refine hK.out _ _ ?_ (fun hHeld => ?_)
  · (try dsimp only); first | assumption | exact Below.alloc hHeld hHeld.size _ | exact (Below.refl _ _).drew | exact Below.drew (Below.refl _ _) | exact Below_drewN _ _ _ | exact Below.refl _ _ | (trace_state; fail)
  clear hK K
  try simp only [Act.put, List.setIfInBounds_toArray, List.set_cons_zero, List.set_cons_succ]
  refine wpAnyH_ready (rs := [4]) (by kernel_rfl) (by simp) ?_
  refine AllReadyH.cons (o := { dst := some 56, op := Op.call { callee := Callee.value (Operand.func 8), args := #[Operand.tmp 52, Operand.tmp 55], argTypes := #[26, 27] }, type := 4, pos := _, after := #[{ on := 0, ground := Ground.data }, { on := 3, ground := Ground.data }, { on := 3, ground := Ground.chain }], guard := none }) rfl (fun K hK => ?_) AllReadyH.nil
  go_simp
  refine (HLA.out _ _ hHeld hr3).mono ?_; rintro e w4 ⟨rfl, hb⟩; have hHeld := hHeld.trans (hb.mono hHeld.size)
  go_wp2_with fail
  refine hK.out _ _ ?_ (fun hHeld => ?_)
  · (try dsimp only); first | assumption | exact Below.alloc hHeld hHeld.size _ | exact (Below.refl _ _).drew | exact Below.drew (Below.refl _ _) | exact Below_drewN _ _ _ | exact Below.refl _ _ | (trace_state; fail)
  clear hK K
  try simp only [Act.put, List.setIfInBounds_toArray, List.set_cons_zero, List.set_cons_succ]
  refine wpAnyH_take (i := 5) (oi := { dst := some 57, op := Op.move (Operand.tmp 56), type := 4, pos := _, after := #[{ on := 4, ground := Ground.data }, { on := 4, ground := Ground.chain }], guard := none }) (v := ?_) rfl (by kernel_rfl) (by kernel_rfl) (by kernel_rfl) (fun _ _ _ h => h) (Or.inl ⟨by rfl, ?_⟩) (by assumption) ?_
  rotate_left
  · intro wt hSw; (try dsimp only at hSw); have c70 := cellB hSw c70 z7; have c71 := cellB hSw c71 z7; have c90 := cellB hSw c90 z9; have c91 := cellB hSw c91 z9; have cA0 := cellB hSw cA0 zA; have cA1 := cellB hSw cA1 zA; have cO0 := cellB hSw cO0 zO; have cO1 := cellB hSw cO1 zO; first | (go_simp; done) | (go_simp; with_reducible rfl) | (trace_state; fail)
  try simp only [Act.put, List.setIfInBounds_toArray, List.set_cons_zero, List.set_cons_succ]
  refine wpAnyH_take (i := 6) (oi := { dst := some 58, op := Op.load 26 (Operand.tmp 12), type := 26, pos := _, after := #[{ on := 5, ground := Ground.guard }], guard := some (5, true) }) (v := ?_) rfl (by kernel_rfl) (by kernel_rfl) (by kernel_rfl) (fun _ _ _ h => h) (Or.inl ⟨by rfl, ?_⟩) (by assumption) ?_
  rotate_left
  · intro wt hSw; (try dsimp only at hSw); have c70 := cellB hSw c70 z7; have c71 := cellB hSw c71 z7; have c90 := cellB hSw c90 z9; have c91 := cellB hSw c91 z9; have cA0 := cellB hSw cA0 zA; have cA1 := cellB hSw cA1 zA; have cO0 := cellB hSw cO0 zO; have cO1 := cellB hSw cO1 zO; first | (go_simp; done) | (go_simp; with_reducible rfl) | (trace_state; fail)
  try simp only [Act.put, List.setIfInBounds_toArray, List.set_cons_zero, List.set_cons_succ]
  refine wpAnyH_take (i := 7) (oi := { dst := some 59, op := Op.move (Operand.tmp 8), type := 27, pos := _, after := #[{ on := 5, ground := Ground.guard }], guard := some (5, true) }) (v := ?_) rfl (by kernel_rfl) (by kernel_rfl) (by kernel_rfl) (fun _ _ _ h => h) (Or.inl ⟨by rfl, ?_⟩) (by assumption) ?_
  rotate_left
  · intro wt hSw; (try dsimp only at hSw); have c70 := cellB hSw c70 z7; have c71 := cellB hSw c71 z7; have c90 := cellB hSw c90 z9; have c91 := cellB hSw c91 z9; have cA0 := cellB hSw cA0 zA; have cA1 := cellB hSw cA1 zA; have cO0 := cellB hSw cO0 zO; have cO1 := cellB hSw cO1 zO; first | (go_simp; done) | (go_simp; with_reducible rfl) | (trace_state; fail)
  try simp only [Act.put, List.setIfInBounds_toArray, List.set_cons_zero, List.set_cons_succ]
  refine wpAnyH_take (i := 8) (oi := { dst := some 60, op := Op.move (Operand.tmp 10), type := 27, pos := _, after := #[{ on := 5, ground := Ground.guard }], guard := some (5, true) }) (v := ?_) rfl (by kernel_rfl) (by kernel_rfl) (by kernel_rfl) (fun _ _ _ h => h) (Or.inl ⟨by rfl, ?_⟩) (by assumption) ?_
  rotate_left
  · intro wt hSw; (try dsimp only at hSw); have c70 := cellB hSw c70 z7; have c71 := cellB hSw c71 z7; have c90 := cellB hSw c90 z9; have c91 := cellB hSw c91 z9; have cA0 := cellB hSw cA0 zA; have cA1 := cellB hSw cA1 zA; have cO0 := cellB hSw cO0 zO; have cO1 := cellB hSw cO1 zO; first | (go_simp; done) | (go_simp; with_reducible rfl) | (trace_state; fail)
  try simp only [Act.put, List.setIfInBounds_toArray, List.set_cons_zero, List.set_cons_succ]
  refine wpAnyH_ready (rs := [9]) (by kernel_rfl) (by simp) ?_
  refine AllReadyH.cons (o := { dst := some 61, op := Op.call { callee := Callee.value (Operand.func 17), args := #[Operand.tmp 59, Operand.tmp 60], argTypes := #[27, 27] }, type := 27, pos := _, after := #[{ on := 7, ground := Ground.data }, { on := 8, ground := Ground.data }, { on := 5, ground := Ground.chain }, { on := 5, ground := Ground.guard }], guard := some (5, true) }) rfl (fun K hK => ?_) AllReadyH.nil
  go_simp
  refine (HRO.out _ hHeld).mono ?_; rintro e w5 ⟨r5, rfl, hr5, hb⟩; have hHeld := hHeld.trans (hb.mono hHeld.size)
  go_wp2_with fail
  refine hK.out _ _ ?_ (fun hHeld => ?_)
  · (try dsimp only); first | assumption | exact Below.alloc hHeld hHeld.size _ | exact (Below.refl _ _).drew | exact Below.drew (Below.refl _ _) | exact Below_drewN _ _ _ | exact Below.refl _ _ | (trace_state; fail)
  clear hK K
  try simp only [Act.put, List.setIfInBounds_toArray, List.set_cons_zero, List.set_cons_succ]
  refine wpAnyH_ready (rs := [10]) (by kernel_rfl) (by simp) ?_
  refine AllReadyH.cons (o := { dst := some 62, op := Op.call { callee := Callee.value (Operand.func 8), args := #[Operand.tmp 58, Operand.tmp 61], argTypes := #[26, 27] }, type := 4, pos := _, after := #[{ on := 6, ground := Ground.data }, { on := 9, ground := Ground.data }, { on := 9, ground := Ground.chain }, { on := 5, ground := Ground.guard }], guard := some (5, true) }) rfl (fun K hK => ?_) AllReadyH.nil
  go_simp
  refine (HLO.out _ _ hHeld hr5).mono ?_; rintro e w6 ⟨rfl, hb⟩; have hHeld := hHeld.trans (hb.mono hHeld.size)
  go_wp2_with fail
  refine hK.out _ _ ?_ (fun hHeld => ?_)
  · (try dsimp only); first | assumption | exact Below.alloc hHeld hHeld.size _ | exact (Below.refl _ _).drew | exact Below.drew (Below.refl _ _) | exact Below_drewN _ _ _ | exact Below.refl _ _ | (trace_state; fail)
  clear hK K
  try simp only [Act.put, List.setIfInBounds_toArray, List.set_cons_zero, List.set_cons_succ]
  refine wpAnyH_take (i := 11) (oi := { dst := some 63, op := Op.pick (Operand.tmp 57) (Operand.tmp 62) (Operand.const (Value.bool false)), type := 4, pos := _, after := #[{ on := 5, ground := Ground.data }, { on := 10, ground := Ground.data }], guard := none }) (v := ?_) rfl (by kernel_rfl) (by kernel_rfl) (by kernel_rfl) (fun _ _ _ h => h) (Or.inl ⟨by rfl, ?_⟩) (by assumption) ?_
  rotate_left
  · intro wt hSw; (try dsimp only at hSw); have c70 := cellB hSw c70 z7; have c71 := cellB hSw c71 z7; have c90 := cellB hSw c90 z9; have c91 := cellB hSw c91 z9; have cA0 := cellB hSw cA0 zA; have cA1 := cellB hSw cA1 zA; have cO0 := cellB hSw cO0 zO; have cO1 := cellB hSw cO1 zO; first | (go_simp; done) | (go_simp; with_reducible rfl) | (trace_state; fail)
  try simp only [Act.put, List.setIfInBounds_toArray, List.set_cons_zero, List.set_cons_succ]
  refine wpAnyH_take (i := 12) (oi := { dst := some 64, op := Op.move (Operand.tmp 63), type := 4, pos := _, after := #[{ on := 11, ground := Ground.data }, { on := 10, ground := Ground.chain }], guard := none }) (v := ?_) rfl (by kernel_rfl) (by kernel_rfl) (by kernel_rfl) (fun _ _ _ h => h) (Or.inl ⟨by rfl, ?_⟩) (by assumption) ?_
  rotate_left
  · intro wt hSw; (try dsimp only at hSw); have c70 := cellB hSw c70 z7; have c71 := cellB hSw c71 z7; have c90 := cellB hSw c90 z9; have c91 := cellB hSw c91 z9; have cA0 := cellB hSw cA0 zA; have cA1 := cellB hSw cA1 zA; have cO0 := cellB hSw cO0 zO; have cO1 := cellB hSw cO1 zO; first | (go_simp; done) | (go_simp; with_reducible rfl) | (trace_state; fail)
  try simp only [Act.put, List.setIfInBounds_toArray, List.set_cons_zero, List.set_cons_succ]
  refine wpAnyH_take (i := 13) (oi := { dst := some 65, op := Op.load 26 (Operand.tmp 7), type := 26, pos := _, after := #[{ on := 12, ground := Ground.guard }], guard := some (12, true) }) (v := ?_) rfl (by kernel_rfl) (by kernel_rfl) (by kernel_rfl) (fun _ _ _ h => h) (Or.inl ⟨by rfl, ?_⟩) (by assumption) ?_
  rotate_left
  · intro wt hSw; (try dsimp only at hSw); have c70 := cellB hSw c70 z7; have c71 := cellB hSw c71 z7; have c90 := cellB hSw c90 z9; have c91 := cellB hSw c91 z9; have cA0 := cellB hSw cA0 zA; have cA1 := cellB hSw cA1 zA; have cO0 := cellB hSw cO0 zO; have cO1 := cellB hSw cO1 zO; first | (go_simp; done) | (go_simp; with_reducible rfl) | (trace_state; fail)
  try simp only [Act.put, List.setIfInBounds_toArray, List.set_cons_zero, List.set_cons_succ]
  refine wpAnyH_take (i := 14) (oi := { dst := some 66, op := Op.load 26 (Operand.tmp 9), type := 26, pos := _, after := #[{ on := 12, ground := Ground.guard }], guard := some (12, true) }) (v := ?_) rfl (by kernel_rfl) (by kernel_rfl) (by kernel_rfl) (fun _ _ _ h => h) (Or.inl ⟨by rfl, ?_⟩) (by assumption) ?_
  rotate_left
  · intro wt hSw; (try dsimp only at hSw); have c70 := cellB hSw c70 z7; have c71 := cellB hSw c71 z7; have c90 := cellB hSw c90 z9; have c91 := cellB hSw c91 z9; have cA0 := cellB hSw cA0 zA; have cA1 := cellB hSw cA1 zA; have cO0 := cellB hSw cO0 zO; have cO1 := cellB hSw cO1 zO; first | (go_simp; done) | (go_simp; with_reducible rfl) | (trace_state; fail)
  try simp only [Act.put, List.setIfInBounds_toArray, List.set_cons_zero, List.set_cons_succ]
  refine wpAnyH_take (i := 16) (oi := { dst := some 68, op := Op.move (Operand.tmp 8), type := 27, pos := _, after := #[{ on := 12, ground := Ground.guard }], guard := some (12, true) }) (v := ?_) rfl (by kernel_rfl) (by kernel_rfl) (by kernel_rfl) (fun _ _ _ h => h) (Or.inl ⟨by rfl, ?_⟩) (by assumption) ?_
  rotate_left
  · intro wt hSw; (try dsimp only at hSw); have c70 := cellB hSw c70 z7; have c71 := cellB hSw c71 z7; have c90 := cellB hSw c90 z9; have c91 := cellB hSw c91 z9; have cA0 := cellB hSw cA0 zA; have cA1 := cellB hSw cA1 zA; have cO0 := cellB hSw cO0 zO; have cO1 := cellB hSw cO1 zO; first | (go_simp; done) | (go_simp; with_reducible rfl) | (trace_state; fail)
  try simp only [Act.put, List.setIfInBounds_toArray, List.set_cons_zero, List.set_cons_succ]
  refine wpAnyH_take (i := 17) (oi := { dst := some 69, op := Op.move (Operand.tmp 10), type := 27, pos := _, after := #[{ on := 12, ground := Ground.guard }], guard := some (12, true) }) (v := ?_) rfl (by kernel_rfl) (by kernel_rfl) (by kernel_rfl) (fun _ _ _ h => h) (Or.inl ⟨by rfl, ?_⟩) (by assumption) ?_
  rotate_left
  · intro wt hSw; (try dsimp only at hSw); have c70 := cellB hSw c70 z7; have c71 := cellB hSw c71 z7; have c90 := cellB hSw c90 z9; have c91 := cellB hSw c91 z9; have cA0 := cellB hSw cA0 zA; have cA1 := cellB hSw cA1 zA; have cO0 := cellB hSw cO0 zO; have cO1 := cellB hSw cO1 zO; first | (go_simp; done) | (go_simp; with_reducible rfl) | (trace_state; fail)
  try simp only [Act.put, List.setIfInBounds_toArray, List.set_cons_zero, List.set_cons_succ]
  refine wpAnyH_ready (rs := [15]) (by kernel_rfl) (by simp) ?_
  refine AllReadyH.cons (o := { dst := some 67, op := Op.call { callee := Callee.value (Operand.func 18), args := #[Operand.tmp 65, Operand.tmp 66], argTypes := #[26, 26] }, type := 4, pos := _, after := #[{ on := 13, ground := Ground.data }, { on := 14, ground := Ground.data }, { on := 12, ground := Ground.chain }, { on := 12, ground := Ground.guard }], guard := some (12, true) }) rfl (fun K hK => ?_) AllReadyH.nil
  go_simp
  refine (HSM.out _ hHeld).mono ?_; rintro e w7 ⟨rfl, hb⟩; have hHeld := hHeld.trans (hb.mono hHeld.size)
  go_wp2_with fail
  refine hK.out _ _ ?_ (fun hHeld => ?_)
  · (try dsimp only); first | assumption | exact Below.alloc hHeld hHeld.size _ | exact (Below.refl _ _).drew | exact Below.drew (Below.refl _ _) | exact Below_drewN _ _ _ | exact Below.refl _ _ | (trace_state; fail)
  clear hK K
  try simp only [Act.put, List.setIfInBounds_toArray, List.set_cons_zero, List.set_cons_succ]
  refine wpAnyH_ready (rs := [18]) (by kernel_rfl) (by simp) ?_
  refine AllReadyH.cons (o := { dst := some 70, op := Op.call { callee := Callee.value (Operand.func 19), args := #[Operand.tmp 68, Operand.tmp 69], argTypes := #[27, 27] }, type := 4, pos := _, after := #[{ on := 16, ground := Ground.data }, { on := 17, ground := Ground.data }, { on := 15, ground := Ground.chain }, { on := 12, ground := Ground.guard }], guard := some (12, true) }) rfl (fun K hK => ?_) AllReadyH.nil
  go_simp
  refine (HSR.out _ hHeld).mono ?_; rintro e w8 ⟨rfl, hb⟩; have hHeld := hHeld.trans (hb.mono hHeld.size)
  go_wp2_with fail
  refine hK.out _ _ ?_ (fun hHeld => ?_)
  · (try dsimp only); first | assumption | exact Below.alloc hHeld hHeld.size _ | exact (Below.refl _ _).drew | exact Below.drew (Below.refl _ _) | exact Below_drewN _ _ _ | exact Below.refl _ _ | (trace_state; fail)
  clear hK K
  try simp only [Act.put, List.setIfInBounds_toArray, List.set_cons_zero, List.set_cons_succ]
  refine wpAnyH_take (i := 19) (oi := { dst := some 71, op := Op.binOp BinOp.eql 4 (Operand.tmp 67) (Operand.tmp 70) 4, type := 4, pos := _, after := #[{ on := 15, ground := Ground.data }, { on := 18, ground := Ground.data }, { on := 12, ground := Ground.guard }], guard := some (12, true) }) (v := ?_) rfl (by kernel_rfl) (by kernel_rfl) (by kernel_rfl) (fun _ _ _ h => h) (Or.inl ⟨by rfl, ?_⟩) (by assumption) ?_
  rotate_left
  · intro wt hSw; (try dsimp only at hSw); have c70 := cellB hSw c70 z7; have c71 := cellB hSw c71 z7; have c90 := cellB hSw c90 z9; have c91 := cellB hSw c91 z9; have cA0 := cellB hSw cA0 zA; have cA1 := cellB hSw cA1 zA; have cO0 := cellB hSw cO0 zO; have cO1 := cellB hSw cO1 zO; first | (go_simp; done) | (go_simp; with_reducible rfl) | (trace_state; fail)
  try simp only [Act.put, List.setIfInBounds_toArray, List.set_cons_zero, List.set_cons_succ]
  refine wpAnyH_take (i := 20) (oi := { dst := some 72, op := Op.pick (Operand.tmp 64) (Operand.tmp 71) (Operand.const (Value.bool false)), type := 4, pos := _, after := #[{ on := 12, ground := Ground.data }, { on := 19, ground := Ground.data }], guard := none }) (v := ?_) rfl (by kernel_rfl) (by kernel_rfl) (by kernel_rfl) (fun _ _ _ h => h) (Or.inl ⟨by rfl, ?_⟩) (by assumption) ?_
  rotate_left
  · intro wt hSw; (try dsimp only at hSw); have c70 := cellB hSw c70 z7; have c71 := cellB hSw c71 z7; have c90 := cellB hSw c90 z9; have c91 := cellB hSw c91 z9; have cA0 := cellB hSw cA0 zA; have cA1 := cellB hSw cA1 zA; have cO0 := cellB hSw cO0 zO; have cO1 := cellB hSw cO1 zO; first | (go_simp; done) | (go_simp; with_reducible rfl) | (trace_state; fail)
  try simp only [Act.put, List.setIfInBounds_toArray, List.set_cons_zero, List.set_cons_succ]
  refine wpAnyH_take (i := 21) (oi := { dst := some 73, op := Op.move (Operand.tmp 72), type := 4, pos := _, after := #[{ on := 20, ground := Ground.data }, { on := 18, ground := Ground.chain }], guard := none }) (v := ?_) rfl (by kernel_rfl) (by kernel_rfl) (by kernel_rfl) (fun _ _ _ h => h) (Or.inl ⟨by rfl, ?_⟩) (by assumption) ?_
  rotate_left
  · intro wt hSw; (try dsimp only at hSw); have c70 := cellB hSw c70 z7; have c71 := cellB hSw c71 z7; have c90 := cellB hSw c90 z9; have c91 := cellB hSw c91 z9; have cA0 := cellB hSw cA0 zA; have cA1 := cellB hSw cA1 zA; have cO0 := cellB hSw cO0 zO; have cO1 := cellB hSw cO1 zO; first | (go_simp; done) | (go_simp; with_reducible rfl) | (trace_state; fail)
  try simp only [Act.put, List.setIfInBounds_toArray, List.set_cons_zero, List.set_cons_succ]
  refine wpAnyH_take (i := 22) (oi := { dst := some 74, op := Op.load 26 (Operand.tmp 11), type := 26, pos := _, after := #[{ on := 21, ground := Ground.guard }], guard := some (21, true) }) (v := ?_) rfl (by kernel_rfl) (by kernel_rfl) (by kernel_rfl) (fun _ _ _ h => h) (Or.inl ⟨by rfl, ?_⟩) (by assumption) ?_
  rotate_left
  · intro wt hSw; (try dsimp only at hSw); have c70 := cellB hSw c70 z7; have c71 := cellB hSw c71 z7; have c90 := cellB hSw c90 z9; have c91 := cellB hSw c91 z9; have cA0 := cellB hSw cA0 zA; have cA1 := cellB hSw cA1 zA; have cO0 := cellB hSw cO0 zO; have cO1 := cellB hSw cO1 zO; first | (go_simp; done) | (go_simp; with_reducible rfl) | (trace_state; fail)
  try simp only [Act.put, List.setIfInBounds_toArray, List.set_cons_zero, List.set_cons_succ]
  refine wpAnyH_take (i := 23) (oi := { dst := some 75, op := Op.load 26 (Operand.tmp 9), type := 26, pos := _, after := #[{ on := 21, ground := Ground.guard }], guard := some (21, true) }) (v := ?_) rfl (by kernel_rfl) (by kernel_rfl) (by kernel_rfl) (fun _ _ _ h => h) (Or.inl ⟨by rfl, ?_⟩) (by assumption) ?_
  rotate_left
  · intro wt hSw; (try dsimp only at hSw); have c70 := cellB hSw c70 z7; have c71 := cellB hSw c71 z7; have c90 := cellB hSw c90 z9; have c91 := cellB hSw c91 z9; have cA0 := cellB hSw cA0 zA; have cA1 := cellB hSw cA1 zA; have cO0 := cellB hSw cO0 zO; have cO1 := cellB hSw cO1 zO; first | (go_simp; done) | (go_simp; with_reducible rfl) | (trace_state; fail)
  try simp only [Act.put, List.setIfInBounds_toArray, List.set_cons_zero, List.set_cons_succ]
  refine wpAnyH_take (i := 24) (oi := { dst := some 76, op := Op.load 26 (Operand.tmp 7), type := 26, pos := _, after := #[{ on := 21, ground := Ground.guard }], guard := some (21, true) }) (v := ?_) rfl (by kernel_rfl) (by kernel_rfl) (by kernel_rfl) (fun _ _ _ h => h) (Or.inl ⟨by rfl, ?_⟩) (by assumption) ?_
  rotate_left
  · intro wt hSw; (try dsimp only at hSw); have c70 := cellB hSw c70 z7; have c71 := cellB hSw c71 z7; have c90 := cellB hSw c90 z9; have c91 := cellB hSw c91 z9; have cA0 := cellB hSw cA0 zA; have cA1 := cellB hSw cA1 zA; have cO0 := cellB hSw cO0 zO; have cO1 := cellB hSw cO1 zO; first | (go_simp; done) | (go_simp; with_reducible rfl) | (trace_state; fail)
  try simp only [Act.put, List.setIfInBounds_toArray, List.set_cons_zero, List.set_cons_succ]
  refine wpAnyH_ready (rs := [25]) (by kernel_rfl) (by simp) ?_
  refine AllReadyH.cons (o := { dst := some 77, op := Op.call { callee := Callee.value (Operand.func 14), args := #[Operand.tmp 75, Operand.tmp 76], argTypes := #[26, 26] }, type := 26, pos := _, after := #[{ on := 23, ground := Ground.data }, { on := 24, ground := Ground.data }, { on := 21, ground := Ground.chain }, { on := 21, ground := Ground.guard }], guard := some (21, true) }) rfl (fun K hK => ?_) AllReadyH.nil
  go_simp
  refine (HTA.out _ hHeld).mono ?_; rintro e w9 ⟨g9, m9, rfl, hs9, hb⟩; have hHeld := hHeld.trans (hb.mono hHeld.size)
  go_wp2_with fail
  refine hK.out _ _ ?_ (fun hHeld => ?_)
  · (try dsimp only); first | assumption | exact Below.alloc hHeld hHeld.size _ | exact (Below.refl _ _).drew | exact Below.drew (Below.refl _ _) | exact Below_drewN _ _ _ | exact Below.refl _ _ | (trace_state; fail)
  clear hK K
  have hs9 := hs9
  try simp only [Act.put, List.setIfInBounds_toArray, List.set_cons_zero, List.set_cons_succ]
  refine wpAnyH_ready (rs := [26]) (by kernel_rfl) (by simp) ?_
  refine AllReadyH.cons (o := { dst := some 78, op := Op.call { callee := Callee.value (Operand.func 18), args := #[Operand.tmp 74, Operand.tmp 77], argTypes := #[26, 26] }, type := 4, pos := _, after := #[{ on := 22, ground := Ground.data }, { on := 25, ground := Ground.data }, { on := 25, ground := Ground.chain }, { on := 21, ground := Ground.guard }], guard := some (21, true) }) rfl (fun K hK => ?_) AllReadyH.nil
  go_simp
  refine (HSA.out _ _ hHeld hs9).mono ?_; rintro e w10 ⟨rfl, hb⟩; have hHeld := hHeld.trans (hb.mono hHeld.size)
  go_wp2_with fail
  refine hK.out _ _ ?_ (fun hHeld => ?_)
  · (try dsimp only); first | assumption | exact Below.alloc hHeld hHeld.size _ | exact (Below.refl _ _).drew | exact Below.drew (Below.refl _ _) | exact Below_drewN _ _ _ | exact Below.refl _ _ | (trace_state; fail)
  clear hK K
  try simp only [Act.put, List.setIfInBounds_toArray, List.set_cons_zero, List.set_cons_succ]
  refine wpAnyH_take (i := 27) (oi := { dst := some 79, op := Op.pick (Operand.tmp 73) (Operand.tmp 78) (Operand.const (Value.bool false)), type := 4, pos := _, after := #[{ on := 21, ground := Ground.data }, { on := 26, ground := Ground.data }], guard := none }) (v := ?_) rfl (by kernel_rfl) (by kernel_rfl) (by kernel_rfl) (fun _ _ _ h => h) (Or.inl ⟨by rfl, ?_⟩) (by assumption) ?_
  rotate_left
  · intro wt hSw; (try dsimp only at hSw); have c70 := cellB hSw c70 z7; have c71 := cellB hSw c71 z7; have c90 := cellB hSw c90 z9; have c91 := cellB hSw c91 z9; have cA0 := cellB hSw cA0 zA; have cA1 := cellB hSw cA1 zA; have cO0 := cellB hSw cO0 zO; have cO1 := cellB hSw cO1 zO; first | (go_simp; done) | (go_simp; with_reducible rfl) | (trace_state; fail)
  try simp only [Act.put, List.setIfInBounds_toArray, List.set_cons_zero, List.set_cons_succ]
  refine wpAnyH_take (i := 28) (oi := { dst := some 80, op := Op.move (Operand.tmp 79), type := 4, pos := _, after := #[{ on := 27, ground := Ground.data }, { on := 26, ground := Ground.chain }], guard := none }) (v := ?_) rfl (by kernel_rfl) (by kernel_rfl) (by kernel_rfl) (fun _ _ _ h => h) (Or.inl ⟨by rfl, ?_⟩) (by assumption) ?_
  rotate_left
  · intro wt hSw; (try dsimp only at hSw); have c70 := cellB hSw c70 z7; have c71 := cellB hSw c71 z7; have c90 := cellB hSw c90 z9; have c91 := cellB hSw c91 z9; have cA0 := cellB hSw cA0 zA; have cA1 := cellB hSw cA1 zA; have cO0 := cellB hSw cO0 zO; have cO1 := cellB hSw cO1 zO; first | (go_simp; done) | (go_simp; with_reducible rfl) | (trace_state; fail)
  try simp only [Act.put, List.setIfInBounds_toArray, List.set_cons_zero, List.set_cons_succ]
  refine wpAnyH_take (i := 29) (oi := { dst := some 81, op := Op.load 26 (Operand.tmp 12), type := 26, pos := _, after := #[{ on := 28, ground := Ground.guard }], guard := some (28, true) }) (v := ?_) rfl (by kernel_rfl) (by kernel_rfl) (by kernel_rfl) (fun _ _ _ h => h) (Or.inl ⟨by rfl, ?_⟩) (by assumption) ?_
  rotate_left
  · intro wt hSw; (try dsimp only at hSw); have c70 := cellB hSw c70 z7; have c71 := cellB hSw c71 z7; have c90 := cellB hSw c90 z9; have c91 := cellB hSw c91 z9; have cA0 := cellB hSw cA0 zA; have cA1 := cellB hSw cA1 zA; have cO0 := cellB hSw cO0 zO; have cO1 := cellB hSw cO1 zO; first | (go_simp; done) | (go_simp; with_reducible rfl) | (trace_state; fail)
  try simp only [Act.put, List.setIfInBounds_toArray, List.set_cons_zero, List.set_cons_succ]
  refine wpAnyH_take (i := 30) (oi := { dst := some 82, op := Op.load 26 (Operand.tmp 9), type := 26, pos := _, after := #[{ on := 28, ground := Ground.guard }], guard := some (28, true) }) (v := ?_) rfl (by kernel_rfl) (by kernel_rfl) (by kernel_rfl) (fun _ _ _ h => h) (Or.inl ⟨by rfl, ?_⟩) (by assumption) ?_
  rotate_left
  · intro wt hSw; (try dsimp only at hSw); have c70 := cellB hSw c70 z7; have c71 := cellB hSw c71 z7; have c90 := cellB hSw c90 z9; have c91 := cellB hSw c91 z9; have cA0 := cellB hSw cA0 zA; have cA1 := cellB hSw cA1 zA; have cO0 := cellB hSw cO0 zO; have cO1 := cellB hSw cO1 zO; first | (go_simp; done) | (go_simp; with_reducible rfl) | (trace_state; fail)
  try simp only [Act.put, List.setIfInBounds_toArray, List.set_cons_zero, List.set_cons_succ]
  refine wpAnyH_take (i := 31) (oi := { dst := some 83, op := Op.load 26 (Operand.tmp 7), type := 26, pos := _, after := #[{ on := 28, ground := Ground.guard }], guard := some (28, true) }) (v := ?_) rfl (by kernel_rfl) (by kernel_rfl) (by kernel_rfl) (fun _ _ _ h => h) (Or.inl ⟨by rfl, ?_⟩) (by assumption) ?_
  rotate_left
  · intro wt hSw; (try dsimp only at hSw); have c70 := cellB hSw c70 z7; have c71 := cellB hSw c71 z7; have c90 := cellB hSw c90 z9; have c91 := cellB hSw c91 z9; have cA0 := cellB hSw cA0 zA; have cA1 := cellB hSw cA1 zA; have cO0 := cellB hSw cO0 zO; have cO1 := cellB hSw cO1 zO; first | (go_simp; done) | (go_simp; with_reducible rfl) | (trace_state; fail)
  try simp only [Act.put, List.setIfInBounds_toArray, List.set_cons_zero, List.set_cons_succ]
  refine wpAnyH_ready (rs := [32]) (by kernel_rfl) (by simp) ?_
  refine AllReadyH.cons (o := { dst := some 84, op := Op.call { callee := Callee.value (Operand.func 15), args := #[Operand.tmp 82, Operand.tmp 83], argTypes := #[26, 26] }, type := 26, pos := _, after := #[{ on := 30, ground := Ground.data }, { on := 31, ground := Ground.data }, { on := 28, ground := Ground.chain }, { on := 28, ground := Ground.guard }], guard := some (28, true) }) rfl (fun K hK => ?_) AllReadyH.nil
  go_simp
  refine (HTO.out _ hHeld).mono ?_; rintro e w11 ⟨g11, m11, rfl, hs11, hb⟩; have hHeld := hHeld.trans (hb.mono hHeld.size)
  go_wp2_with fail
  refine hK.out _ _ ?_ (fun hHeld => ?_)
  · (try dsimp only); first | assumption | exact Below.alloc hHeld hHeld.size _ | exact (Below.refl _ _).drew | exact Below.drew (Below.refl _ _) | exact Below_drewN _ _ _ | exact Below.refl _ _ | (trace_state; fail)
  clear hK K
  try simp only [Act.put, List.setIfInBounds_toArray, List.set_cons_zero, List.set_cons_succ]
  refine wpAnyH_ready (rs := [33]) (by kernel_rfl) (by simp) ?_
  refine AllReadyH.cons (o := { dst := some 85, op := Op.call { callee := Callee.value (Operand.func 18), args := #[Operand.tmp 81, Operand.tmp 84], argTypes := #[26, 26] }, type := 4, pos := _, after := #[{ on := 29, ground := Ground.data }, { on := 32, ground := Ground.data }, { on := 32, ground := Ground.chain }, { on := 28, ground := Ground.guard }], guard := some (28, true) }) rfl (fun K hK => ?_) AllReadyH.nil
  go_simp
  refine (HSO.out _ _ hHeld hs11).mono ?_; rintro e w12 ⟨rfl, hb⟩; have hHeld := hHeld.trans (hb.mono hHeld.size)
  go_wp2_with fail
  refine hK.out _ _ ?_ (fun hHeld => ?_)
  · (try dsimp only); first | assumption | exact Below.alloc hHeld hHeld.size _ | exact (Below.refl _ _).drew | exact Below.drew (Below.refl _ _) | exact Below_drewN _ _ _ | exact Below.refl _ _ | (trace_state; fail)
  clear hK K
  try simp only [Act.put, List.setIfInBounds_toArray, List.set_cons_zero, List.set_cons_succ]
  refine wpAnyH_take (i := 34) (oi := { dst := some 86, op := Op.pick (Operand.tmp 80) (Operand.tmp 85) (Operand.const (Value.bool false)), type := 4, pos := _, after := #[{ on := 28, ground := Ground.data }, { on := 33, ground := Ground.data }], guard := none }) (v := ?_) rfl (by kernel_rfl) (by kernel_rfl) (by kernel_rfl) (fun _ _ _ h => h) (Or.inl ⟨by rfl, ?_⟩) (by assumption) ?_
  rotate_left
  · intro wt hSw; (try dsimp only at hSw); have c70 := cellB hSw c70 z7; have c71 := cellB hSw c71 z7; have c90 := cellB hSw c90 z9; have c91 := cellB hSw c91 z9; have cA0 := cellB hSw cA0 zA; have cA1 := cellB hSw cA1 zA; have cO0 := cellB hSw cO0 zO; have cO1 := cellB hSw cO1 zO; first | (go_simp; done) | (go_simp; with_reducible rfl) | (trace_state; fail)
  try simp only [Act.put, List.setIfInBounds_toArray, List.set_cons_zero, List.set_cons_succ]
  refine wpAnyH_take (i := 35) (oi := { dst := some 87, op := Op.move (Operand.tmp 86), type := 4, pos := _, after := #[{ on := 34, ground := Ground.data }, { on := 33, ground := Ground.chain }], guard := none }) (v := ?_) rfl (by kernel_rfl) (by kernel_rfl) (by kernel_rfl) (fun _ _ _ h => h) (Or.inl ⟨by rfl, ?_⟩) (by assumption) ?_
  rotate_left
  · intro wt hSw; (try dsimp only at hSw); have c70 := cellB hSw c70 z7; have c71 := cellB hSw c71 z7; have c90 := cellB hSw c90 z9; have c91 := cellB hSw c91 z9; have cA0 := cellB hSw cA0 zA; have cA1 := cellB hSw cA1 zA; have cO0 := cellB hSw cO0 zO; have cO1 := cellB hSw cO1 zO; first | (go_simp; done) | (go_simp; with_reducible rfl) | (trace_state; fail)
  try simp only [Act.put, List.setIfInBounds_toArray, List.set_cons_zero, List.set_cons_succ]
  refine wpAnyH_take (i := 36) (oi := { dst := some 88, op := Op.load 26 (Operand.tmp 11), type := 26, pos := _, after := #[{ on := 35, ground := Ground.guard }], guard := some (35, true) }) (v := ?_) rfl (by kernel_rfl) (by kernel_rfl) (by kernel_rfl) (fun _ _ _ h => h) (Or.inl ⟨by rfl, ?_⟩) (by assumption) ?_
  rotate_left
  · intro wt hSw; (try dsimp only at hSw); have c70 := cellB hSw c70 z7; have c71 := cellB hSw c71 z7; have c90 := cellB hSw c90 z9; have c91 := cellB hSw c91 z9; have cA0 := cellB hSw cA0 zA; have cA1 := cellB hSw cA1 zA; have cO0 := cellB hSw cO0 zO; have cO1 := cellB hSw cO1 zO; first | (go_simp; done) | (go_simp; with_reducible rfl) | (trace_state; fail)
  try simp only [Act.put, List.setIfInBounds_toArray, List.set_cons_zero, List.set_cons_succ]
  refine wpAnyH_take (i := 38) (oi := { dst := some 90, op := Op.load 26 (Operand.tmp 12), type := 26, pos := _, after := #[{ on := 35, ground := Ground.guard }], guard := some (35, true) }) (v := ?_) rfl (by kernel_rfl) (by kernel_rfl) (by kernel_rfl) (fun _ _ _ h => h) (Or.inl ⟨by rfl, ?_⟩) (by assumption) ?_
  rotate_left
  · intro wt hSw; (try dsimp only at hSw); have c70 := cellB hSw c70 z7; have c71 := cellB hSw c71 z7; have c90 := cellB hSw c90 z9; have c91 := cellB hSw c91 z9; have cA0 := cellB hSw cA0 zA; have cA1 := cellB hSw cA1 zA; have cO0 := cellB hSw cO0 zO; have cO1 := cellB hSw cO1 zO; first | (go_simp; done) | (go_simp; with_reducible rfl) | (trace_state; fail)
  try simp only [Act.put, List.setIfInBounds_toArray, List.set_cons_zero, List.set_cons_succ]
  refine wpAnyH_take (i := 41) (oi := { dst := some 93, op := Op.load 26 (Operand.tmp 7), type := 26, pos := _, after := #[{ on := 35, ground := Ground.guard }], guard := some (35, true) }) (v := ?_) rfl (by kernel_rfl) (by kernel_rfl) (by kernel_rfl) (fun _ _ _ h => h) (Or.inl ⟨by rfl, ?_⟩) (by assumption) ?_
  rotate_left
  · intro wt hSw; (try dsimp only at hSw); have c70 := cellB hSw c70 z7; have c71 := cellB hSw c71 z7; have c90 := cellB hSw c90 z9; have c91 := cellB hSw c91 z9; have cA0 := cellB hSw cA0 zA; have cA1 := cellB hSw cA1 zA; have cO0 := cellB hSw cO0 zO; have cO1 := cellB hSw cO1 zO; first | (go_simp; done) | (go_simp; with_reducible rfl) | (trace_state; fail)
  try simp only [Act.put, List.setIfInBounds_toArray, List.set_cons_zero, List.set_cons_succ]
  refine wpAnyH_take (i := 43) (oi := { dst := some 95, op := Op.load 26 (Operand.tmp 9), type := 26, pos := _, after := #[{ on := 35, ground := Ground.guard }], guard := some (35, true) }) (v := ?_) rfl (by kernel_rfl) (by kernel_rfl) (by kernel_rfl) (fun _ _ _ h => h) (Or.inl ⟨by rfl, ?_⟩) (by assumption) ?_
  rotate_left
  · intro wt hSw; (try dsimp only at hSw); have c70 := cellB hSw c70 z7; have c71 := cellB hSw c71 z7; have c90 := cellB hSw c90 z9; have c91 := cellB hSw c91 z9; have cA0 := cellB hSw cA0 zA; have cA1 := cellB hSw cA1 zA; have cO0 := cellB hSw cO0 zO; have cO1 := cellB hSw cO1 zO; first | (go_simp; done) | (go_simp; with_reducible rfl) | (trace_state; fail)
  try simp only [Act.put, List.setIfInBounds_toArray, List.set_cons_zero, List.set_cons_succ]
  refine wpAnyH_ready (rs := [37]) (by kernel_rfl) (by simp) ?_
  refine AllReadyH.cons (o := { dst := some 89, op := Op.call { callee := Callee.value (Operand.func 13), args := #[Operand.tmp 88], argTypes := #[26] }, type := 3, pos := _, after := #[{ on := 36, ground := Ground.data }, { on := 35, ground := Ground.chain }, { on := 35, ground := Ground.guard }], guard := some (35, true) }) rfl (fun K hK => ?_) AllReadyH.nil
  go_simp
  refine (HCA.out _ hHeld).mono ?_; rintro e w13 ⟨rfl, hb⟩; have hHeld := hHeld.trans (hb.mono hHeld.size)
  go_wp2_with fail
  refine hK.out _ _ ?_ (fun hHeld => ?_)
  · (try dsimp only); first | assumption | exact Below.alloc hHeld hHeld.size _ | exact (Below.refl _ _).drew | exact Below.drew (Below.refl _ _) | exact Below_drewN _ _ _ | exact Below.refl _ _ | (trace_state; fail)
  clear hK K
  try simp only [Act.put, List.setIfInBounds_toArray, List.set_cons_zero, List.set_cons_succ]
  refine wpAnyH_ready (rs := [39]) (by kernel_rfl) (by simp) ?_
  refine AllReadyH.cons (o := { dst := some 91, op := Op.call { callee := Callee.value (Operand.func 13), args := #[Operand.tmp 90], argTypes := #[26] }, type := 3, pos := _, after := #[{ on := 38, ground := Ground.data }, { on := 37, ground := Ground.chain }, { on := 35, ground := Ground.guard }], guard := some (35, true) }) rfl (fun K hK => ?_) AllReadyH.nil
  go_simp
  refine (HCO.out _ hHeld).mono ?_; rintro e w14 ⟨rfl, hb⟩; have hHeld := hHeld.trans (hb.mono hHeld.size)
  go_wp2_with fail
  refine hK.out _ _ ?_ (fun hHeld => ?_)
  · (try dsimp only); first | assumption | exact Below.alloc hHeld hHeld.size _ | exact (Below.refl _ _).drew | exact Below.drew (Below.refl _ _) | exact Below_drewN _ _ _ | exact Below.refl _ _ | (trace_state; fail)
  clear hK K
  try simp only [Act.put, List.setIfInBounds_toArray, List.set_cons_zero, List.set_cons_succ]
  refine wpAnyH_take (i := 40) (oi := { dst := some 92, op := Op.binOp BinOp.add 3 (Operand.tmp 89) (Operand.tmp 91) 3, type := 3, pos := _, after := #[{ on := 37, ground := Ground.data }, { on := 39, ground := Ground.data }, { on := 35, ground := Ground.guard }], guard := some (35, true) }) (v := ?_) rfl (by kernel_rfl) (by kernel_rfl) (by kernel_rfl) (fun _ _ _ h => h) (Or.inl ⟨by rfl, ?_⟩) (by assumption) ?_
  rotate_left
  · intro wt hSw; (try dsimp only at hSw); have c70 := cellB hSw c70 z7; have c71 := cellB hSw c71 z7; have c90 := cellB hSw c90 z9; have c91 := cellB hSw c91 z9; have cA0 := cellB hSw cA0 zA; have cA1 := cellB hSw cA1 zA; have cO0 := cellB hSw cO0 zO; have cO1 := cellB hSw cO1 zO; first | (go_simp; done) | (go_simp; with_reducible rfl) | (trace_state; fail)
  try simp only [Act.put, List.setIfInBounds_toArray, List.set_cons_zero, List.set_cons_succ]
  refine wpAnyH_ready (rs := [42]) (by kernel_rfl) (by simp) ?_
  refine AllReadyH.cons (o := { dst := some 94, op := Op.call { callee := Callee.value (Operand.func 13), args := #[Operand.tmp 93], argTypes := #[26] }, type := 3, pos := _, after := #[{ on := 41, ground := Ground.data }, { on := 39, ground := Ground.chain }, { on := 35, ground := Ground.guard }], guard := some (35, true) }) rfl (fun K hK => ?_) AllReadyH.nil
  go_simp
  refine (HCX.out _ hHeld).mono ?_; rintro e w15 ⟨rfl, hb⟩; have hHeld := hHeld.trans (hb.mono hHeld.size)
  go_wp2_with fail
  refine hK.out _ _ ?_ (fun hHeld => ?_)
  · (try dsimp only); first | assumption | exact Below.alloc hHeld hHeld.size _ | exact (Below.refl _ _).drew | exact Below.drew (Below.refl _ _) | exact Below_drewN _ _ _ | exact Below.refl _ _ | (trace_state; fail)
  clear hK K
  try simp only [Act.put, List.setIfInBounds_toArray, List.set_cons_zero, List.set_cons_succ]
  refine wpAnyH_ready (rs := [44]) (by kernel_rfl) (by simp) ?_
  refine AllReadyH.cons (o := { dst := some 96, op := Op.call { callee := Callee.value (Operand.func 13), args := #[Operand.tmp 95], argTypes := #[26] }, type := 3, pos := _, after := #[{ on := 43, ground := Ground.data }, { on := 42, ground := Ground.chain }, { on := 35, ground := Ground.guard }], guard := some (35, true) }) rfl (fun K hK => ?_) AllReadyH.nil
  go_simp
  refine (HCY.out _ hHeld).mono ?_; rintro e w16 ⟨rfl, hb⟩; have hHeld := hHeld.trans (hb.mono hHeld.size)
  go_wp2_with fail
  refine hK.out _ _ ?_ (fun hHeld => ?_)
  · (try dsimp only); first | assumption | exact Below.alloc hHeld hHeld.size _ | exact (Below.refl _ _).drew | exact Below.drew (Below.refl _ _) | exact Below_drewN _ _ _ | exact Below.refl _ _ | (trace_state; fail)
  clear hK K
  try simp only [Act.put, List.setIfInBounds_toArray, List.set_cons_zero, List.set_cons_succ]
  refine wpAnyH_take (i := 45) (oi := { dst := some 97, op := Op.binOp BinOp.add 3 (Operand.tmp 94) (Operand.tmp 96) 3, type := 3, pos := _, after := #[{ on := 42, ground := Ground.data }, { on := 44, ground := Ground.data }, { on := 35, ground := Ground.guard }], guard := some (35, true) }) (v := ?_) rfl (by kernel_rfl) (by kernel_rfl) (by kernel_rfl) (fun _ _ _ h => h) (Or.inl ⟨by rfl, ?_⟩) (by assumption) ?_
  rotate_left
  · intro wt hSw; (try dsimp only at hSw); have c70 := cellB hSw c70 z7; have c71 := cellB hSw c71 z7; have c90 := cellB hSw c90 z9; have c91 := cellB hSw c91 z9; have cA0 := cellB hSw cA0 zA; have cA1 := cellB hSw cA1 zA; have cO0 := cellB hSw cO0 zO; have cO1 := cellB hSw cO1 zO; first | (go_simp; done) | (go_simp; with_reducible rfl) | (trace_state; fail)
  try simp only [Act.put, List.setIfInBounds_toArray, List.set_cons_zero, List.set_cons_succ]
  refine wpAnyH_take (i := 46) (oi := { dst := some 98, op := Op.binOp BinOp.eql 3 (Operand.tmp 92) (Operand.tmp 97) 3, type := 4, pos := _, after := #[{ on := 40, ground := Ground.data }, { on := 45, ground := Ground.data }, { on := 35, ground := Ground.guard }], guard := some (35, true) }) (v := ?_) rfl (by kernel_rfl) (by kernel_rfl) (by kernel_rfl) (fun _ _ _ h => h) (Or.inl ⟨by rfl, ?_⟩) (by assumption) ?_
  rotate_left
  · intro wt hSw; (try dsimp only at hSw); have c70 := cellB hSw c70 z7; have c71 := cellB hSw c71 z7; have c90 := cellB hSw c90 z9; have c91 := cellB hSw c91 z9; have cA0 := cellB hSw cA0 zA; have cA1 := cellB hSw cA1 zA; have cO0 := cellB hSw cO0 zO; have cO1 := cellB hSw cO1 zO; first | (go_simp; done) | (go_simp; with_reducible rfl) | (trace_state; fail)
  try simp only [Act.put, List.setIfInBounds_toArray, List.set_cons_zero, List.set_cons_succ]
  refine wpAnyH_take (i := 47) (oi := { dst := some 99, op := Op.pick (Operand.tmp 87) (Operand.tmp 98) (Operand.const (Value.bool false)), type := 4, pos := _, after := #[{ on := 35, ground := Ground.data }, { on := 46, ground := Ground.data }], guard := none }) (v := ?_) rfl (by kernel_rfl) (by kernel_rfl) (by kernel_rfl) (fun _ _ _ h => h) (Or.inl ⟨by rfl, ?_⟩) (by assumption) ?_
  rotate_left
  · intro wt hSw; (try dsimp only at hSw); have c70 := cellB hSw c70 z7; have c71 := cellB hSw c71 z7; have c90 := cellB hSw c90 z9; have c91 := cellB hSw c91 z9; have cA0 := cellB hSw cA0 zA; have cA1 := cellB hSw cA1 zA; have cO0 := cellB hSw cO0 zO; have cO1 := cellB hSw cO1 zO; first | (go_simp; done) | (go_simp; with_reducible rfl) | (trace_state; fail)
  try simp only [Act.put, List.setIfInBounds_toArray, List.set_cons_zero, List.set_cons_succ]
  refine wpAnyH_take (i := 48) (oi := { dst := some 100, op := Op.move (Operand.tmp 99), type := 4, pos := _, after := #[{ on := 47, ground := Ground.data }, { on := 44, ground := Ground.chain }], guard := none }) (v := ?_) rfl (by kernel_rfl) (by kernel_rfl) (by kernel_rfl) (fun _ _ _ h => h) (Or.inl ⟨by rfl, ?_⟩) (by assumption) ?_
  rotate_left
  · intro wt hSw; (try dsimp only at hSw); have c70 := cellB hSw c70 z7; have c71 := cellB hSw c71 z7; have c90 := cellB hSw c90 z9; have c91 := cellB hSw c91 z9; have cA0 := cellB hSw cA0 zA; have cA1 := cellB hSw cA1 zA; have cO0 := cellB hSw cO0 zO; have cO1 := cellB hSw cO1 zO; first | (go_simp; done) | (go_simp; with_reducible rfl) | (trace_state; fail)
  try simp only [Act.put, List.setIfInBounds_toArray, List.set_cons_zero, List.set_cons_succ]
  refine wpAnyH_take (i := 49) (oi := { dst := some 101, op := Op.load 26 (Operand.tmp 7), type := 26, pos := _, after := #[{ on := 48, ground := Ground.guard }], guard := some (48, true) }) (v := ?_) rfl (by kernel_rfl) (by kernel_rfl) (by kernel_rfl) (fun _ _ _ h => h) (Or.inl ⟨by rfl, ?_⟩) (by assumption) ?_
  rotate_left
  · intro wt hSw; (try dsimp only at hSw); have c70 := cellB hSw c70 z7; have c71 := cellB hSw c71 z7; have c90 := cellB hSw c90 z9; have c91 := cellB hSw c91 z9; have cA0 := cellB hSw cA0 zA; have cA1 := cellB hSw cA1 zA; have cO0 := cellB hSw cO0 zO; have cO1 := cellB hSw cO1 zO; first | (go_simp; done) | (go_simp; with_reducible rfl) | (trace_state; fail)
  try simp only [Act.put, List.setIfInBounds_toArray, List.set_cons_zero, List.set_cons_succ]
  refine wpAnyH_take (i := 50) (oi := { dst := some 102, op := Op.move (Operand.tmp 8), type := 27, pos := _, after := #[{ on := 48, ground := Ground.guard }], guard := some (48, true) }) (v := ?_) rfl (by kernel_rfl) (by kernel_rfl) (by kernel_rfl) (fun _ _ _ h => h) (Or.inl ⟨by rfl, ?_⟩) (by assumption) ?_
  rotate_left
  · intro wt hSw; (try dsimp only at hSw); have c70 := cellB hSw c70 z7; have c71 := cellB hSw c71 z7; have c90 := cellB hSw c90 z9; have c91 := cellB hSw c91 z9; have cA0 := cellB hSw cA0 zA; have cA1 := cellB hSw cA1 zA; have cO0 := cellB hSw cO0 zO; have cO1 := cellB hSw cO1 zO; first | (go_simp; done) | (go_simp; with_reducible rfl) | (trace_state; fail)
  try simp only [Act.put, List.setIfInBounds_toArray, List.set_cons_zero, List.set_cons_succ]
  refine wpAnyH_ready (rs := [51]) (by kernel_rfl) (by simp) ?_
  refine AllReadyH.cons (o := { dst := some 103, op := Op.call { callee := Callee.value (Operand.func 8), args := #[Operand.tmp 101, Operand.tmp 102], argTypes := #[26, 27] }, type := 4, pos := _, after := #[{ on := 49, ground := Ground.data }, { on := 50, ground := Ground.data }, { on := 48, ground := Ground.chain }, { on := 48, ground := Ground.guard }], guard := some (48, true) }) rfl (fun K hK => ?_) AllReadyH.nil
  go_simp
  refine (HLX.out _ hHeld).mono ?_; rintro e w17 ⟨rfl, hb⟩; have hHeld := hHeld.trans (hb.mono hHeld.size)
  go_wp2_with fail
  refine hK.out _ _ ?_ (fun hHeld => ?_)
  · (try dsimp only); first | assumption | exact Below.alloc hHeld hHeld.size _ | exact (Below.refl _ _).drew | exact Below.drew (Below.refl _ _) | exact Below_drewN _ _ _ | exact Below.refl _ _ | (trace_state; fail)
  clear hK K
  try simp only [Act.put, List.setIfInBounds_toArray, List.set_cons_zero, List.set_cons_succ]
  refine wpAnyH_take (i := 52) (oi := { dst := some 104, op := Op.pick (Operand.tmp 100) (Operand.tmp 103) (Operand.const (Value.bool false)), type := 4, pos := _, after := #[{ on := 48, ground := Ground.data }, { on := 51, ground := Ground.data }], guard := none }) (v := ?_) rfl (by kernel_rfl) (by kernel_rfl) (by kernel_rfl) (fun _ _ _ h => h) (Or.inl ⟨by rfl, ?_⟩) (by assumption) ?_
  rotate_left
  · intro wt hSw; (try dsimp only at hSw); have c70 := cellB hSw c70 z7; have c71 := cellB hSw c71 z7; have c90 := cellB hSw c90 z9; have c91 := cellB hSw c91 z9; have cA0 := cellB hSw cA0 zA; have cA1 := cellB hSw cA1 zA; have cO0 := cellB hSw cO0 zO; have cO1 := cellB hSw cO1 zO; first | (go_simp; done) | (go_simp; with_reducible rfl) | (trace_state; fail)
  try simp only [Act.put, List.setIfInBounds_toArray, List.set_cons_zero, List.set_cons_succ]
  refine wpAnyH_take (i := 53) (oi := { dst := some 105, op := Op.move (Operand.tmp 104), type := 4, pos := _, after := #[{ on := 52, ground := Ground.data }, { on := 51, ground := Ground.chain }], guard := none }) (v := ?_) rfl (by kernel_rfl) (by kernel_rfl) (by kernel_rfl) (fun _ _ _ h => h) (Or.inl ⟨by rfl, ?_⟩) (by assumption) ?_
  rotate_left
  · intro wt hSw; (try dsimp only at hSw); have c70 := cellB hSw c70 z7; have c71 := cellB hSw c71 z7; have c90 := cellB hSw c90 z9; have c91 := cellB hSw c91 z9; have cA0 := cellB hSw cA0 zA; have cA1 := cellB hSw cA1 zA; have cO0 := cellB hSw cO0 zO; have cO1 := cellB hSw cO1 zO; first | (go_simp; done) | (go_simp; with_reducible rfl) | (trace_state; fail)
  try simp only [Act.put, List.setIfInBounds_toArray, List.set_cons_zero, List.set_cons_succ]
  refine wpAnyH_ready (rs := [54]) (by kernel_rfl) (by simp) ?_
  refine AllReadyH.cons (o := { dst := some 106, op := Op.call { callee := Callee.value (Operand.func 5), args := #[], argTypes := #[] }, type := 4, pos := _, after := #[{ on := 53, ground := Ground.chain }, { on := 53, ground := Ground.guard }], guard := some (53, true) }) rfl (fun K hK => ?_) AllReadyH.nil
  go_simp
  refine (HAW.out _ hHeld).mono ?_; rintro e w18 ⟨rfl, hb⟩; have hHeld := hHeld.trans (hb.mono hHeld.size)
  go_wp2_with fail
  refine hK.out _ _ ?_ (fun hHeld => ?_)
  · (try dsimp only); first | assumption | exact Below.alloc hHeld hHeld.size _ | exact (Below.refl _ _).drew | exact Below.drew (Below.refl _ _) | exact Below_drewN _ _ _ | exact Below.refl _ _ | (trace_state; fail)
  clear hK K
  try simp only [Act.put, List.setIfInBounds_toArray, List.set_cons_zero, List.set_cons_succ]
  refine wpAnyH_take (i := 55) (oi := { dst := some 107, op := Op.pick (Operand.tmp 105) (Operand.tmp 106) (Operand.const (Value.bool false)), type := 4, pos := _, after := #[{ on := 53, ground := Ground.data }, { on := 54, ground := Ground.data }], guard := none }) (v := ?_) rfl (by kernel_rfl) (by kernel_rfl) (by kernel_rfl) (fun _ _ _ h => h) (Or.inl ⟨by rfl, ?_⟩) (by assumption) ?_
  rotate_left
  · intro wt hSw; (try dsimp only at hSw); have c70 := cellB hSw c70 z7; have c71 := cellB hSw c71 z7; have c90 := cellB hSw c90 z9; have c91 := cellB hSw c91 z9; have cA0 := cellB hSw cA0 zA; have cA1 := cellB hSw cA1 zA; have cO0 := cellB hSw cO0 zO; have cO1 := cellB hSw cO1 zO; first | (go_simp; done) | (go_simp; with_reducible rfl) | (trace_state; fail)
  try simp only [Act.put, List.setIfInBounds_toArray, List.set_cons_zero, List.set_cons_succ]
  refine wpAnyH_take (i := 56) (oi := { dst := some 6, op := Op.assign (Operand.tmp 107), type := 4, pos := _, after := #[{ on := 55, ground := Ground.data }, { on := 54, ground := Ground.chain }, { on := 0, ground := Ground.phase }, { on := 1, ground := Ground.phase }, { on := 2, ground := Ground.phase }, { on := 3, ground := Ground.phase }, { on := 4, ground := Ground.phase }, { on := 5, ground := Ground.phase }, { on := 6, ground := Ground.phase }, { on := 7, ground := Ground.phase }, { on := 8, ground := Ground.phase }, { on := 9, ground := Ground.phase }, { on := 10, ground := Ground.phase }, { on := 11, ground := Ground.phase }, { on := 12, ground := Ground.phase }, { on := 13, ground := Ground.phase }, { on := 14, ground := Ground.phase }, { on := 15, ground := Ground.phase }, { on := 16, ground := Ground.phase }, { on := 17, ground := Ground.phase }, { on := 18, ground := Ground.phase }, { on := 19, ground := Ground.phase }, { on := 20, ground := Ground.phase }, { on := 21, ground := Ground.phase }, { on := 22, ground := Ground.phase }, { on := 23, ground := Ground.phase }, { on := 24, ground := Ground.phase }, { on := 25, ground := Ground.phase }, { on := 26, ground := Ground.phase }, { on := 27, ground := Ground.phase }, { on := 28, ground := Ground.phase }, { on := 29, ground := Ground.phase }, { on := 30, ground := Ground.phase }, { on := 31, ground := Ground.phase }, { on := 32, ground := Ground.phase }, { on := 33, ground := Ground.phase }, { on := 34, ground := Ground.phase }, { on := 35, ground := Ground.phase }, { on := 36, ground := Ground.phase }, { on := 37, ground := Ground.phase }, { on := 38, ground := Ground.phase }, { on := 39, ground := Ground.phase }, { on := 40, ground := Ground.phase }, { on := 41, ground := Ground.phase }, { on := 42, ground := Ground.phase }, { on := 43, ground := Ground.phase }, { on := 44, ground := Ground.phase }, { on := 45, ground := Ground.phase }, { on := 46, ground := Ground.phase }, { on := 47, ground := Ground.phase }, { on := 48, ground := Ground.phase }, { on := 49, ground := Ground.phase }, { on := 50, ground := Ground.phase }, { on := 51, ground := Ground.phase }, { on := 52, ground := Ground.phase }, { on := 53, ground := Ground.phase }, { on := 54, ground := Ground.phase }, { on := 55, ground := Ground.phase }], guard := none }) (v := ?_) rfl (by kernel_rfl) (by kernel_rfl) (by kernel_rfl) (fun _ _ _ h => h) (Or.inl ⟨by rfl, ?_⟩) (by assumption) ?_
  rotate_left
  · intro wt hSw; (try dsimp only at hSw); have c70 := cellB hSw c70 z7; have c71 := cellB hSw c71 z7; have c90 := cellB hSw c90 z9; have c91 := cellB hSw c91 z9; have cA0 := cellB hSw cA0 zA; have cA1 := cellB hSw cA1 zA; have cO0 := cellB hSw cO0 zO; have cO1 := cellB hSw cO1 zO; first | (go_simp; done) | (go_simp; with_reducible rfl) | (trace_state; fail)
  try simp only [Act.put, List.setIfInBounds_toArray, List.set_cons_zero, List.set_cons_succ]
  refine wpAnyH_done (by kernel_rfl) ?_ _
  go_wp2_with fail
  go_ret
  exact ⟨rfl, HBW.out.trans (hHeld.mono HBW.out.size)⟩
end Go.Proofs.YtochjlllfbmhpaaDoor
