/- Layer 5: the law IdentRight. -/
import Derived.Test.YthammifbpdoggaaDoorIdAwake
namespace Go.Proofs.YthammifbpdoggaaDoor
open Go.RowKit Go.Maps
set_option linter.unusedSimpArgs false
set_option linter.unusedVariables false
set_option maxHeartbeats 4000000 in
theorem identRight_walk (s : ByteArray) (w : World) (hT : IdTab w) : Calls Tryd.prog 3 #[.string s] w fun e w' => e = .returned (.bool true) ∧ Below w.heap.size w w' := by
  obtain ⟨l, rfl⟩ : ∃ l : List UInt8, s = ⟨l.toArray⟩ := ⟨s.data.toList, by simp⟩
  have HA := Lib.hid (fun (W : World) (h : Below w.heap.size w W) => law05_awake W (hT.below h))
  by_cases h200 : 200 < l.length
  · have q1 : (200 < (l.length : Int)) = True := eq_true (by omega)
    have q1' : (200 < l.length) = True := eq_true h200
    clear h200 hT
    go_enter Tryd.func3, Tryd.ntmps3
    go_wp2_with fail
    refine (HA.out _ (Below.refl _ _)).mono ?_; rintro e w2 ⟨rfl, hb⟩
    have HB := Lib.hid hb
    clear hb
    go_wp2_with fail
    go_returns
    exact ⟨rfl, HB.out⟩
  have q1 : (200 < (l.length : Int)) = False := eq_false (by omega)
  have q1' : (200 < l.length) = False := eq_false h200
  have hl : l.length ≤ 1000000 := by omega
  have hcl : (cleanL l).length ≤ 1000000 := Nat.le_trans (clean_len l) (by omega)
  have H1 := Lib.hid (fun (W : World) (h : Below w.heap.size w W) => ident_Clean l W (hT.below h) hl)
  have H2 := Lib.hid (fun (W : World) (h : Below w.heap.size w W) => ident_Right l W (hT.below h) hl)
  have H3 := Lib.hid (fun (W : World) => ref05_Right l W hl)
  have H4 := Lib.hid (fun (W : World) (h : Below w.heap.size w W) => ident_Taken l W (hT.below h) hl)
  have H5 := Lib.hid (fun (W : World) => ref05_Taken l W hl)
  have H6 := Lib.hid (fun (W : World) => ref05_Clean l W hl)
  have H7 := Lib.hid (fun (W : World) (h : Below w.heap.size w W) => by have := ident_Right (cleanL l) W (hT.below h) hcl; rwa [right_clean] at this)
  have H8 := Lib.hid (fun (W : World) (h : Below w.heap.size w W) => by have := ident_Clean (cleanL l) W (hT.below h) hcl; rwa [clean_clean] at this)
  clear hT h200 hl hcl
  generalize cleanL l = c at *
  generalize rightB l = rb at *
  generalize takenB l = tb at *
  have eb : (c == c) = true := beq_self_eq_true c
  go_enter Tryd.func3, Tryd.ntmps3
  go_wp2_with fail
  refine (H1.out _ (Below.refl _ _)).mono ?_; rintro e w1 ⟨rfl, b1⟩
  have B1 := Lib.hid b1
  clear b1
  go_wp2_with fail
  refine (H2.out _ B1.out).mono ?_; rintro e w2 ⟨rfl, rfl⟩
  go_wp2_with fail
  refine (H3.out _).mono ?_; rintro e w3 ⟨rfl, b3⟩
  have B3 := Lib.hid (B1.out.trans (b3.mono B1.out.size))
  clear b3
  go_wp2_with fail
  refine (H4.out _ B3.out).mono ?_; rintro e w4 ⟨rfl, rfl⟩
  go_wp2_with fail
  refine (H5.out _).mono ?_; rintro e w5 ⟨rfl, b5⟩
  have B5 := Lib.hid (B3.out.trans (b5.mono B3.out.size))
  clear b5
  go_wp2_with fail
  refine (H6.out _).mono ?_; rintro e w6 ⟨rfl, b6⟩
  have B6 := Lib.hid (B5.out.trans (b6.mono B5.out.size))
  clear b6
  go_wp2_with fail
  refine (H7.out _ B6.out).mono ?_; rintro e w7 ⟨rfl, rfl⟩
  go_wp2_with fail
  refine (H8.out _ B6.out).mono ?_; rintro e w8 ⟨rfl, b8⟩
  have B8 := Lib.hid (B6.out.trans (b8.mono B6.out.size))
  clear b8
  go_wp2_with fail
  refine (HA.out _ B8.out).mono ?_; rintro e w9 ⟨rfl, b9⟩
  have B9 := Lib.hid (B8.out.trans (b9.mono B8.out.size))
  clear b9
  go_wp2_with fail
  go_returns
  exact ⟨rfl, B9.out⟩
end Go.Proofs.YthammifbpdoggaaDoor
