/- Layer 5: the law IdentUnique. -/
import Derived.Test.YthammifbpdoggaaDoorIdAwake
import Derived.Test.YthammifbpdoggaaDoorIdRefU
namespace Go.Proofs.YthammifbpdoggaaDoor
open Go.RowKit Go.Maps
set_option linter.unusedSimpArgs false
set_option linter.unusedVariables false
theorem row_sliceU {w : World} {v : Value} {n : Nat} {f : Nat → Value} (h : RowAt w v n f) (hn : 0 < n) : ∃ b off cap, v = .slice (some ⟨b, off, none⟩) n cap ∧ n ≤ cap ∧ cap ≤ 9223372036854775807 ∧ b < w.heap.size ∧ ∀ i, i < n → w.cell? ⟨b, off + i, none⟩ = some (f i) := by
  rcases h with ⟨_, _, _, h, _⟩ | ⟨b, off, cap, h1, h2, h3, h4, h5, h6⟩
  · omega
  · exact ⟨b, off, cap, h1, h3, h4, h5, h6⟩
set_option maxHeartbeats 4000000 in
theorem identUnique_walk (v : Value) (L : List (List UInt8)) (w : World) (hv : RowAt w v L.length (strV L)) (hT : IdTab w) : Calls Tryd.prog 4 #[v] w fun e w' => e = .returned (.bool true) ∧ Below w.heap.size w w' := by
  have HA := Lib.hid (fun (W : World) (h : Below w.heap.size w W) => law05_awake W (hT.below h))
  obtain ⟨a, cap, rfl, hcell⟩ := row_any hv
  obtain ⟨N, hN⟩ : ∃ N, L.length = N := ⟨_, rfl⟩
  have HN := Lib.hid hN
  have hN63 : (N : Int) ≤ 9223372036854775807 := by have := hv.le; omega
  rw [hN] at hcell hv ⊢
  have HCl := Lib.hid hcell
  have HV := Lib.hid hv
  have HT := Lib.hid hT
  clear hcell hv hT hN
  by_cases h40 : 40 < N
  · have q1 : (40 < (N : Int)) = True := eq_true (by omega)
    have q1' : (40 < N) = True := eq_true h40
    clear h40
    go_enter Tryd.func4, Tryd.ntmps4
    go_wp2_with fail
    refine (HA.out _ (Below.refl _ _)).mono ?_; rintro e w2 ⟨rfl, hb⟩
    have HB := Lib.hid hb
    clear hb
    go_wp2_with fail
    go_returns
    exact ⟨rfl, HB.out⟩
  have q1 : (40 < (N : Int)) = False := eq_false (by omega)
  have q1' : (40 < N) = False := eq_false h40
  have hN40 : N ≤ 40 := by omega
  clear h40
  go_enter Tryd.func4, Tryd.ntmps4
  go_wp2_with fail
  go_loopw [3] (fun jj wr => ∃ k : Nat, k ≤ N ∧ jj = .int .i64 k ∧ Hid (∀ j, j < k → (L.getD j []).length ≤ 100) ∧ wr = w) (fun jj _ => N - (intOf jj).toNat)
  case atStart => exact ⟨0, by omega, rfl, Lib.hid (fun j hj => by omega), rfl⟩
  case round =>
    obtain ⟨k, hk, rfl, hall, rfl⟩ := hrel
    by_cases hlt : k < N
    · have qk : ((k : Int) < (N : Int)) = True := eq_true (by omega)
      have qk' : (k < N) = True := eq_true hlt
      obtain ⟨b, off, rfl, hc1, hc2, hbw, hcell0⟩ := HCl.out k hlt
      have hc3 : cap ≤ 9223372036854775807 := hc2
      have hcell : wr.cell? ⟨b, off + k, none⟩ = some (.string ⟨(L.getD k []).toArray⟩) := hcell0
      clear hcell0 hc2 hbw
      obtain ⟨x, hx⟩ : ∃ x, L.getD k [] = x := ⟨_, rfl⟩
      have HX := Lib.hid hx
      rw [hx] at hcell
      clear hx
      have HLT := Lib.hid hlt
      clear hlt
      by_cases h100 : 100 < x.length
      · have q2 : (100 < (x.length : Int)) = True := eq_true (by omega)
        have q2' : (100 < x.length) = True := eq_true h100
        clear h100
        go_wp2_with fail
        refine (HA.out _ (Below.refl _ _)).mono ?_; rintro e w2 ⟨rfl, hb⟩
        have HB := Lib.hid hb
        clear hb
        go_wp2_with fail
        go_returns
        exact ⟨rfl, HB.out⟩
      · have q2 : (100 < (x.length : Int)) = False := eq_false (by omega)
        have q2' : (100 < x.length) = False := eq_false h100
        have HX1 := Lib.hid (show (L.getD k []).length ≤ 100 by rw [HX.out]; omega)
        clear h100
        go_wp2_with fail
        go_roundw
        case rel => exact ⟨k + 1, by have := HLT.out; omega, by simp, Lib.hid (fun j hj => by
          rcases (show j < k ∨ j = k by omega) with h3 | h3
          · exact hall.out j h3
          · rw [h3]; exact HX1.out), trivial⟩
        case measure => have := HLT.out; first | (simp [intOf]; done) | (simp [intOf]; omega)
    · obtain rfl : N = k := by omega
      have qk : ((N : Int) < (N : Int)) = False := eq_false (by omega)
      have qk' : (N < N) = False := eq_false (by omega)
      have HU := ident_Unique (.slice a N cap) L wr (by rw [HN.out]; exact HV.out) HT.out (by rw [HN.out]; exact hN40) (fun k hk => by have := hall.out k (by rw [← HN.out]; exact hk); omega)
      have HU2 := Lib.hid (fun (W : World) (h : Below wr.heap.size wr W) => ref05_Unique (.slice a N cap) L W (by rw [HN.out]; exact HV.out.below h) (by rw [HN.out]; exact hN40) (fun k hk => by have := hall.out k (by rw [← HN.out]; exact hk); omega))
      clear hlt hk
      rename World => HAw
      go_wp2_with fail
      refine HU.mono ?_; rintro e w1 ⟨r1, rfl, hr1, hb1⟩
      rw [HN.out] at hr1
      have HB1 := Lib.hid hb1
      have HR1 := Lib.hid hr1
      have hU2 := HU2.out w1 hb1
      rw [HN.out] at hU2
      clear hr1 hb1 HU HU2
      generalize uniqL L = U at *
      obtain ⟨a1, c1, rfl, hx1⟩ := row_any HR1.out
      clear hx1
      go_wp2_with fail
      refine hU2.mono ?_; rintro e w2 ⟨r2, rfl, hr2, hb2⟩
      have HR1 := Lib.hid (HR1.out.below hb2)
      have HB2 := Lib.hid (HB1.out.trans (hb2.mono HB1.out.size))
      obtain ⟨a2, c2, rfl, hx2⟩ := row_any hr2
      have HR2 := Lib.hid hr2
      clear hr2 hx2 hb2 hU2
      go_wp2_with fail
      go_loopw [6] (fun jj W => ∃ k : Nat, k ≤ N ∧ jj = .int .i64 k ∧ Hid (∃ n, W = w2.drewN n)) (fun jj _ => N - (intOf jj).toNat)
      case atStart => exact ⟨0, by omega, rfl, Lib.hid ⟨0, rfl⟩⟩
      case round =>
        obtain ⟨k, hk, rfl, hW⟩ := hrel
        by_cases hlt : k < N
        · have qk : ((k : Int) < (N : Int)) = True := eq_true (by omega)
          have qk' : (k < N) = True := eq_true hlt
          obtain ⟨d1, o1, c1', e1, g1, g2, g3, g4⟩ := row_sliceU HR1.out (by omega)
          obtain ⟨d2, o2, c2', e2, g5, g6, g7, g8⟩ := row_sliceU HR2.out (by omega)
          obtain ⟨rfl, _, rfl⟩ : a1 = some ⟨d1, o1, none⟩ ∧ True ∧ c1 = c1' := by injection e1 with x1 x2 x3; exact ⟨x1, trivial, x3⟩
          obtain ⟨rfl, _, rfl⟩ : a2 = some ⟨d2, o2, none⟩ ∧ True ∧ c2 = c2' := by injection e2 with x1 x2 x3; exact ⟨x1, trivial, x3⟩
          have HWc := Lib.hid (show ∀ p, wr.cell? p = w2.cell? p from by obtain ⟨n, rfl⟩ := hW.out; intro p; rfl)
          have k1 : wr.cell? ⟨d1, o1 + k, none⟩ = some (.string ⟨(U.getD k []).toArray⟩) := (HWc.out _).trans (g4 k hlt)
          have k2 : wr.cell? ⟨d2, o2 + k, none⟩ = some (.string ⟨(U.getD k []).toArray⟩) := (HWc.out _).trans (g8 k hlt)
          have HLT := Lib.hid hlt
          clear g4 g8 e1 e2 g3 g7 hlt
          obtain ⟨x, hx⟩ : ∃ x, U.getD k [] = x := ⟨_, rfl⟩
          rw [hx] at k1 k2
          clear hx
          have eb : (x != x) = false := by simp
          have eb2 : (x == x) = true := by simp
          go_wp2_with fail
          go_quiet (fail)
          go_wp2_with fail
          go_roundw
          case rel => exact ⟨k + 1, by have := HLT.out; omega, by simp, Lib.hid (by obtain ⟨n, e⟩ := hW.out; exact ⟨_, by rw [e, World.drewN_drewN]⟩)⟩
          case measure => have := HLT.out; first | (simp [intOf]; done) | (simp [intOf]; omega)
        · obtain rfl : N = k := by omega
          have qk : ((N : Int) < (N : Int)) = False := eq_false (by omega)
          have qk' : (N < N) = False := eq_false (by omega)
          have HBw := Lib.hid (show Below HAw.heap.size HAw wr from by obtain ⟨n, e⟩ := hW.out; rw [e]; exact HB2.out.trans (Below_drewN _ _ _))
          clear hlt hk
          go_wp2_with fail
          refine (HA.out _ HBw.out).mono ?_; rintro e w9 ⟨rfl, b9⟩
          have B9 := Lib.hid (HBw.out.trans (b9.mono HBw.out.size))
          clear b9
          go_wp2_with fail
          go_returns
          exact ⟨rfl, B9.out⟩
end Go.Proofs.YthammifbpdoggaaDoor
