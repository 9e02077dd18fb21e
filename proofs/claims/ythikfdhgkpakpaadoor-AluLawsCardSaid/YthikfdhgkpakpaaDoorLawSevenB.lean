/- Layer 7: the walk of AluLaws. -/
import Derived.Test.YthikfdhgkpakpaaDoorLawSeven
import Derived.Test.YthikfdhgkpakpaaDoorAluPure
namespace Go.Proofs.YthikfdhgkpakpaaDoor
open Go.RowKit
set_option maxRecDepth 100000 in
set_option maxHeartbeats 4000000 in
theorem aluLaws_walk (t a b : Int) (w : World) (hs : KSizes w) (hg : AGoes w) : Calls Tryd.prog 5 #[.int .i64 t, .int .i64 a, .int .i64 b] w
    fun e w' => e = .returned (.bool true) ∧ Below w.heap.size w w' := by
  have hA : 1 ≤ t ∧ t ≤ 6 → kIn t (kWrap t a) = true := fun h => kIn_wrap h a
  have hB : 1 ≤ t ∧ t ≤ 6 → kIn t (kWrap t b) = true := fun h => kIn_wrap h b
  obtain ⟨A, eA⟩ : ∃ A, kWrap t a = A := ⟨_, rfl⟩
  obtain ⟨B, eB⟩ : ∃ B, kWrap t b = B := ⟨_, rfl⟩
  rw [eA] at hA
  rw [eB] at hB
  have HA := Lib.hid hA
  have HB := Lib.hid hB
  clear hA hB
  have HeA := Lib.hid eA
  have HeB := Lib.hid eB
  clear eA eB
  obtain ⟨g11, e11⟩ : ∃ g, aGoes 11 t = g := ⟨_, rfl⟩
  have E11 := Lib.hid e11
  clear e11
  go_enter Tryd.func5, Tryd.ntmps5
  go_wp2_with fail
  refine (kind_Wrap _ _ _).mono ?_; rintro e w' ⟨rfl, rfl⟩
  go_wp2_with fail
  refine (kind_Wrap _ _ _).mono ?_; rintro e w' ⟨rfl, rfl⟩
  rw [HeA.out, HeB.out]
  clear HeA HeB
  go_wp2_with fail
  refine (alu_Goes _ _ _ hg).mono ?_; rintro e w' ⟨rfl, rfl⟩
  rw [E11.out]
  cases g11 with
  | false =>
    go_wp2_with fail
    go_loopw [19] (fun o wr => ∃ n : Int, o = .int .i64 n ∧ (n = 20 ∨ n = 22 ∨ n = 24 ∨ n = 26) ∧ Below w.heap.size w wr) (fun o _ => 26 - (intOf o).toNat)
    case atStart => exact ⟨20, rfl, by omega, Below.refl _ _⟩
    case round =>
      obtain ⟨k, rfl, hk, hb⟩ := hrel
      rcases hk with rfl | rfl | rfl | rfl
      · obtain ⟨x, y, f, g, p, q, e1, e2, hpq⟩ := law_cmp 20 21 t A B (by omega)
        have E1 := Lib.hid e1
        have E2 := Lib.hid e2
        clear e1 e2
        go_wp2_with fail
        refine (alu_Bin _ _ _ _ _ (hg.below (hb.alloc hb.size _)) (hs.below (hb.alloc hb.size _))).mono ?_; rintro e w' ⟨rfl, rfl⟩
        rw [E1.out]
        go_wp2_with fail
        refine (alu_Bin _ _ _ _ _ (hg.below (hb.alloc hb.size _)) (hs.below (hb.alloc hb.size _))).mono ?_; rintro e w' ⟨rfl, rfl⟩
        rw [E2.out]
        clear E1 E2
        rcases hpq with rfl | ⟨rfl, ⟨rfl, rfl⟩ | ⟨rfl, rfl⟩⟩
        all_goals
          go_wp2_with fail
          go_roundw
          case rel => exact ⟨22, rfl, by omega, hb.alloc hb.size _⟩
          case measure => simp [intOf]
      · obtain ⟨x, y, f, g, p, q, e1, e2, hpq⟩ := law_cmp 22 25 t A B (by omega)
        have E1 := Lib.hid e1
        have E2 := Lib.hid e2
        clear e1 e2
        go_wp2_with fail
        refine (alu_Bin _ _ _ _ _ (hg.below (hb.alloc hb.size _)) (hs.below (hb.alloc hb.size _))).mono ?_; rintro e w' ⟨rfl, rfl⟩
        rw [E1.out]
        go_wp2_with fail
        refine (alu_Bin _ _ _ _ _ (hg.below (hb.alloc hb.size _)) (hs.below (hb.alloc hb.size _))).mono ?_; rintro e w' ⟨rfl, rfl⟩
        rw [E2.out]
        clear E1 E2
        rcases hpq with rfl | ⟨rfl, ⟨rfl, rfl⟩ | ⟨rfl, rfl⟩⟩
        all_goals
          go_wp2_with fail
          go_roundw
          case rel => exact ⟨24, rfl, by omega, hb.alloc hb.size _⟩
          case measure => simp [intOf]
      · obtain ⟨x, y, f, g, p, q, e1, e2, hpq⟩ := law_cmp 24 23 t A B (by omega)
        have E1 := Lib.hid e1
        have E2 := Lib.hid e2
        clear e1 e2
        go_wp2_with fail
        refine (alu_Bin _ _ _ _ _ (hg.below (hb.alloc hb.size _)) (hs.below (hb.alloc hb.size _))).mono ?_; rintro e w' ⟨rfl, rfl⟩
        rw [E1.out]
        go_wp2_with fail
        refine (alu_Bin _ _ _ _ _ (hg.below (hb.alloc hb.size _)) (hs.below (hb.alloc hb.size _))).mono ?_; rintro e w' ⟨rfl, rfl⟩
        rw [E2.out]
        clear E1 E2
        rcases hpq with rfl | ⟨rfl, ⟨rfl, rfl⟩ | ⟨rfl, rfl⟩⟩
        all_goals
          go_wp2_with fail
          go_roundw
          case rel => exact ⟨26, rfl, by omega, hb.alloc hb.size _⟩
          case measure => simp [intOf]
      · obtain ⟨g14, e14⟩ : ∃ g, aGoes 14 t = g := ⟨_, rfl⟩
        have E14 := Lib.hid e14
        clear e14
        have hg' := hg.below hb
        have hs' := hs.below hb
        go_wp2_with fail
        refine (alu_Goes _ _ _ hg').mono ?_; rintro e w' ⟨rfl, rfl⟩
        rw [E14.out]
        cases g14 with
        | false =>
          go_wp2_with fail
          refine (law07_awake _ hg' hs').mono ?_; rintro e w' ⟨rfl, rfl⟩
          go_wp2_with fail
          go_ret
          exact ⟨rfl, hb⟩
        | true =>
          obtain ⟨c, n, x, y, e1, e2, e3, e4, e5⟩ := law_not E14.out (HA.out (aGoes_ops E14.out).2.2) (HB.out (aGoes_ops E14.out).2.2)
          have E1 := Lib.hid e1
          have E2 := Lib.hid e2
          have E3 := Lib.hid e3
          have E4 := Lib.hid e4
          have E5 := Lib.hid e5
          clear e1 e2 e3 e4 e5
          go_wp2_with fail
          refine (alu_Bin _ _ _ _ _ hg' hs').mono ?_; rintro e w' ⟨rfl, rfl⟩
          rw [E1.out]
          go_wp2_with fail
          refine (alu_Un _ _ _ _ hg').mono ?_; rintro e w' ⟨rfl, rfl⟩
          rw [E2.out]
          go_wp2_with fail
          refine (alu_Un _ _ _ _ hg').mono ?_; rintro e w' ⟨rfl, rfl⟩
          rw [E3.out]
          go_wp2_with fail
          refine (alu_Un _ _ _ _ hg').mono ?_; rintro e w' ⟨rfl, rfl⟩
          rw [E4.out]
          go_wp2_with fail
          refine (alu_Bin _ _ _ _ _ hg' hs').mono ?_; rintro e w' ⟨rfl, rfl⟩
          rw [E5.out]
          go_wp2_with fail
          refine (law07_awake _ hg' hs').mono ?_; rintro e w' ⟨rfl, rfl⟩
          go_wp2_with fail
          go_ret
          exact ⟨rfl, hb⟩
  | true =>
    by_cases h0 : B = 0
    · subst h0
      go_wp2_with fail
      go_loopw [19] (fun o wr => ∃ n : Int, o = .int .i64 n ∧ (n = 20 ∨ n = 22 ∨ n = 24 ∨ n = 26) ∧ Below w.heap.size w wr) (fun o _ => 26 - (intOf o).toNat)
      case atStart => exact ⟨20, rfl, by omega, Below.refl _ _⟩
      case round =>
        obtain ⟨k, rfl, hk, hb⟩ := hrel
        rcases hk with rfl | rfl | rfl | rfl
        · obtain ⟨x, y, f, g, p, q, e1, e2, hpq⟩ := law_cmp 20 21 t A 0 (by omega)
          have E1 := Lib.hid e1
          have E2 := Lib.hid e2
          clear e1 e2
          go_wp2_with fail
          refine (alu_Bin _ _ _ _ _ (hg.below (hb.alloc hb.size _)) (hs.below (hb.alloc hb.size _))).mono ?_; rintro e w' ⟨rfl, rfl⟩
          rw [E1.out]
          go_wp2_with fail
          refine (alu_Bin _ _ _ _ _ (hg.below (hb.alloc hb.size _)) (hs.below (hb.alloc hb.size _))).mono ?_; rintro e w' ⟨rfl, rfl⟩
          rw [E2.out]
          clear E1 E2
          rcases hpq with rfl | ⟨rfl, ⟨rfl, rfl⟩ | ⟨rfl, rfl⟩⟩
          all_goals
            go_wp2_with fail
            go_roundw
            case rel => exact ⟨22, rfl, by omega, hb.alloc hb.size _⟩
            case measure => simp [intOf]
        · obtain ⟨x, y, f, g, p, q, e1, e2, hpq⟩ := law_cmp 22 25 t A 0 (by omega)
          have E1 := Lib.hid e1
          have E2 := Lib.hid e2
          clear e1 e2
          go_wp2_with fail
          refine (alu_Bin _ _ _ _ _ (hg.below (hb.alloc hb.size _)) (hs.below (hb.alloc hb.size _))).mono ?_; rintro e w' ⟨rfl, rfl⟩
          rw [E1.out]
          go_wp2_with fail
          refine (alu_Bin _ _ _ _ _ (hg.below (hb.alloc hb.size _)) (hs.below (hb.alloc hb.size _))).mono ?_; rintro e w' ⟨rfl, rfl⟩
          rw [E2.out]
          clear E1 E2
          rcases hpq with rfl | ⟨rfl, ⟨rfl, rfl⟩ | ⟨rfl, rfl⟩⟩
          all_goals
            go_wp2_with fail
            go_roundw
            case rel => exact ⟨24, rfl, by omega, hb.alloc hb.size _⟩
            case measure => simp [intOf]
        · obtain ⟨x, y, f, g, p, q, e1, e2, hpq⟩ := law_cmp 24 23 t A 0 (by omega)
          have E1 := Lib.hid e1
          have E2 := Lib.hid e2
          clear e1 e2
          go_wp2_with fail
          refine (alu_Bin _ _ _ _ _ (hg.below (hb.alloc hb.size _)) (hs.below (hb.alloc hb.size _))).mono ?_; rintro e w' ⟨rfl, rfl⟩
          rw [E1.out]
          go_wp2_with fail
          refine (alu_Bin _ _ _ _ _ (hg.below (hb.alloc hb.size _)) (hs.below (hb.alloc hb.size _))).mono ?_; rintro e w' ⟨rfl, rfl⟩
          rw [E2.out]
          clear E1 E2
          rcases hpq with rfl | ⟨rfl, ⟨rfl, rfl⟩ | ⟨rfl, rfl⟩⟩
          all_goals
            go_wp2_with fail
            go_roundw
            case rel => exact ⟨26, rfl, by omega, hb.alloc hb.size _⟩
            case measure => simp [intOf]
        · obtain ⟨g14, e14⟩ : ∃ g, aGoes 14 t = g := ⟨_, rfl⟩
          have E14 := Lib.hid e14
          clear e14
          have hg' := hg.below hb
          have hs' := hs.below hb
          go_wp2_with fail
          refine (alu_Goes _ _ _ hg').mono ?_; rintro e w' ⟨rfl, rfl⟩
          rw [E14.out]
          cases g14 with
          | false =>
            go_wp2_with fail
            refine (law07_awake _ hg' hs').mono ?_; rintro e w' ⟨rfl, rfl⟩
            go_wp2_with fail
            go_ret
            exact ⟨rfl, hb⟩
          | true =>
            obtain ⟨c, n, x, y, e1, e2, e3, e4, e5⟩ := law_not E14.out (HA.out (aGoes_ops E14.out).2.2) (HB.out (aGoes_ops E14.out).2.2)
            have E1 := Lib.hid e1
            have E2 := Lib.hid e2
            have E3 := Lib.hid e3
            have E4 := Lib.hid e4
            have E5 := Lib.hid e5
            clear e1 e2 e3 e4 e5
            go_wp2_with fail
            refine (alu_Bin _ _ _ _ _ hg' hs').mono ?_; rintro e w' ⟨rfl, rfl⟩
            rw [E1.out]
            go_wp2_with fail
            refine (alu_Un _ _ _ _ hg').mono ?_; rintro e w' ⟨rfl, rfl⟩
            rw [E2.out]
            go_wp2_with fail
            refine (alu_Un _ _ _ _ hg').mono ?_; rintro e w' ⟨rfl, rfl⟩
            rw [E3.out]
            go_wp2_with fail
            refine (alu_Un _ _ _ _ hg').mono ?_; rintro e w' ⟨rfl, rfl⟩
            rw [E4.out]
            go_wp2_with fail
            refine (alu_Bin _ _ _ _ _ hg' hs').mono ?_; rintro e w' ⟨rfl, rfl⟩
            rw [E5.out]
            go_wp2_with fail
            refine (law07_awake _ hg' hs').mono ?_; rintro e w' ⟨rfl, rfl⟩
            go_wp2_with fail
            go_ret
            exact ⟨rfl, hb⟩
    · obtain ⟨q, m, p, e1, e2, e3, e4⟩ := law_div E11.out (HA.out (aGoes_ops E11.out).2.2) (HB.out (aGoes_ops E11.out).2.2) h0
      have E1 := Lib.hid e1
      have E2 := Lib.hid e2
      have E3 := Lib.hid e3
      have E4 := Lib.hid e4
      clear e1 e2 e3 e4
      go_wp2_with fail
      refine (alu_Bin _ _ _ _ _ hg hs).mono ?_; rintro e w' ⟨rfl, rfl⟩
      rw [E1.out]
      go_wp2_with fail
      refine (alu_Bin _ _ _ _ _ hg hs).mono ?_; rintro e w' ⟨rfl, rfl⟩
      rw [E2.out]
      go_wp2_with fail
      refine (alu_Bin _ _ _ _ _ hg hs).mono ?_; rintro e w' ⟨rfl, rfl⟩
      rw [E3.out]
      go_wp2_with fail
      refine (alu_Bin _ _ _ _ _ hg hs).mono ?_; rintro e w' ⟨rfl, rfl⟩
      rw [E4.out]
      clear E1 E2 E3 E4
      go_wp2_with fail
      go_loopw [19] (fun o wr => ∃ n : Int, o = .int .i64 n ∧ (n = 20 ∨ n = 22 ∨ n = 24 ∨ n = 26) ∧ Below w.heap.size w wr) (fun o _ => 26 - (intOf o).toNat)
      case atStart => exact ⟨20, rfl, by omega, Below.refl _ _⟩
      case round =>
        obtain ⟨k, rfl, hk, hb⟩ := hrel
        rcases hk with rfl | rfl | rfl | rfl
        · obtain ⟨x, y, f, g, p, q, e1, e2, hpq⟩ := law_cmp 20 21 t A B (by omega)
          have E1 := Lib.hid e1
          have E2 := Lib.hid e2
          clear e1 e2
          go_wp2_with fail
          refine (alu_Bin _ _ _ _ _ (hg.below (hb.alloc hb.size _)) (hs.below (hb.alloc hb.size _))).mono ?_; rintro e w' ⟨rfl, rfl⟩
          rw [E1.out]
          go_wp2_with fail
          refine (alu_Bin _ _ _ _ _ (hg.below (hb.alloc hb.size _)) (hs.below (hb.alloc hb.size _))).mono ?_; rintro e w' ⟨rfl, rfl⟩
          rw [E2.out]
          clear E1 E2
          rcases hpq with rfl | ⟨rfl, ⟨rfl, rfl⟩ | ⟨rfl, rfl⟩⟩
          all_goals
            go_wp2_with fail
            go_roundw
            case rel => exact ⟨22, rfl, by omega, hb.alloc hb.size _⟩
            case measure => simp [intOf]
        · obtain ⟨x, y, f, g, p, q, e1, e2, hpq⟩ := law_cmp 22 25 t A B (by omega)
          have E1 := Lib.hid e1
          have E2 := Lib.hid e2
          clear e1 e2
          go_wp2_with fail
          refine (alu_Bin _ _ _ _ _ (hg.below (hb.alloc hb.size _)) (hs.below (hb.alloc hb.size _))).mono ?_; rintro e w' ⟨rfl, rfl⟩
          rw [E1.out]
          go_wp2_with fail
          refine (alu_Bin _ _ _ _ _ (hg.below (hb.alloc hb.size _)) (hs.below (hb.alloc hb.size _))).mono ?_; rintro e w' ⟨rfl, rfl⟩
          rw [E2.out]
          clear E1 E2
          rcases hpq with rfl | ⟨rfl, ⟨rfl, rfl⟩ | ⟨rfl, rfl⟩⟩
          all_goals
            go_wp2_with fail
            go_roundw
            case rel => exact ⟨24, rfl, by omega, hb.alloc hb.size _⟩
            case measure => simp [intOf]
        · obtain ⟨x, y, f, g, p, q, e1, e2, hpq⟩ := law_cmp 24 23 t A B (by omega)
          have E1 := Lib.hid e1
          have E2 := Lib.hid e2
          clear e1 e2
          go_wp2_with fail
          refine (alu_Bin _ _ _ _ _ (hg.below (hb.alloc hb.size _)) (hs.below (hb.alloc hb.size _))).mono ?_; rintro e w' ⟨rfl, rfl⟩
          rw [E1.out]
          go_wp2_with fail
          refine (alu_Bin _ _ _ _ _ (hg.below (hb.alloc hb.size _)) (hs.below (hb.alloc hb.size _))).mono ?_; rintro e w' ⟨rfl, rfl⟩
          rw [E2.out]
          clear E1 E2
          rcases hpq with rfl | ⟨rfl, ⟨rfl, rfl⟩ | ⟨rfl, rfl⟩⟩
          all_goals
            go_wp2_with fail
            go_roundw
            case rel => exact ⟨26, rfl, by omega, hb.alloc hb.size _⟩
            case measure => simp [intOf]
        · obtain ⟨g14, e14⟩ : ∃ g, aGoes 14 t = g := ⟨_, rfl⟩
          have E14 := Lib.hid e14
          clear e14
          have hg' := hg.below hb
          have hs' := hs.below hb
          go_wp2_with fail
          refine (alu_Goes _ _ _ hg').mono ?_; rintro e w' ⟨rfl, rfl⟩
          rw [E14.out]
          cases g14 with
          | false =>
            go_wp2_with fail
            refine (law07_awake _ hg' hs').mono ?_; rintro e w' ⟨rfl, rfl⟩
            go_wp2_with fail
            go_ret
            exact ⟨rfl, hb⟩
          | true =>
            obtain ⟨c, n, x, y, e1, e2, e3, e4, e5⟩ := law_not E14.out (HA.out (aGoes_ops E14.out).2.2) (HB.out (aGoes_ops E14.out).2.2)
            have E1 := Lib.hid e1
            have E2 := Lib.hid e2
            have E3 := Lib.hid e3
            have E4 := Lib.hid e4
            have E5 := Lib.hid e5
            clear e1 e2 e3 e4 e5
            go_wp2_with fail
            refine (alu_Bin _ _ _ _ _ hg' hs').mono ?_; rintro e w' ⟨rfl, rfl⟩
            rw [E1.out]
            go_wp2_with fail
            refine (alu_Un _ _ _ _ hg').mono ?_; rintro e w' ⟨rfl, rfl⟩
            rw [E2.out]
            go_wp2_with fail
            refine (alu_Un _ _ _ _ hg').mono ?_; rintro e w' ⟨rfl, rfl⟩
            rw [E3.out]
            go_wp2_with fail
            refine (alu_Un _ _ _ _ hg').mono ?_; rintro e w' ⟨rfl, rfl⟩
            rw [E4.out]
            go_wp2_with fail
            refine (alu_Bin _ _ _ _ _ hg' hs').mono ?_; rintro e w' ⟨rfl, rfl⟩
            rw [E5.out]
            go_wp2_with fail
            refine (law07_awake _ hg' hs').mono ?_; rintro e w' ⟨rfl, rfl⟩
            go_wp2_with fail
            go_ret
            exact ⟨rfl, hb⟩
end Go.Proofs.YthikfdhgkpakpaaDoor
