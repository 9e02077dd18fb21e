/- Layer 9: the walk of CountRises. -/
import Derived.Test.YtlkikadijlhngaaRises
import Derived.Test.YtlkikadijlhngaaHeldTill
import Derived.LoopTactic
import Derived.Deep.CutBlock
import Derived.Deep.DeepCutAuto
namespace Go.Proofs.Ytlkikadijlhngaa
open Go.RowKit
set_option linter.unusedSimpArgs false
set_option linter.unusedVariables false
def RWorld (w : World) (up dn bo : Int) (p q : Bool) (wr : World) : Prop :=
  ∃ a0 a3 b0 b3 c0 c1 c5 c6 l d, wr = wmore ((((w.alloc (.cells #[.int .i64 a0, .int .i64 0, .int .i64 0, .int .i64 a3, .int .i64 up, .int .i64 (bnum p), .int .i64 0, .int .i64 0, .int .i64 0, .int .i64 0] 24)).alloc (.cells #[.int .i64 b0, .int .i64 0, .int .i64 0, .int .i64 b3, .int .i64 (-dn), .int .i64 (bnum q), .int .i64 0, .int .i64 0, .int .i64 0, .int .i64 0] 24)).alloc (.cells #[.int .i64 c0, .int .i64 c1, .int .i64 0, .int .i64 0, .int .i64 0, .int .i64 c5, .int .i64 c6, .int .i64 bo, .int .i64 (bnum p), .int .i64 (bnum q)] 24)).alloc (.cells #[.bool p, .bool q] 30)) l d
set_option maxRecDepth 100000 in
set_option maxHeartbeats 16000000 in
theorem countRises_walk (v : Value) (n : Nat) (F G : Nat → Bool) (w : World) (hv : Row2At w v n (fun i => .bool (F i)) (fun i => .bool (G i))) :
    Calls Try.prog 4 #[v] w fun e w' => e = .returned (.bool true) ∧ Below w.heap.size w w' := by
  have mc := @more_cell
  have mf := @more_frozen
  have ms := @more_set
  have mm := more_more
  have md := more_drewN
  have md1 := more_drew
  have mcp := @cell_past
  rcases hv with ⟨a, cap, rfl, rfl⟩ | ⟨b, off, cap, rfl, h1, h2, h3, h4, hcell⟩
  · go_enter Try.func4, Try.ntmps4
    go_wp2_with fail
    refine wp_loop_rounds 1 ?_
    rw [rounds_succ]
    go_wp2_with fail
    refine (law09_awake _).mono ?_; rintro e w1 ⟨rfl, hb⟩
    have hB : Below w.heap.size w w1 := Below.trans (by (repeat' (first | (with_reducible exact Below.refl _ _) | (with_reducible assumption) | (with_reducible refine below_drewN ?_ _) | (with_reducible refine Below.alloc ?_ ?_ _) | (with_reducible refine Below.drew ?_) | (with_reducible refine Below.setCell ?_ ?_ _) | go_size))) (hb.mono (by simp <;> omega))
    go_wp2_with fail
    go_ret
    exact ⟨rfl, hB⟩
  · have h3' : cap ≤ 9223372036854775807 := by unfold maxLen at h3; omega
    have hb1 : b < w.heap.size + 1 := by omega
    have hb2 : b < w.heap.size + 1 + 1 := by omega
    have hb3 : b < w.heap.size + 1 + 1 + 1 := by omega
    have hb4 : b < w.heap.size + 1 + 1 + 1 + 1 := by omega
    by_cases hn : 100 < n
    · go_enter Try.func4, Try.ntmps4
      go_wp2_with fail
      refine (law09_awake _).mono ?_; rintro e w1 ⟨rfl, hb⟩
      go_wp2_with fail
      go_ret
      exact ⟨rfl, hb⟩
    · go_enter Try.func4, Try.ntmps4
      go_wp2_with fail
      go_loopw [7, 8, 9, 10] (fun s7 s8 s9 s10 wr => ∃ k : Nat, k ≤ n ∧ s10 = .int .i64 k ∧ s7 = .int .i64 (ups F k) ∧ s8 = .int .i64 (ups G k) ∧ s9 = .int .i64 (bth F G k) ∧ RWorld w (ups F k) (ups G k) (bth F G k) (prv F k) (prv G k) wr) (fun _ _ _ s10 _ => n - (intOf s10).toNat)
      case atStart => exact ⟨0, by omega, rfl, rfl, rfl, rfl, 0, 0, 0, 0, 0, 0, 0, 0, #[], _, more_start _⟩
      case round =>
        obtain ⟨k, hk, rfl, rfl, rfl, rfl, a0, a3, b0, b3, c0, c1, c5, c6, l, d, rfl⟩ := hrel
        by_cases hlt : k < n
        · obtain ⟨hc1, hc2⟩ := hcell k hlt
          obtain ⟨v1, v2⟩ := ups_bd F k
          obtain ⟨v3, v4⟩ := ups_bd G k
          obtain ⟨v5, v6⟩ := bth_bd F G k
          have HU := Lib.hid (show ups F (k + 1) = ups F k + bnum (F k && !prv F k) from rfl)
          have HD := Lib.hid (show ups G (k + 1) = ups G k + bnum (G k && !prv G k) from rfl)
          have HB := Lib.hid (show bth F G (k + 1) = bth F G k + bnum ((F k && !prv F k) && !(G k && !prv G k)) - bnum ((G k && !prv G k) && !(F k && !prv F k)) from rfl)
          have HP := Lib.hid (show prv F (k + 1) = F k from rfl)
          have HQ := Lib.hid (show prv G (k + 1) = G k from rfl)
          clear hcell
          generalize ups F k = up at *
          generalize ups G k = dn at *
          generalize bth F G k = bo at *
          generalize F k = f at *
          generalize G k = g at *
          generalize prv F k = p at *
          generalize prv G k = q at *
          have w1 : -9223372036854775808 ≤ -dn := by omega
          obtain ⟨a3', hA⟩ := riseA f p (bnum f) a3 up rfl (by omega)
          obtain ⟨b3', hB'⟩ := riseB g q (bnum g) b3 dn rfl (by omega)
          obtain ⟨c5', c6', hC⟩ := riseC f g p q (bnum f) (bnum g) c5 c6 bo rfl rfl (by omega)
          obtain ⟨A4, hA4⟩ : ∃ z, up + bnum (f && !p) = z := ⟨_, rfl⟩
          obtain ⟨B4, hB4⟩ : ∃ z, -dn - bnum (g && !q) = z := ⟨_, rfl⟩
          obtain ⟨C7, hC7⟩ : ∃ z, bo + bnum ((f && !p) && !(g && !q)) - bnum ((g && !q) && !(f && !p)) = z := ⟨_, rfl⟩
          rw [hA4] at hA
          rw [hB4] at hB'
          rw [hC7] at hC
          have HA4 := Lib.hid hA4
          have HB4 := Lib.hid hB4
          have HC7 := Lib.hid hC7
          have hbA : ∀ x ∈ [up, 0], -9223372036854775808 ≤ x ∧ x ≤ 9223372036854775807 := by intro x hx; simp at hx; rcases hx with rfl | rfl <;> omega
          have hbB : ∀ x ∈ [-dn, 0], -9223372036854775808 ≤ x ∧ x ≤ 9223372036854775807 := by intro x hx; simp at hx; rcases hx with rfl | rfl <;> omega
          have hbC : ∀ x ∈ [0, bo], -9223372036854775808 ≤ x ∧ x ≤ 9223372036854775807 := by intro x hx; simp at hx; rcases hx with rfl | rfl <;> omega
          have HbA := Lib.hid hbA
          have HbB := Lib.hid hbB
          have HbC := Lib.hid hbC
          clear hA4 hB4 hC7 hbA hbB hbC
          have Ha := Lib.hid hA
          have Hb := Lib.hid hB'
          have Hc := Lib.hid hC
          clear hA hB' hC
          go_upto_region 9 with fail
          go_cut [11, 12] from 23 to 42 (fun s11 s12 wx => s11 = .bool (f && !p) ∧ s12 = .bool (g && !q) ∧ ∃ l' d', wx = wmore ((((w.alloc (.cells #[.int .i64 a0, .int .i64 0, .int .i64 0, .int .i64 a3, .int .i64 up, .int .i64 (bnum p), .int .i64 0, .int .i64 0, .int .i64 0, .int .i64 0] 24)).alloc (.cells #[.int .i64 b0, .int .i64 0, .int .i64 0, .int .i64 b3, .int .i64 (-dn), .int .i64 (bnum q), .int .i64 0, .int .i64 0, .int .i64 0, .int .i64 0] 24)).alloc (.cells #[.int .i64 c0, .int .i64 c1, .int .i64 0, .int .i64 0, .int .i64 0, .int .i64 c5, .int .i64 c6, .int .i64 bo, .int .i64 (bnum p), .int .i64 (bnum q)] 24)).alloc (.cells #[.bool p, .bool q] 30)) l' d')
          case first =>
            cases f <;> cases g
            · obtain ⟨W, hW⟩ : ∃ W, W = wmore ((((w.alloc (.cells #[.int .i64 a0, .int .i64 0, .int .i64 0, .int .i64 a3, .int .i64 up, .int .i64 (bnum p), .int .i64 0, .int .i64 0, .int .i64 0, .int .i64 0] 24)).alloc (.cells #[.int .i64 b0, .int .i64 0, .int .i64 0, .int .i64 b3, .int .i64 (-dn), .int .i64 (bnum q), .int .i64 0, .int .i64 0, .int .i64 0, .int .i64 0] 24)).alloc (.cells #[.int .i64 c0, .int .i64 c1, .int .i64 0, .int .i64 0, .int .i64 0, .int .i64 c5, .int .i64 c6, .int .i64 bo, .int .i64 (bnum p), .int .i64 (bnum q)] 24)).alloc (.cells #[.bool p, .bool q] 30)) l d := ⟨_, rfl⟩
              have e1 : W.cell? ⟨w.heap.size + 1 + 1 + 1, 0, none⟩ = some (.bool p) := by rw [hW, more_cell _ _ _ (by simp), cell_at (by simp)]; rfl
              have e2 : W.cell? ⟨w.heap.size + 1 + 1 + 1, 1, none⟩ = some (.bool q) := by rw [hW, more_cell _ _ _ (by simp), cell_at (by simp)]; rfl
              have e3 : W.cell? ⟨b, off + k * 2, none⟩ = some (.bool false) := by rw [hW, more_cell _ _ _ (by simp <;> omega), cell_past (by simp <;> omega), cell_past (by simp <;> omega), cell_past (by simp <;> omega), cell_past h4]; exact hc1
              have e4 : W.cell? ⟨b, off + k * 2 + 1, none⟩ = some (.bool false) := by rw [hW, more_cell _ _ _ (by simp <;> omega), cell_past (by simp <;> omega), cell_past (by simp <;> omega), cell_past (by simp <;> omega), cell_past h4]; exact hc2
              have HW := Lib.hid hW
              rw [← hW]
              clear hW
              go_quiet (fail)
              rw [HW.out]
              go_wp2_with fail
              go_meet
              exact ⟨rfl, rfl, _, _, rfl⟩
            · obtain ⟨W, hW⟩ : ∃ W, W = wmore ((((w.alloc (.cells #[.int .i64 a0, .int .i64 0, .int .i64 0, .int .i64 a3, .int .i64 up, .int .i64 (bnum p), .int .i64 0, .int .i64 0, .int .i64 0, .int .i64 0] 24)).alloc (.cells #[.int .i64 b0, .int .i64 0, .int .i64 0, .int .i64 b3, .int .i64 (-dn), .int .i64 (bnum q), .int .i64 0, .int .i64 0, .int .i64 0, .int .i64 0] 24)).alloc (.cells #[.int .i64 c0, .int .i64 c1, .int .i64 0, .int .i64 0, .int .i64 0, .int .i64 c5, .int .i64 c6, .int .i64 bo, .int .i64 (bnum p), .int .i64 (bnum q)] 24)).alloc (.cells #[.bool p, .bool q] 30)) l d := ⟨_, rfl⟩
              have e1 : W.cell? ⟨w.heap.size + 1 + 1 + 1, 0, none⟩ = some (.bool p) := by rw [hW, more_cell _ _ _ (by simp), cell_at (by simp)]; rfl
              have e2 : W.cell? ⟨w.heap.size + 1 + 1 + 1, 1, none⟩ = some (.bool q) := by rw [hW, more_cell _ _ _ (by simp), cell_at (by simp)]; rfl
              have e3 : W.cell? ⟨b, off + k * 2, none⟩ = some (.bool false) := by rw [hW, more_cell _ _ _ (by simp <;> omega), cell_past (by simp <;> omega), cell_past (by simp <;> omega), cell_past (by simp <;> omega), cell_past h4]; exact hc1
              have e4 : W.cell? ⟨b, off + k * 2 + 1, none⟩ = some (.bool true) := by rw [hW, more_cell _ _ _ (by simp <;> omega), cell_past (by simp <;> omega), cell_past (by simp <;> omega), cell_past (by simp <;> omega), cell_past h4]; exact hc2
              have HW := Lib.hid hW
              rw [← hW]
              clear hW
              go_quiet (fail)
              rw [HW.out]
              go_wp2_with fail
              go_meet
              exact ⟨rfl, rfl, _, _, rfl⟩
            · obtain ⟨W, hW⟩ : ∃ W, W = wmore ((((w.alloc (.cells #[.int .i64 a0, .int .i64 0, .int .i64 0, .int .i64 a3, .int .i64 up, .int .i64 (bnum p), .int .i64 0, .int .i64 0, .int .i64 0, .int .i64 0] 24)).alloc (.cells #[.int .i64 b0, .int .i64 0, .int .i64 0, .int .i64 b3, .int .i64 (-dn), .int .i64 (bnum q), .int .i64 0, .int .i64 0, .int .i64 0, .int .i64 0] 24)).alloc (.cells #[.int .i64 c0, .int .i64 c1, .int .i64 0, .int .i64 0, .int .i64 0, .int .i64 c5, .int .i64 c6, .int .i64 bo, .int .i64 (bnum p), .int .i64 (bnum q)] 24)).alloc (.cells #[.bool p, .bool q] 30)) l d := ⟨_, rfl⟩
              have e1 : W.cell? ⟨w.heap.size + 1 + 1 + 1, 0, none⟩ = some (.bool p) := by rw [hW, more_cell _ _ _ (by simp), cell_at (by simp)]; rfl
              have e2 : W.cell? ⟨w.heap.size + 1 + 1 + 1, 1, none⟩ = some (.bool q) := by rw [hW, more_cell _ _ _ (by simp), cell_at (by simp)]; rfl
              have e3 : W.cell? ⟨b, off + k * 2, none⟩ = some (.bool true) := by rw [hW, more_cell _ _ _ (by simp <;> omega), cell_past (by simp <;> omega), cell_past (by simp <;> omega), cell_past (by simp <;> omega), cell_past h4]; exact hc1
              have e4 : W.cell? ⟨b, off + k * 2 + 1, none⟩ = some (.bool false) := by rw [hW, more_cell _ _ _ (by simp <;> omega), cell_past (by simp <;> omega), cell_past (by simp <;> omega), cell_past (by simp <;> omega), cell_past h4]; exact hc2
              have HW := Lib.hid hW
              rw [← hW]
              clear hW
              go_quiet (fail)
              rw [HW.out]
              go_wp2_with fail
              go_meet
              exact ⟨rfl, rfl, _, _, rfl⟩
            · obtain ⟨W, hW⟩ : ∃ W, W = wmore ((((w.alloc (.cells #[.int .i64 a0, .int .i64 0, .int .i64 0, .int .i64 a3, .int .i64 up, .int .i64 (bnum p), .int .i64 0, .int .i64 0, .int .i64 0, .int .i64 0] 24)).alloc (.cells #[.int .i64 b0, .int .i64 0, .int .i64 0, .int .i64 b3, .int .i64 (-dn), .int .i64 (bnum q), .int .i64 0, .int .i64 0, .int .i64 0, .int .i64 0] 24)).alloc (.cells #[.int .i64 c0, .int .i64 c1, .int .i64 0, .int .i64 0, .int .i64 0, .int .i64 c5, .int .i64 c6, .int .i64 bo, .int .i64 (bnum p), .int .i64 (bnum q)] 24)).alloc (.cells #[.bool p, .bool q] 30)) l d := ⟨_, rfl⟩
              have e1 : W.cell? ⟨w.heap.size + 1 + 1 + 1, 0, none⟩ = some (.bool p) := by rw [hW, more_cell _ _ _ (by simp), cell_at (by simp)]; rfl
              have e2 : W.cell? ⟨w.heap.size + 1 + 1 + 1, 1, none⟩ = some (.bool q) := by rw [hW, more_cell _ _ _ (by simp), cell_at (by simp)]; rfl
              have e3 : W.cell? ⟨b, off + k * 2, none⟩ = some (.bool true) := by rw [hW, more_cell _ _ _ (by simp <;> omega), cell_past (by simp <;> omega), cell_past (by simp <;> omega), cell_past (by simp <;> omega), cell_past h4]; exact hc1
              have e4 : W.cell? ⟨b, off + k * 2 + 1, none⟩ = some (.bool true) := by rw [hW, more_cell _ _ _ (by simp <;> omega), cell_past (by simp <;> omega), cell_past (by simp <;> omega), cell_past (by simp <;> omega), cell_past h4]; exact hc2
              have HW := Lib.hid hW
              rw [← hW]
              clear hW
              go_quiet (fail)
              rw [HW.out]
              go_wp2_with fail
              go_meet
              exact ⟨rfl, rfl, _, _, rfl⟩
          case rest =>
            obtain ⟨rfl, rfl, l', d', rfl⟩ := hcut
            go_upto_if 59 with fail
            go_cut [] (fun wx => ∃ l' d', wx = wmore ((((w.alloc (.cells #[.int .i64 (bnum f), .int .i64 0, .int .i64 0, .int .i64 a3, .int .i64 up, .int .i64 (bnum p), .int .i64 0, .int .i64 0, .int .i64 0, .int .i64 0] 24)).alloc (.cells #[.int .i64 0, .int .i64 0, .int .i64 0, .int .i64 b3, .int .i64 (-dn), .int .i64 (bnum q), .int .i64 0, .int .i64 0, .int .i64 0, .int .i64 0] 24)).alloc (.cells #[.int .i64 (bnum f), .int .i64 0, .int .i64 0, .int .i64 0, .int .i64 0, .int .i64 c5, .int .i64 c6, .int .i64 bo, .int .i64 (bnum p), .int .i64 (bnum q)] 24)).alloc (.cells #[.bool f, .bool g] 30)) l' d')
            case first =>
              cases f
              · go_wp2_with fail
                go_meet
                exact ⟨_, _, rfl⟩
              · go_wp2_with fail
                go_meet
                exact ⟨_, _, rfl⟩
            case rest =>
              obtain ⟨l2', d2', rfl⟩ := hcut
              go_upto_if 68 with fail
              go_cut [] (fun wx => ∃ l' d', wx = wmore ((((w.alloc (.cells #[.int .i64 (bnum f), .int .i64 0, .int .i64 0, .int .i64 a3, .int .i64 up, .int .i64 (bnum p), .int .i64 0, .int .i64 0, .int .i64 0, .int .i64 0] 24)).alloc (.cells #[.int .i64 (bnum g), .int .i64 0, .int .i64 0, .int .i64 b3, .int .i64 (-dn), .int .i64 (bnum q), .int .i64 0, .int .i64 0, .int .i64 0, .int .i64 0] 24)).alloc (.cells #[.int .i64 (bnum f), .int .i64 (bnum g), .int .i64 0, .int .i64 0, .int .i64 0, .int .i64 c5, .int .i64 c6, .int .i64 bo, .int .i64 (bnum p), .int .i64 (bnum q)] 24)).alloc (.cells #[.bool f, .bool g] 30)) l' d')
              case first =>
                cases g
                · go_wp2_with fail
                  go_meet
                  exact ⟨_, _, rfl⟩
                · go_wp2_with fail
                  go_meet
                  exact ⟨_, _, rfl⟩
              case rest =>
                obtain ⟨l3', d3', rfl⟩ := hcut
                go_wp2_with fail
                go_cut [] (fun wx => ∃ l' d', wx = wmore ((((w.alloc (.cells #[.int .i64 (bnum f), .int .i64 0, .int .i64 0, .int .i64 a3', .int .i64 A4, .int .i64 (bnum f), .int .i64 0, .int .i64 0, .int .i64 0, .int .i64 0] 24)).alloc (.cells #[.int .i64 (bnum g), .int .i64 0, .int .i64 0, .int .i64 b3', .int .i64 B4, .int .i64 (bnum g), .int .i64 0, .int .i64 0, .int .i64 0, .int .i64 0] 24)).alloc (.cells #[.int .i64 (bnum f), .int .i64 (bnum g), .int .i64 0, .int .i64 0, .int .i64 0, .int .i64 c5', .int .i64 c6', .int .i64 C7, .int .i64 (bnum f), .int .i64 (bnum g)] 24)).alloc (.cells #[.bool f, .bool g] 30)) l' d')
                case first =>
                  clear HU HD HB HP HQ HA4 HB4 HC7 v1 v2 v3 v4 v5 v6 w1
                  refine wp_region_till (S := (fun (L : Array Bool) (w' : World) => (L.getD 6 true = false → (∃ l d, w' = wmore ((((w.alloc (.cells #[.int .i64 (bnum f), .int .i64 0, .int .i64 0, .int .i64 a3, .int .i64 up, .int .i64 (bnum p), .int .i64 0, .int .i64 0, .int .i64 0, .int .i64 0] 24)).alloc (.cells #[.int .i64 (bnum g), .int .i64 0, .int .i64 0, .int .i64 b3, .int .i64 (-dn), .int .i64 (bnum q), .int .i64 0, .int .i64 0, .int .i64 0, .int .i64 0] 24)).alloc (.cells #[.int .i64 (bnum f), .int .i64 (bnum g), .int .i64 0, .int .i64 0, .int .i64 0, .int .i64 c5, .int .i64 c6, .int .i64 bo, .int .i64 (bnum p), .int .i64 (bnum q)] 24)).alloc (.cells #[.bool f, .bool g] 30)) l d)) ∧ (L.getD 7 true = false → (∃ l d, w' = wmore ((((w.alloc (.cells #[.int .i64 (bnum f), .int .i64 0, .int .i64 0, .int .i64 a3, .int .i64 up, .int .i64 (bnum p), .int .i64 0, .int .i64 0, .int .i64 0, .int .i64 0] 24)).alloc (.cells #[.int .i64 (bnum g), .int .i64 0, .int .i64 0, .int .i64 b3, .int .i64 (-dn), .int .i64 (bnum q), .int .i64 0, .int .i64 0, .int .i64 0, .int .i64 0] 24)).alloc (.cells #[.int .i64 (bnum f), .int .i64 (bnum g), .int .i64 0, .int .i64 0, .int .i64 0, .int .i64 c5, .int .i64 c6, .int .i64 bo, .int .i64 (bnum p), .int .i64 (bnum q)] 24)).alloc (.cells #[.bool f, .bool g] 30)) l d) ∨ (∃ l d, w' = wmore ((((w.alloc (.cells #[.int .i64 (bnum f), .int .i64 0, .int .i64 0, .int .i64 a3', .int .i64 A4, .int .i64 (bnum f), .int .i64 0, .int .i64 0, .int .i64 0, .int .i64 0] 24)).alloc (.cells #[.int .i64 (bnum g), .int .i64 0, .int .i64 0, .int .i64 b3, .int .i64 (-dn), .int .i64 (bnum q), .int .i64 0, .int .i64 0, .int .i64 0, .int .i64 0] 24)).alloc (.cells #[.int .i64 (bnum f), .int .i64 (bnum g), .int .i64 0, .int .i64 0, .int .i64 0, .int .i64 c5, .int .i64 c6, .int .i64 bo, .int .i64 (bnum p), .int .i64 (bnum q)] 24)).alloc (.cells #[.bool f, .bool g] 30)) l d)) ∧ (L.getD 8 true = false → (∃ l d, w' = wmore ((((w.alloc (.cells #[.int .i64 (bnum f), .int .i64 0, .int .i64 0, .int .i64 a3, .int .i64 up, .int .i64 (bnum p), .int .i64 0, .int .i64 0, .int .i64 0, .int .i64 0] 24)).alloc (.cells #[.int .i64 (bnum g), .int .i64 0, .int .i64 0, .int .i64 b3, .int .i64 (-dn), .int .i64 (bnum q), .int .i64 0, .int .i64 0, .int .i64 0, .int .i64 0] 24)).alloc (.cells #[.int .i64 (bnum f), .int .i64 (bnum g), .int .i64 0, .int .i64 0, .int .i64 0, .int .i64 c5, .int .i64 c6, .int .i64 bo, .int .i64 (bnum p), .int .i64 (bnum q)] 24)).alloc (.cells #[.bool f, .bool g] 30)) l d) ∨ (∃ l d, w' = wmore ((((w.alloc (.cells #[.int .i64 (bnum f), .int .i64 0, .int .i64 0, .int .i64 a3', .int .i64 A4, .int .i64 (bnum f), .int .i64 0, .int .i64 0, .int .i64 0, .int .i64 0] 24)).alloc (.cells #[.int .i64 (bnum g), .int .i64 0, .int .i64 0, .int .i64 b3, .int .i64 (-dn), .int .i64 (bnum q), .int .i64 0, .int .i64 0, .int .i64 0, .int .i64 0] 24)).alloc (.cells #[.int .i64 (bnum f), .int .i64 (bnum g), .int .i64 0, .int .i64 0, .int .i64 0, .int .i64 c5, .int .i64 c6, .int .i64 bo, .int .i64 (bnum p), .int .i64 (bnum q)] 24)).alloc (.cells #[.bool f, .bool g] 30)) l d) ∨ (∃ l d, w' = wmore ((((w.alloc (.cells #[.int .i64 (bnum f), .int .i64 0, .int .i64 0, .int .i64 a3', .int .i64 A4, .int .i64 (bnum f), .int .i64 0, .int .i64 0, .int .i64 0, .int .i64 0] 24)).alloc (.cells #[.int .i64 (bnum g), .int .i64 0, .int .i64 0, .int .i64 b3', .int .i64 B4, .int .i64 (bnum g), .int .i64 0, .int .i64 0, .int .i64 0, .int .i64 0] 24)).alloc (.cells #[.int .i64 (bnum f), .int .i64 (bnum g), .int .i64 0, .int .i64 0, .int .i64 0, .int .i64 c5, .int .i64 c6, .int .i64 bo, .int .i64 (bnum p), .int .i64 (bnum q)] 24)).alloc (.cells #[.bool f, .bool g] 30)) l d)))) (by kernel_rfl) ?_ (fun hHeld => ?_)
                  · (try dsimp only); exact ⟨fun _ => ⟨_, _, rfl⟩, fun _ => Or.inl ⟨_, _, rfl⟩, fun _ => Or.inl ⟨_, _, rfl⟩⟩
                  refine till_take 6 (fun w' => (∃ l d, w' = wmore ((((w.alloc (.cells #[.int .i64 (bnum f), .int .i64 0, .int .i64 0, .int .i64 a3, .int .i64 up, .int .i64 (bnum p), .int .i64 0, .int .i64 0, .int .i64 0, .int .i64 0] 24)).alloc (.cells #[.int .i64 (bnum g), .int .i64 0, .int .i64 0, .int .i64 b3, .int .i64 (-dn), .int .i64 (bnum q), .int .i64 0, .int .i64 0, .int .i64 0, .int .i64 0] 24)).alloc (.cells #[.int .i64 (bnum f), .int .i64 (bnum g), .int .i64 0, .int .i64 0, .int .i64 0, .int .i64 c5, .int .i64 c6, .int .i64 bo, .int .i64 (bnum p), .int .i64 (bnum q)] 24)).alloc (.cells #[.bool f, .bool g] 30)) l d)) (i := 0) (oi := { dst := some 73, op := Op.load 24 (Operand.tmp 3), type := 24, pos := _, after := #[], guard := none }) (u := ?_) rfl (by kernel_rfl) (by kernel_rfl) (by kernel_rfl) (by kernel_rfl) (by kernel_rfl) (by decide) (fun L v hL h => h.1 hL) (fun L v => by simp only [getD_set_ne true (show 0 ≠ 6 by decide), getD_set_ne true (show 0 ≠ 7 by decide), getD_set_ne true (show 0 ≠ 8 by decide)]) (fun _ _ _ h => h) (Or.inl ⟨by rfl, ?_⟩) hHeld ?_
                  rotate_left
                  · intro wt hSw; (try dsimp only at hSw); obtain ⟨lt, dt, rfl⟩ := hSw; first | (go_simp; done) | (go_simp; with_reducible rfl) | (trace_state; fail)
                  clear hHeld; intro hHeld
                  try simp only [Act.put, List.setIfInBounds_toArray, List.set_cons_zero, List.set_cons_succ]
                  refine till_take 7 (fun w' => (∃ l d, w' = wmore ((((w.alloc (.cells #[.int .i64 (bnum f), .int .i64 0, .int .i64 0, .int .i64 a3, .int .i64 up, .int .i64 (bnum p), .int .i64 0, .int .i64 0, .int .i64 0, .int .i64 0] 24)).alloc (.cells #[.int .i64 (bnum g), .int .i64 0, .int .i64 0, .int .i64 b3, .int .i64 (-dn), .int .i64 (bnum q), .int .i64 0, .int .i64 0, .int .i64 0, .int .i64 0] 24)).alloc (.cells #[.int .i64 (bnum f), .int .i64 (bnum g), .int .i64 0, .int .i64 0, .int .i64 0, .int .i64 c5, .int .i64 c6, .int .i64 bo, .int .i64 (bnum p), .int .i64 (bnum q)] 24)).alloc (.cells #[.bool f, .bool g] 30)) l d) ∨ (∃ l d, w' = wmore ((((w.alloc (.cells #[.int .i64 (bnum f), .int .i64 0, .int .i64 0, .int .i64 a3', .int .i64 A4, .int .i64 (bnum f), .int .i64 0, .int .i64 0, .int .i64 0, .int .i64 0] 24)).alloc (.cells #[.int .i64 (bnum g), .int .i64 0, .int .i64 0, .int .i64 b3, .int .i64 (-dn), .int .i64 (bnum q), .int .i64 0, .int .i64 0, .int .i64 0, .int .i64 0] 24)).alloc (.cells #[.int .i64 (bnum f), .int .i64 (bnum g), .int .i64 0, .int .i64 0, .int .i64 0, .int .i64 c5, .int .i64 c6, .int .i64 bo, .int .i64 (bnum p), .int .i64 (bnum q)] 24)).alloc (.cells #[.bool f, .bool g] 30)) l d)) (i := 2) (oi := { dst := some 75, op := Op.load 24 (Operand.tmp 4), type := 24, pos := _, after := #[], guard := none }) (u := ?_) rfl (by kernel_rfl) (by kernel_rfl) (by kernel_rfl) (by kernel_rfl) (by kernel_rfl) (by decide) (fun L v hL h => h.2.1 hL) (fun L v => by simp only [getD_set_ne true (show 2 ≠ 6 by decide), getD_set_ne true (show 2 ≠ 7 by decide), getD_set_ne true (show 2 ≠ 8 by decide)]) (fun _ _ _ h => h) (Or.inl ⟨by rfl, ?_⟩) hHeld ?_
                  rotate_left
                  · intro wt hSw; (try dsimp only at hSw); rcases hSw with ⟨lt, dt, rfl⟩ | ⟨lt, dt, rfl⟩ <;> (first | (go_simp; done) | (go_simp; with_reducible rfl) | (trace_state; fail))
                  clear hHeld; intro hHeld
                  try simp only [Act.put, List.setIfInBounds_toArray, List.set_cons_zero, List.set_cons_succ]
                  refine till_take 8 (fun w' => (∃ l d, w' = wmore ((((w.alloc (.cells #[.int .i64 (bnum f), .int .i64 0, .int .i64 0, .int .i64 a3, .int .i64 up, .int .i64 (bnum p), .int .i64 0, .int .i64 0, .int .i64 0, .int .i64 0] 24)).alloc (.cells #[.int .i64 (bnum g), .int .i64 0, .int .i64 0, .int .i64 b3, .int .i64 (-dn), .int .i64 (bnum q), .int .i64 0, .int .i64 0, .int .i64 0, .int .i64 0] 24)).alloc (.cells #[.int .i64 (bnum f), .int .i64 (bnum g), .int .i64 0, .int .i64 0, .int .i64 0, .int .i64 c5, .int .i64 c6, .int .i64 bo, .int .i64 (bnum p), .int .i64 (bnum q)] 24)).alloc (.cells #[.bool f, .bool g] 30)) l d) ∨ (∃ l d, w' = wmore ((((w.alloc (.cells #[.int .i64 (bnum f), .int .i64 0, .int .i64 0, .int .i64 a3', .int .i64 A4, .int .i64 (bnum f), .int .i64 0, .int .i64 0, .int .i64 0, .int .i64 0] 24)).alloc (.cells #[.int .i64 (bnum g), .int .i64 0, .int .i64 0, .int .i64 b3, .int .i64 (-dn), .int .i64 (bnum q), .int .i64 0, .int .i64 0, .int .i64 0, .int .i64 0] 24)).alloc (.cells #[.int .i64 (bnum f), .int .i64 (bnum g), .int .i64 0, .int .i64 0, .int .i64 0, .int .i64 c5, .int .i64 c6, .int .i64 bo, .int .i64 (bnum p), .int .i64 (bnum q)] 24)).alloc (.cells #[.bool f, .bool g] 30)) l d) ∨ (∃ l d, w' = wmore ((((w.alloc (.cells #[.int .i64 (bnum f), .int .i64 0, .int .i64 0, .int .i64 a3', .int .i64 A4, .int .i64 (bnum f), .int .i64 0, .int .i64 0, .int .i64 0, .int .i64 0] 24)).alloc (.cells #[.int .i64 (bnum g), .int .i64 0, .int .i64 0, .int .i64 b3', .int .i64 B4, .int .i64 (bnum g), .int .i64 0, .int .i64 0, .int .i64 0, .int .i64 0] 24)).alloc (.cells #[.int .i64 (bnum f), .int .i64 (bnum g), .int .i64 0, .int .i64 0, .int .i64 0, .int .i64 c5, .int .i64 c6, .int .i64 bo, .int .i64 (bnum p), .int .i64 (bnum q)] 24)).alloc (.cells #[.bool f, .bool g] 30)) l d)) (i := 4) (oi := { dst := some 77, op := Op.load 24 (Operand.tmp 5), type := 24, pos := _, after := #[], guard := none }) (u := ?_) rfl (by kernel_rfl) (by kernel_rfl) (by kernel_rfl) (by kernel_rfl) (by kernel_rfl) (by decide) (fun L v hL h => h.2.2 hL) (fun L v => by simp only [getD_set_ne true (show 4 ≠ 6 by decide), getD_set_ne true (show 4 ≠ 7 by decide), getD_set_ne true (show 4 ≠ 8 by decide)]) (fun _ _ _ h => h) (Or.inl ⟨by rfl, ?_⟩) hHeld ?_
                  rotate_left
                  · intro wt hSw; (try dsimp only at hSw); rcases hSw with ⟨lt, dt, rfl⟩ | ⟨lt, dt, rfl⟩ | ⟨lt, dt, rfl⟩ <;> (first | (go_simp; done) | (go_simp; with_reducible rfl) | (trace_state; fail))
                  clear hHeld; intro hHeld
                  try simp only [Act.put, List.setIfInBounds_toArray, List.set_cons_zero, List.set_cons_succ]
                  refine till_one (i := 1) (o := { dst := some 74, op := Op.call { callee := Callee.value (Operand.func 6), args := #[Operand.const (Value.int IntKind.i64 4), Operand.tmp 73], argTypes := #[3, 24] }, type := 24, pos := _, after := #[{ on := 0, ground := Ground.data }], guard := none }) (by kernel_rfl) rfl (fun K hK => ?_)
                  go_simp
                  refine (count_Step 4 _ _ _ _ _ _ _ _ _ _ _ HbA.out).mono ?_; rintro e w1 ⟨rfl, hb⟩; rw [Ha.out]; obtain ⟨l2, d2, rfl⟩ := more_of hb; clear hb; (try simp only [more_more])
                  go_wp2_with fail
                  refine hK.out _ _ ?_ (fun hHeld => ?_)
                  · (try dsimp only); exact ⟨fun _ => ⟨_, _, rfl⟩, fun _ => Or.inl ⟨_, _, rfl⟩, fun _ => Or.inl ⟨_, _, rfl⟩⟩
                  clear hK K
                  try simp only [Act.put, List.setIfInBounds_toArray, List.set_cons_zero, List.set_cons_succ]
                  refine till_one (i := 3) (o := { dst := some 76, op := Op.call { callee := Callee.value (Operand.func 6), args := #[Operand.const (Value.int IntKind.i64 5), Operand.tmp 75], argTypes := #[3, 24] }, type := 24, pos := _, after := #[{ on := 2, ground := Ground.data }, { on := 1, ground := Ground.chain }], guard := none }) (by kernel_rfl) rfl (fun K hK => ?_)
                  go_simp
                  refine (count_Step 5 _ _ _ _ _ _ _ _ _ _ _ HbB.out).mono ?_; rintro e w1 ⟨rfl, hb⟩; rw [Hb.out]; obtain ⟨l3, d3, rfl⟩ := more_of hb; clear hb; (try simp only [more_more])
                  go_wp2_with fail
                  refine hK.out _ _ ?_ (fun hHeld => ?_)
                  · (try dsimp only); exact ⟨fun _ => ⟨_, _, rfl⟩, fun _ => Or.inl ⟨_, _, rfl⟩, fun _ => Or.inl ⟨_, _, rfl⟩⟩
                  clear hK K
                  try simp only [Act.put, List.setIfInBounds_toArray, List.set_cons_zero, List.set_cons_succ]
                  refine till_one (i := 5) (o := { dst := some 78, op := Op.call { callee := Callee.value (Operand.func 6), args := #[Operand.const (Value.int IntKind.i64 6), Operand.tmp 77], argTypes := #[3, 24] }, type := 24, pos := _, after := #[{ on := 4, ground := Ground.data }, { on := 3, ground := Ground.chain }], guard := none }) (by kernel_rfl) rfl (fun K hK => ?_)
                  go_simp
                  refine (count_Step 6 _ _ _ _ _ _ _ _ _ _ _ HbC.out).mono ?_; rintro e w1 ⟨rfl, hb⟩; rw [Hc.out]; obtain ⟨l4, d4, rfl⟩ := more_of hb; clear hb; (try simp only [more_more])
                  go_wp2_with fail
                  refine hK.out _ _ ?_ (fun hHeld => ?_)
                  · (try dsimp only); exact ⟨fun _ => ⟨_, _, rfl⟩, fun _ => Or.inl ⟨_, _, rfl⟩, fun _ => Or.inl ⟨_, _, rfl⟩⟩
                  clear hK K
                  try simp only [Act.put, List.setIfInBounds_toArray, List.set_cons_zero, List.set_cons_succ]
                  refine till_one (i := 6) (o := { dst := none, op := Op.store 24 (Operand.tmp 3) (Operand.tmp 74), type := 0, pos := _, after := #[{ on := 1, ground := Ground.data }, { on := 5, ground := Ground.chain }, { on := 0, ground := Ground.phase }, { on := 1, ground := Ground.phase }, { on := 2, ground := Ground.textOnly Departure.lateStores }, { on := 3, ground := Ground.textOnly Departure.lateStoresUnsure }, { on := 4, ground := Ground.textOnly Departure.lateStores }, { on := 5, ground := Ground.textOnly Departure.lateStoresUnsure }], guard := none }) (by kernel_rfl) rfl (fun K hK => ?_)
                  go_simp
                  refine hK.out _ _ ?_ (fun hHeld => ?_)
                  · (try dsimp only); exact ⟨fun h => absurd h (by decide), fun _ => Or.inr ⟨_, _, rfl⟩, fun _ => Or.inr (Or.inl ⟨_, _, rfl⟩)⟩
                  clear hK K
                  try simp only [Act.put, List.setIfInBounds_toArray, List.set_cons_zero, List.set_cons_succ]
                  refine till_one (i := 7) (o := { dst := none, op := Op.store 24 (Operand.tmp 4) (Operand.tmp 76), type := 0, pos := _, after := #[{ on := 3, ground := Ground.data }, { on := 6, ground := Ground.chain }, { on := 0, ground := Ground.phase }, { on := 1, ground := Ground.phase }, { on := 2, ground := Ground.phase }, { on := 3, ground := Ground.phase }, { on := 4, ground := Ground.textOnly Departure.lateStores }, { on := 5, ground := Ground.textOnly Departure.lateStoresUnsure }, { on := 6, ground := Ground.phase }], guard := none }) (by kernel_rfl) rfl (fun K hK => ?_)
                  go_simp
                  refine hK.out _ _ ?_ (fun hHeld => ?_)
                  · (try dsimp only); exact ⟨fun h => absurd h (by decide), fun h => absurd h (by decide), fun _ => Or.inr (Or.inr ⟨_, _, rfl⟩)⟩
                  clear hK K
                  try simp only [Act.put, List.setIfInBounds_toArray, List.set_cons_zero, List.set_cons_succ]
                  refine till_one (i := 8) (o := { dst := none, op := Op.store 24 (Operand.tmp 5) (Operand.tmp 78), type := 0, pos := _, after := #[{ on := 5, ground := Ground.data }, { on := 7, ground := Ground.chain }, { on := 0, ground := Ground.phase }, { on := 1, ground := Ground.phase }, { on := 2, ground := Ground.phase }, { on := 3, ground := Ground.phase }, { on := 4, ground := Ground.phase }, { on := 5, ground := Ground.phase }, { on := 6, ground := Ground.phase }, { on := 7, ground := Ground.phase }], guard := none }) (by kernel_rfl) rfl (fun K hK => ?_)
                  go_simp
                  refine hK.out _ _ ?_ (fun hHeld => ?_)
                  · (try dsimp only); exact ⟨fun h => absurd h (by decide), fun h => absurd h (by decide), fun h => absurd h (by decide)⟩
                  clear hK K
                  try simp only [Act.put, List.setIfInBounds_toArray, List.set_cons_zero, List.set_cons_succ]
                  refine till_done (by kernel_rfl) ?_ _
                  all_goals
                    go_wp2_with fail
                    go_meet
                    exact ⟨_, _, rfl⟩
                case rest =>
                  obtain ⟨l4', d4', rfl⟩ := hcut
                  clear Ha Hb Hc HbA HbB HbC
                  cases f <;> cases g <;> cases p <;> cases q
                  · obtain rfl : A4 = up := by rw [← HA4.out]; simp [bnum]
                    obtain rfl : B4 = -dn := by rw [← HB4.out]; simp [bnum]
                    obtain rfl : C7 = bo := by rw [← HC7.out]; simp [bnum]
                    have hu := Lib.hid (show ups F (k + 1) = A4 by rw [HU.out]; simp [bnum])
                    have hd := Lib.hid (show ups G (k + 1) = dn by rw [HD.out]; simp [bnum])
                    have hb := Lib.hid (show bth F G (k + 1) = C7 by rw [HB.out]; simp [bnum])
                    clear HU HD HB HA4 HB4 HC7
                    go_wp2_with fail
                    go_roundw
                    case rel => exact ⟨k + 1, by omega, by simp, by rw [hu.out], by rw [hd.out], by rw [hb.out], by rw [hu.out, hd.out, hb.out, HP.out, HQ.out]; exact ⟨_, a3', _, b3', _, _, c5', c6', l4', d4', rfl⟩⟩
                    case measure => simp [intOf]; omega
                  · obtain rfl : A4 = up := by rw [← HA4.out]; simp [bnum]
                    obtain rfl : B4 = -dn := by rw [← HB4.out]; simp [bnum]
                    obtain rfl : C7 = bo := by rw [← HC7.out]; simp [bnum]
                    have hu := Lib.hid (show ups F (k + 1) = A4 by rw [HU.out]; simp [bnum])
                    have hd := Lib.hid (show ups G (k + 1) = dn by rw [HD.out]; simp [bnum])
                    have hb := Lib.hid (show bth F G (k + 1) = C7 by rw [HB.out]; simp [bnum])
                    clear HU HD HB HA4 HB4 HC7
                    go_wp2_with fail
                    go_roundw
                    case rel => exact ⟨k + 1, by omega, by simp, by rw [hu.out], by rw [hd.out], by rw [hb.out], by rw [hu.out, hd.out, hb.out, HP.out, HQ.out]; exact ⟨_, a3', _, b3', _, _, c5', c6', l4', d4', rfl⟩⟩
                    case measure => simp [intOf]; omega
                  · obtain rfl : A4 = up := by rw [← HA4.out]; simp [bnum]
                    obtain rfl : B4 = -dn := by rw [← HB4.out]; simp [bnum]
                    obtain rfl : C7 = bo := by rw [← HC7.out]; simp [bnum]
                    have hu := Lib.hid (show ups F (k + 1) = A4 by rw [HU.out]; simp [bnum])
                    have hd := Lib.hid (show ups G (k + 1) = dn by rw [HD.out]; simp [bnum])
                    have hb := Lib.hid (show bth F G (k + 1) = C7 by rw [HB.out]; simp [bnum])
                    clear HU HD HB HA4 HB4 HC7
                    go_wp2_with fail
                    go_roundw
                    case rel => exact ⟨k + 1, by omega, by simp, by rw [hu.out], by rw [hd.out], by rw [hb.out], by rw [hu.out, hd.out, hb.out, HP.out, HQ.out]; exact ⟨_, a3', _, b3', _, _, c5', c6', l4', d4', rfl⟩⟩
                    case measure => simp [intOf]; omega
                  · obtain rfl : A4 = up := by rw [← HA4.out]; simp [bnum]
                    obtain rfl : B4 = -dn := by rw [← HB4.out]; simp [bnum]
                    obtain rfl : C7 = bo := by rw [← HC7.out]; simp [bnum]
                    have hu := Lib.hid (show ups F (k + 1) = A4 by rw [HU.out]; simp [bnum])
                    have hd := Lib.hid (show ups G (k + 1) = dn by rw [HD.out]; simp [bnum])
                    have hb := Lib.hid (show bth F G (k + 1) = C7 by rw [HB.out]; simp [bnum])
                    clear HU HD HB HA4 HB4 HC7
                    go_wp2_with fail
                    go_roundw
                    case rel => exact ⟨k + 1, by omega, by simp, by rw [hu.out], by rw [hd.out], by rw [hb.out], by rw [hu.out, hd.out, hb.out, HP.out, HQ.out]; exact ⟨_, a3', _, b3', _, _, c5', c6', l4', d4', rfl⟩⟩
                    case measure => simp [intOf]; omega
                  · obtain rfl : A4 = up := by rw [← HA4.out]; simp [bnum]
                    obtain rfl : B4 = -(dn + 1) := by rw [← HB4.out]; simp [bnum]; omega
                    obtain rfl : C7 = bo - 1 := by rw [← HC7.out]; simp [bnum]
                    have hu := Lib.hid (show ups F (k + 1) = A4 by rw [HU.out]; simp [bnum])
                    have hd := Lib.hid (show ups G (k + 1) = dn + 1 by rw [HD.out]; simp [bnum])
                    have hb := Lib.hid (show bth F G (k + 1) = bo - 1 by rw [HB.out]; simp [bnum])
                    clear HU HD HB HA4 HB4 HC7
                    go_wp2_with fail
                    go_roundw
                    case rel => exact ⟨k + 1, by omega, by simp, by rw [hu.out], by rw [hd.out], by rw [hb.out], by rw [hu.out, hd.out, hb.out, HP.out, HQ.out]; exact ⟨_, a3', _, b3', _, _, c5', c6', l4', d4', rfl⟩⟩
                    case measure => simp [intOf]; omega
                  · obtain rfl : A4 = up := by rw [← HA4.out]; simp [bnum]
                    obtain rfl : B4 = -dn := by rw [← HB4.out]; simp [bnum]
                    obtain rfl : C7 = bo := by rw [← HC7.out]; simp [bnum]
                    have hu := Lib.hid (show ups F (k + 1) = A4 by rw [HU.out]; simp [bnum])
                    have hd := Lib.hid (show ups G (k + 1) = dn by rw [HD.out]; simp [bnum])
                    have hb := Lib.hid (show bth F G (k + 1) = C7 by rw [HB.out]; simp [bnum])
                    clear HU HD HB HA4 HB4 HC7
                    go_wp2_with fail
                    go_roundw
                    case rel => exact ⟨k + 1, by omega, by simp, by rw [hu.out], by rw [hd.out], by rw [hb.out], by rw [hu.out, hd.out, hb.out, HP.out, HQ.out]; exact ⟨_, a3', _, b3', _, _, c5', c6', l4', d4', rfl⟩⟩
                    case measure => simp [intOf]; omega
                  · obtain rfl : A4 = up := by rw [← HA4.out]; simp [bnum]
                    obtain rfl : B4 = -(dn + 1) := by rw [← HB4.out]; simp [bnum]; omega
                    obtain rfl : C7 = bo - 1 := by rw [← HC7.out]; simp [bnum]
                    have hu := Lib.hid (show ups F (k + 1) = A4 by rw [HU.out]; simp [bnum])
                    have hd := Lib.hid (show ups G (k + 1) = dn + 1 by rw [HD.out]; simp [bnum])
                    have hb := Lib.hid (show bth F G (k + 1) = bo - 1 by rw [HB.out]; simp [bnum])
                    clear HU HD HB HA4 HB4 HC7
                    go_wp2_with fail
                    go_roundw
                    case rel => exact ⟨k + 1, by omega, by simp, by rw [hu.out], by rw [hd.out], by rw [hb.out], by rw [hu.out, hd.out, hb.out, HP.out, HQ.out]; exact ⟨_, a3', _, b3', _, _, c5', c6', l4', d4', rfl⟩⟩
                    case measure => simp [intOf]; omega
                  · obtain rfl : A4 = up := by rw [← HA4.out]; simp [bnum]
                    obtain rfl : B4 = -dn := by rw [← HB4.out]; simp [bnum]
                    obtain rfl : C7 = bo := by rw [← HC7.out]; simp [bnum]
                    have hu := Lib.hid (show ups F (k + 1) = A4 by rw [HU.out]; simp [bnum])
                    have hd := Lib.hid (show ups G (k + 1) = dn by rw [HD.out]; simp [bnum])
                    have hb := Lib.hid (show bth F G (k + 1) = C7 by rw [HB.out]; simp [bnum])
                    clear HU HD HB HA4 HB4 HC7
                    go_wp2_with fail
                    go_roundw
                    case rel => exact ⟨k + 1, by omega, by simp, by rw [hu.out], by rw [hd.out], by rw [hb.out], by rw [hu.out, hd.out, hb.out, HP.out, HQ.out]; exact ⟨_, a3', _, b3', _, _, c5', c6', l4', d4', rfl⟩⟩
                    case measure => simp [intOf]; omega
                  · obtain rfl : A4 = up + 1 := by rw [← HA4.out]; simp [bnum]
                    obtain rfl : B4 = -dn := by rw [← HB4.out]; simp [bnum]
                    obtain rfl : C7 = bo + 1 := by rw [← HC7.out]; simp [bnum]
                    have hu := Lib.hid (show ups F (k + 1) = up + 1 by rw [HU.out]; simp [bnum])
                    have hd := Lib.hid (show ups G (k + 1) = dn by rw [HD.out]; simp [bnum])
                    have hb := Lib.hid (show bth F G (k + 1) = bo + 1 by rw [HB.out]; simp [bnum])
                    clear HU HD HB HA4 HB4 HC7
                    go_wp2_with fail
                    go_roundw
                    case rel => exact ⟨k + 1, by omega, by simp, by rw [hu.out], by rw [hd.out], by rw [hb.out], by rw [hu.out, hd.out, hb.out, HP.out, HQ.out]; exact ⟨_, a3', _, b3', _, _, c5', c6', l4', d4', rfl⟩⟩
                    case measure => simp [intOf]; omega
                  · obtain rfl : A4 = up + 1 := by rw [← HA4.out]; simp [bnum]
                    obtain rfl : B4 = -dn := by rw [← HB4.out]; simp [bnum]
                    obtain rfl : C7 = bo + 1 := by rw [← HC7.out]; simp [bnum]
                    have hu := Lib.hid (show ups F (k + 1) = up + 1 by rw [HU.out]; simp [bnum])
                    have hd := Lib.hid (show ups G (k + 1) = dn by rw [HD.out]; simp [bnum])
                    have hb := Lib.hid (show bth F G (k + 1) = bo + 1 by rw [HB.out]; simp [bnum])
                    clear HU HD HB HA4 HB4 HC7
                    go_wp2_with fail
                    go_roundw
                    case rel => exact ⟨k + 1, by omega, by simp, by rw [hu.out], by rw [hd.out], by rw [hb.out], by rw [hu.out, hd.out, hb.out, HP.out, HQ.out]; exact ⟨_, a3', _, b3', _, _, c5', c6', l4', d4', rfl⟩⟩
                    case measure => simp [intOf]; omega
                  · obtain rfl : A4 = up := by rw [← HA4.out]; simp [bnum]
                    obtain rfl : B4 = -dn := by rw [← HB4.out]; simp [bnum]
                    obtain rfl : C7 = bo := by rw [← HC7.out]; simp [bnum]
                    have hu := Lib.hid (show ups F (k + 1) = A4 by rw [HU.out]; simp [bnum])
                    have hd := Lib.hid (show ups G (k + 1) = dn by rw [HD.out]; simp [bnum])
                    have hb := Lib.hid (show bth F G (k + 1) = C7 by rw [HB.out]; simp [bnum])
                    clear HU HD HB HA4 HB4 HC7
                    go_wp2_with fail
                    go_roundw
                    case rel => exact ⟨k + 1, by omega, by simp, by rw [hu.out], by rw [hd.out], by rw [hb.out], by rw [hu.out, hd.out, hb.out, HP.out, HQ.out]; exact ⟨_, a3', _, b3', _, _, c5', c6', l4', d4', rfl⟩⟩
                    case measure => simp [intOf]; omega
                  · obtain rfl : A4 = up := by rw [← HA4.out]; simp [bnum]
                    obtain rfl : B4 = -dn := by rw [← HB4.out]; simp [bnum]
                    obtain rfl : C7 = bo := by rw [← HC7.out]; simp [bnum]
                    have hu := Lib.hid (show ups F (k + 1) = A4 by rw [HU.out]; simp [bnum])
                    have hd := Lib.hid (show ups G (k + 1) = dn by rw [HD.out]; simp [bnum])
                    have hb := Lib.hid (show bth F G (k + 1) = C7 by rw [HB.out]; simp [bnum])
                    clear HU HD HB HA4 HB4 HC7
                    go_wp2_with fail
                    go_roundw
                    case rel => exact ⟨k + 1, by omega, by simp, by rw [hu.out], by rw [hd.out], by rw [hb.out], by rw [hu.out, hd.out, hb.out, HP.out, HQ.out]; exact ⟨_, a3', _, b3', _, _, c5', c6', l4', d4', rfl⟩⟩
                    case measure => simp [intOf]; omega
                  · obtain rfl : A4 = up + 1 := by rw [← HA4.out]; simp [bnum]
                    obtain rfl : B4 = -(dn + 1) := by rw [← HB4.out]; simp [bnum]; omega
                    obtain rfl : C7 = bo := by rw [← HC7.out]; simp [bnum]
                    have hu := Lib.hid (show ups F (k + 1) = up + 1 by rw [HU.out]; simp [bnum])
                    have hd := Lib.hid (show ups G (k + 1) = dn + 1 by rw [HD.out]; simp [bnum])
                    have hb := Lib.hid (show bth F G (k + 1) = C7 by rw [HB.out]; simp [bnum])
                    clear HU HD HB HA4 HB4 HC7
                    go_wp2_with fail
                    go_roundw
                    case rel => exact ⟨k + 1, by omega, by simp, by rw [hu.out], by rw [hd.out], by rw [hb.out], by rw [hu.out, hd.out, hb.out, HP.out, HQ.out]; exact ⟨_, a3', _, b3', _, _, c5', c6', l4', d4', rfl⟩⟩
                    case measure => simp [intOf]; omega
                  · obtain rfl : A4 = up + 1 := by rw [← HA4.out]; simp [bnum]
                    obtain rfl : B4 = -dn := by rw [← HB4.out]; simp [bnum]
                    obtain rfl : C7 = bo + 1 := by rw [← HC7.out]; simp [bnum]
                    have hu := Lib.hid (show ups F (k + 1) = up + 1 by rw [HU.out]; simp [bnum])
                    have hd := Lib.hid (show ups G (k + 1) = dn by rw [HD.out]; simp [bnum])
                    have hb := Lib.hid (show bth F G (k + 1) = bo + 1 by rw [HB.out]; simp [bnum])
                    clear HU HD HB HA4 HB4 HC7
                    go_wp2_with fail
                    go_roundw
                    case rel => exact ⟨k + 1, by omega, by simp, by rw [hu.out], by rw [hd.out], by rw [hb.out], by rw [hu.out, hd.out, hb.out, HP.out, HQ.out]; exact ⟨_, a3', _, b3', _, _, c5', c6', l4', d4', rfl⟩⟩
                    case measure => simp [intOf]; omega
                  · obtain rfl : A4 = up := by rw [← HA4.out]; simp [bnum]
                    obtain rfl : B4 = -(dn + 1) := by rw [← HB4.out]; simp [bnum]; omega
                    obtain rfl : C7 = bo - 1 := by rw [← HC7.out]; simp [bnum]
                    have hu := Lib.hid (show ups F (k + 1) = A4 by rw [HU.out]; simp [bnum])
                    have hd := Lib.hid (show ups G (k + 1) = dn + 1 by rw [HD.out]; simp [bnum])
                    have hb := Lib.hid (show bth F G (k + 1) = bo - 1 by rw [HB.out]; simp [bnum])
                    clear HU HD HB HA4 HB4 HC7
                    go_wp2_with fail
                    go_roundw
                    case rel => exact ⟨k + 1, by omega, by simp, by rw [hu.out], by rw [hd.out], by rw [hb.out], by rw [hu.out, hd.out, hb.out, HP.out, HQ.out]; exact ⟨_, a3', _, b3', _, _, c5', c6', l4', d4', rfl⟩⟩
                    case measure => simp [intOf]; omega
                  · obtain rfl : A4 = up := by rw [← HA4.out]; simp [bnum]
                    obtain rfl : B4 = -dn := by rw [← HB4.out]; simp [bnum]
                    obtain rfl : C7 = bo := by rw [← HC7.out]; simp [bnum]
                    have hu := Lib.hid (show ups F (k + 1) = A4 by rw [HU.out]; simp [bnum])
                    have hd := Lib.hid (show ups G (k + 1) = dn by rw [HD.out]; simp [bnum])
                    have hb := Lib.hid (show bth F G (k + 1) = C7 by rw [HB.out]; simp [bnum])
                    clear HU HD HB HA4 HB4 HC7
                    go_wp2_with fail
                    go_roundw
                    case rel => exact ⟨k + 1, by omega, by simp, by rw [hu.out], by rw [hd.out], by rw [hb.out], by rw [hu.out, hd.out, hb.out, HP.out, HQ.out]; exact ⟨_, a3', _, b3', _, _, c5', c6', l4', d4', rfl⟩⟩
                    case measure => simp [intOf]; omega
        · obtain rfl : k = n := by omega
          go_wp2_with fail
          refine (law09_awake _).mono ?_; rintro e w1 ⟨rfl, hb⟩
          have hB : Below w.heap.size w w1 := Below.trans (by (repeat' (first | (with_reducible exact Below.refl _ _) | (with_reducible assumption) | (with_reducible refine more_below ?_ ?_ _ _) | (with_reducible refine below_drewN ?_ _) | (with_reducible refine Below.alloc ?_ ?_ _) | (with_reducible refine Below.drew ?_) | (with_reducible refine Below.setCell ?_ ?_ _) | (simp only [World.size_alloc, World.size_setCell, World.size_drew, more_size, World.heap_drewN]; omega) | go_size))) (hb.mono (by first | omega | (simp [more_size] <;> omega)))
          go_wp2_with fail
          go_ret
          exact ⟨rfl, hB⟩
end Go.Proofs.Ytlkikadijlhngaa
