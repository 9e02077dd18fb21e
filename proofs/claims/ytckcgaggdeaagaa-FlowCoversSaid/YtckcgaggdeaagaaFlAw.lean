/- Layer 30: the law's awake. -/
import Derived.Test.YtckcgaggdeaagaaFlNw
import Derived.Test.YtckcgaggdeaagaaBoxed
namespace Go.Proofs.Ytckcgaggdeaagaa
open Go.RowKit
set_option linter.unusedSimpArgs false
set_option linter.unusedVariables false
open FL (opA aA goesP endF blks)
/-- a row of blocks, read at a place -/
theorem node_at {w : World} {B : Nat} {u : Value} {N : List ND} (ho : w.ownsRow B 30 3 u N.length (ndV N)) {k : Nat} {x : ND} (hx : N[k]? = some x) :
    ∃ g c, u = .slice (some ⟨g, 0, none⟩) N.length c ∧ B ≤ g ∧ g < w.heap.size ∧ N.length ≤ c ∧ c ≤ 9223372036854775807 := by
  have hk := lt_of_get hx
  rcases ho.2 with ⟨h1, h0⟩ | ⟨g, cap, cur, h1, hBg, hg, h2, h3, _⟩
  · omega
  · exact ⟨g, cap, h1, hBg, heap_lt hg, h2, h3⟩
theorem node_cells {w : World} {B g c : Nat} {N : List ND} (ho : w.ownsRow B 30 3 (.slice (some ⟨g, 0, none⟩) N.length c) N.length (ndV N)) {k : Nat} {x : ND} (hx : N[k]? = some x) :
    w.cell? ⟨g, k * 3, none⟩ = some (.int .i64 (x.1 : Int)) ∧ w.cell? ⟨g, k * 3 + 1, none⟩ = some (.int .i64 (x.2.1 : Int)) ∧ w.cell? ⟨g, k * 3 + 2, none⟩ = some x.2.2 := by
  have hk := lt_of_get hx
  have c0 := ho.cellAt (k * 3 + 0) (by omega)
  have c1 := ho.cellAt (k * 3 + 1) (by omega)
  have c2 := ho.cellAt (k * 3 + 2) (by omega)
  rw [ndV_get N k 0 x hx (by omega)] at c0
  rw [ndV_get N k 1 x hx (by omega)] at c1
  rw [ndV_get N k 2 x hx (by omega)] at c2
  exact ⟨by simpa using c0, c1, c2⟩
def L0 : List Ins := [(31, 2, 0), (0, 0, 0), (34, 0, 0)]
theorem l0_goes : goesP L0 0 = [1, 2] ∧ goesP L0 1 = [2] ∧ goesP L0 2 = [] := ⟨by decide, by decide, by decide⟩
theorem l0_jumps : jumpsB L0 = true := by decide
theorem l0_whole : FL.Whole L0 := by
  intro q hq _ z hz
  have hq : q < 3 := hq
  obtain ⟨g0, g1, g2⟩ := l0_goes
  show 0 ≤ z ∧ z < (3 : Int)
  rcases (show q = 0 ∨ q = 1 ∨ q = 2 by omega) with rfl | rfl | rfl
  · rw [g0] at hz; simp at hz; omega
  · rw [g1] at hz; simp at hz; omega
  · rw [g2] at hz; simp at hz
theorem l0_seen : seenB L0 = true := @decide_eq_true _ (Classical.propDecidable _) ⟨by decide, l0_jumps, l0_whole⟩
theorem l0_lead {F : Nat → Bool} (h : FL.Lead L0 (FL.rcB L0) F) : F 0 = true ∧ F 1 = true ∧ F 2 = true := by
  have hm : FL.rcB L0 0 = true := (rc_met l0_whole (by decide)).zero
  have hg := l0_goes.1
  exact ⟨h.zero, h.on 0 (by decide) hm (by decide) 1 (by rw [hg]; simp), h.on 0 (by decide) hm (by decide) 2 (by rw [hg]; simp)⟩
theorem l0_end (F : Nat → Bool) : endF L0 F 0 = 1 := FL.endF_eq (p := 0) (by decide) (Nat.le_refl _) (by unfold FL.stopB; rw [show FL.farB (opA L0 0) = true by decide]; rfl) (fun q _ h => by omega)
theorem awake_told {w w' : World} {r : Ending} (h : NodesQ L0 w r w') : ∃ g c g2 c2, r = .returned (.slice (some ⟨g, 0, none⟩) 3 c) ∧ Below w.heap.size w w' ∧ w'.cell? ⟨g, 2, none⟩ = some (.slice (some ⟨g2, 0, none⟩) 2 c2) ∧ w'.cell? ⟨g2, 1, none⟩ = some (.int .i64 2) ∧ g < w'.heap.size ∧ g2 < w'.heap.size ∧ 3 ≤ c ∧ c ≤ 9223372036854775807 ∧ 2 ≤ c2 ∧ c2 ≤ 9223372036854775807 := by
  obtain ⟨hb, ⟨hs, _⟩ | ⟨_, F, u, N, rfl, hL, hM, hN, ho, Num, hNum, hD⟩⟩ := h
  · rw [l0_seen] at hs; cases hs
  obtain ⟨f0, f1, f2⟩ := l0_lead hL
  have b0 : blks 0 F (endF L0 F) = [] := rfl
  have b1 : blks 1 F (endF L0 F) = [(0, endF L0 F 0)] := by rw [FL.blks_succ, if_pos f0, b0]; rfl
  have b2 : blks 2 F (endF L0 F) = [(0, endF L0 F 0), (1, endF L0 F 1)] := by rw [FL.blks_succ, if_pos f1, b1]; rfl
  have b3 : blks 3 F (endF L0 F) = [(0, endF L0 F 0), (1, endF L0 F 1), (2, endF L0 F 2)] := by rw [FL.blks_succ, if_pos f2, b2]; rfl
  have hN : N.map (fun x => (x.1, x.2.1)) = [(0, endF L0 F 0), (1, endF L0 F 1), (2, endF L0 F 2)] := hN.trans b3
  have hl : N.length = 3 := by have := congrArg List.length hN; simpa using this
  obtain ⟨x, hx⟩ := get_some (L := N) (n := 0) (by omega)
  have hx1 : x.2.1 = 1 := by
    have h1 : (N.map (fun x => (x.1, x.2.1)))[0]? = some (x.1, x.2.1) := by rw [List.getElem?_map, hx]; rfl
    rw [hN, l0_end] at h1
    simp at h1
    exact h1.2.symm
  have n1 := hNum 1 (by decide) f1
  have n2 := hNum 2 (by decide) f2
  rw [b1] at n1
  rw [b2] at n2
  obtain ⟨⟨lst, hlst, hr⟩, _⟩ := hD 0 x (by omega) hx
  have hlst : lst = [1, 2] := by
    rw [hlst, hx1]
    unfold numL
    rw [show (1 : Nat) - 1 = 0 from rfl, l0_goes.1]
    simp [n1, n2]
  subst hlst
  obtain ⟨g, c, rfl, _, hg, hc1, hc2⟩ := node_at ho hx
  have hcs := (node_cells ho hx).2.2
  obtain ⟨a2, c2, hu2⟩ := owns_form hr
  rw [hu2] at hr hcs
  obtain ⟨g2, rfl, hz, k1, k2, _⟩ := own_at hr (q := 1) (z := 2) (by decide) rfl
  have hg2 := (owns_lt hr (g := g2) rfl).2
  refine ⟨g, c, g2, c2, by rw [hl], hb, by simpa using hcs, hz, hg, hg2, by omega, hc2, by simpa using k1, k2⟩
set_option maxHeartbeats 4000000 in
theorem law30_awake (w : World) : Calls Try.prog 4 #[] w fun e w' => e = .returned (.bool true) ∧ Below w.heap.size w w' := by
  obtain ⟨W0, hW0⟩ : ∃ W0, W0 = w.alloc (.cells #[.int .i64 31, .int .i64 2, .int .i64 0, .int .i64 0, .int .i64 0, .int .i64 0, .int .i64 34, .int .i64 0, .int .i64 0] 35) := ⟨_, rfl⟩
  have hb0 : Below w.heap.size w W0 := by rw [hW0]; exact (Below.refl _ _).alloc (Nat.le_refl _) _
  have hR : RowR 3 insR W0 (.slice (some ⟨w.heap.size, 0, none⟩) 3 3) L0 := by
    have hB := fun j u hu => Boxed.new w [.int .i64 31, .int .i64 2, .int .i64 0, .int .i64 0, .int .i64 0, .int .i64 0, .int .i64 34, .int .i64 0, .int .i64 0] 35 (W' := W0) (by rw [hW0]; exact Below.refl _ _) j u hu
    refine Or.inr ⟨w.heap.size, 0, 3, rfl, by simp [L0], by first | (simp; done) | (simp [L0]; done) | decide | omega, by unfold maxLen; omega, by rw [hW0]; simp, fun i x hx => ?_⟩
    have hi : i < 3 := lt_of_get hx
    have hI : ∀ z : Int, 0 ≤ z ∧ z ≤ 40 → I64 z := fun z hz => by unfold I64; omega
    rcases (show i = 0 ∨ i = 1 ∨ i = 2 by omega) with rfl | rfl | rfl
    · obtain rfl : ((31, 2, 0) : Ins) = x := by simpa [L0] using hx
      refine ⟨[.int .i64 31, .int .i64 2, .int .i64 0], rfl, fun j u hu => ?_, rfl, hI _ (by decide), hI _ (by decide), hI _ (by decide)⟩
      have hj : j < 3 := lt_of_get hu
      rcases (show j = 0 ∨ j = 1 ∨ j = 2 by omega) with rfl | rfl | rfl <;> exact hB _ u hu
    · obtain rfl : ((0, 0, 0) : Ins) = x := by simpa [L0] using hx
      refine ⟨[.int .i64 0, .int .i64 0, .int .i64 0], rfl, fun j u hu => ?_, rfl, hI _ (by decide), hI _ (by decide), hI _ (by decide)⟩
      have hj : j < 3 := lt_of_get hu
      rcases (show j = 0 ∨ j = 1 ∨ j = 2 by omega) with rfl | rfl | rfl <;> exact hB _ u hu
    · obtain rfl : ((34, 0, 0) : Ins) = x := by simpa [L0] using hx
      refine ⟨[.int .i64 34, .int .i64 0, .int .i64 0], rfl, fun j u hu => ?_, rfl, hI _ (by decide), hI _ (by decide), hI _ (by decide)⟩
      have hj : j < 3 := lt_of_get hu
      rcases (show j = 0 ∨ j = 1 ∨ j = 2 by omega) with rfl | rfl | rfl <;> exact hB _ u hu
  have H0 := Lib.hid (flow_Nodes _ L0 W0 hR (by decide))
  have HB0 := Lib.hid hb0
  have HW0 := Lib.hid hW0
  clear hR hW0 hb0
  go_enter Try.func4, Try.ntmps4
  go_wp2_with fail
  rw [← HW0.out]
  refine H0.out.mono ?_; rintro e W1 hQ
  obtain ⟨g, c, g2, c2, rfl, hb1, e1, e2, y1, y2, k1, k2, k3, k4⟩ := awake_told hQ
  have HB1 := Lib.hid (HB0.out.trans (hb1.mono HB0.out.size))
  clear hQ hb1
  go_wp2_with fail
  go_ret
  exact ⟨rfl, HB1.out⟩
end Go.Proofs.Ytckcgaggdeaagaa
