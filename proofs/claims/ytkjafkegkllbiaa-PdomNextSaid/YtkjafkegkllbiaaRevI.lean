/- slices.Reverse over a slice of integers of the call's own. -/
import Derived.Test.YtkjafkegkllbiaaOwn
import Derived.Test.YtkjafkegkllbiaaKeep
import Derived.Test.YtkjafkegkllbiaaHeap
import Derived.Test.YtkjafkegkllbiaaHeldTill
import Derived.Deep.Cut
import Derived.Deep.CutRange
namespace Go.Proofs.Ytkjafkegkllbiaa
open Go.RowKit
set_option linter.unusedSimpArgs false
set_option linter.unusedVariables false
/-- behind k exchanges from both ends -/
def revK (L : List Int) : Nat → List Int
  | 0 => L
  | k + 1 => ((revK L k).set k ((revK L k).getD (L.length - 1 - k) 0)).set (L.length - 1 - k) ((revK L k).getD k 0)
theorem revK_len (L : List Int) : ∀ k, (revK L k).length = L.length
  | 0 => rfl
  | k + 1 => by unfold revK; simp [revK_len L k]
theorem getD_setI {L : List Int} {i p : Nat} {x : Int} (hi : i < L.length) : (L.set i x).getD p 0 = if p = i then x else L.getD p 0 := by
  rw [List.getD_eq_getElem?_getD, List.getD_eq_getElem?_getD, List.getElem?_set]
  by_cases h : i = p
  · subst h; simp [hi]
  · rw [if_neg h, if_neg (fun hh => h hh.symm)]
theorem revK_get (L : List Int) : ∀ k p, 2 * k ≤ L.length → p < L.length → (revK L k).getD p 0 = if p < k ∨ L.length - 1 - p < k then L.getD (L.length - 1 - p) 0 else L.getD p 0
  | 0, p, _, _ => by simp [revK]
  | k + 1, p, hk, hp => by
    have ih := fun p hp => revK_get L k p (by omega) hp
    unfold revK
    rw [getD_setI (by rw [List.length_set, revK_len]; omega), getD_setI (by rw [revK_len]; omega), ih p hp, ih k (by omega), ih (L.length - 1 - k) (by omega)]
    by_cases h1 : p = L.length - 1 - k
    · subst h1
      rw [if_pos rfl, if_neg (by omega), if_pos (by omega)]
      congr 1; omega
    · rw [if_neg h1]
      by_cases h2 : p = k
      · subst h2
        rw [if_pos rfl, if_neg (by omega), if_pos (by omega)]
      · rw [if_neg h2]
        by_cases h3 : p < k ∨ L.length - 1 - p < k
        · rw [if_pos h3, if_pos (by omega)]
        · rw [if_neg h3, if_neg (by omega)]
theorem revK_done (L : List Int) (k : Nat) (h1 : 2 * k ≤ L.length) (h2 : L.length ≤ 2 * k + 1) : revK L k = L.reverse := by
  apply List.ext_getElem (by rw [revK_len, List.length_reverse])
  intro p h3 h4
  rw [revK_len] at h3
  have := revK_get L k p h1 h3
  rw [List.getD_eq_getElem?_getD, List.getElem?_eq_getElem (by rw [revK_len]; exact h3)] at this
  rw [List.getElem_reverse]
  refine Eq.trans (show _ = _ from this) ?_
  by_cases h : p < k ∨ L.length - 1 - p < k
  · rw [if_pos h, List.getD_eq_getElem?_getD, List.getElem?_eq_getElem (by omega)]; rfl
  · rw [if_neg h]
    have hpe : L.length - 1 - p = p := by omega
    simp only [hpe]
    rw [List.getD_eq_getElem?_getD, List.getElem?_eq_getElem h3]; rfl
theorem iV_set (L : List Int) (i : Nat) (x : Int) : iV (L.set i x) = (iV L).set i (.int .i64 x) := by unfold iV; rw [List.map_set]
theorem owns_iV_at {w : World} {B g n cap : Nat} {e : TypeId} {L : List Int} (h : w.ownsRow B e 1 (.slice (some ⟨g, 0, none⟩) n cap) n (iV L)) {j : Nat} (hj : j < n) : w.cell? ⟨g, j, none⟩ = some (.int .i64 (L.getD j 0)) := by
  have hl := h.1
  rw [iV_len, Nat.mul_one] at hl
  rw [h.cellAt j (by omega), List.getD_eq_getElem?_getD]
  unfold iV
  rw [List.getElem?_map, List.getElem?_eq_getElem (by omega)]; rfl
set_option maxHeartbeats 2000000 in
theorem reverse_ints (v : Value) (L : List Int) (B : Nat) (e : TypeId) (w : World) (hO : w.ownsRow B e 1 v L.length (iV L)) (hB : B ≤ w.heap.size) :
    Calls Try.prog 25 #[v] w fun r w' => r = .returned (.tuple #[]) ∧ w'.ownsRow B e 1 v L.length (iV L.reverse) ∧ Below B w w' := by
  obtain ⟨N, hN⟩ : ∃ N, L.length = N := ⟨_, rfl⟩
  have HN := Lib.hid hN
  have hrow := hO.2
  rw [hN]
  rcases hrow with ⟨rfl, h0⟩ | ⟨g, cap, cur, rfl, hBg, hg, hnc, hcm, hcs, htake⟩
  · have hL : L = [] := List.length_eq_zero_iff.1 h0
    subst hL
    obtain rfl : N = 0 := hN.symm
    have HO := Lib.hid hO
    clear hO
    go_enter Try.func25, Try.ntmps25
    go_wp2_with fail
    go_loopw [2, 3] (fun ii jj wr => ii = .int .i64 0 ∧ jj = .int .i64 (-1) ∧ wr = w) (fun _ _ _ => 0)
    case atStart => exact ⟨rfl, rfl, rfl⟩
    case round =>
      obtain ⟨rfl, rfl, hwr⟩ := hrel
      have hwr := hwr.symm
      subst hwr
      go_wp2_with fail
      go_end0
      exact ⟨rfl, HO.out, Below.refl _ _⟩
  rw [hN] at hnc ⊢
  have hlen : N ≤ cap := hnc
  have hm : cap ≤ 9223372036854775807 := hcm
  rw [hN] at hO
  have HO := Lib.hid hO
  have hN63 : N ≤ 9223372036854775807 := by omega
  clear hO hN hg hcs htake
  go_enter Try.func25, Try.ntmps25
  go_wp2_with fail
  go_loopw [2, 3] (fun ii jj wr => ∃ k : Nat, 2 * k ≤ N ∧ ii = .int .i64 k ∧ jj = .int .i64 ((N : Int) - 1 - k) ∧ Hid (wr.ownsRow B e 1 (.slice (some ⟨g, 0, none⟩) N cap) N (iV (revK L k))) ∧ Hid (Below B w wr)) (fun ii _ _ => N - (intOf ii).toNat)
  case atStart => exact ⟨0, by omega, rfl, by simp, HO, Lib.hid (Below.refl _ _)⟩
  case round =>
    obtain ⟨k, hk, rfl, rfl, hOr, hBr⟩ := hrel
    by_cases hlt : 2 * k + 1 < N
    · obtain ⟨j, hj⟩ : ∃ j : Nat, N = j + 1 + k := ⟨N - 1 - k, by omega⟩
      have hje : (N : Int) - 1 - (k : Int) = (j : Int) := by omega
      have hjk : k < j := by omega
      rw [hje]
      have q0 : ((k : Int) < (j : Int)) = True := eq_true (by omega)
      have q0' : (k < j) = True := eq_true hjk
      have q1 : ((k : Int) < (N : Int)) = True := eq_true (by omega)
      have q1' : (k < N) = True := eq_true (by omega)
      have q2 : ((j : Int) < (N : Int)) = True := eq_true (by omega)
      have q2' : (j < N) = True := eq_true (by omega)
      have ci := owns_iV_at hOr.out (j := k) (by omega)
      have cj := owns_iV_at hOr.out (j := j) (by omega)
      have hO0 := hOr
      have hB0 := hBr
      have HX := Lib.hid (show revK L (k + 1) = ((revK L k).set k ((revK L k).getD j 0)).set j ((revK L k).getD k 0) by
        show ((revK L k).set k ((revK L k).getD (L.length - 1 - k) 0)).set (L.length - 1 - k) ((revK L k).getD k 0) = _
        rw [HN.out, show N - 1 - k = j by omega])
      generalize hX : revK L k = X at *
      clear hX
      have HCI := Lib.hid (fun (W : World) (h : W.ownsRow B e 1 (.slice (some ⟨g, 0, none⟩) N cap) N (iV X)) => owns_iV_at h (j := k) (by omega))
      have HCJ := Lib.hid (fun (W : World) (h : W.ownsRow B e 1 (.slice (some ⟨g, 0, none⟩) N cap) N (iV X)) => owns_iV_at h (j := j) (by omega))
      generalize X.getD j 0 = xj at *
      generalize X.getD k 0 = xi at *
      have HJ := Lib.hid (And.intro hj hjk)
      have hk62 : k ≤ 9223372036854775806 := by omega
      have hjm : (-9223372036854775808 ≤ (j : Int) - 1) := by omega
      have hjm2 : (j : Int) - 1 ≤ 9223372036854775807 := by omega
      have f1 := hOr.out.frozenAt k
      have f2 := hOr.out.frozenAt j
      have hS := hOr.out.stored k (.int .i64 xj)
      have cj2 := owns_iV_at (L := X.set k xj) (by rw [iV_set]; exact hS.1) (j := j) (by omega)
      have f3 := hS.1.frozenAt j
      generalize (X.set k xj).getD j 0 = xj2 at *
      clear hS hOr hBr hje hjk hj hlt hk
      go_upto_region 3 with fail
      refine wp_region_till (S := (fun (L : Array Bool) (w' : World) => (L.getD 13 true = false → (fun (w' : World) => w'.ownsRow B e 1 (.slice (some ⟨g, 0, none⟩) N cap) N (iV X) ∧ Below B w w') w') ∧ (L.getD 13 true = true → L.getD 15 true = false → (fun (w' : World) => w'.ownsRow B e 1 (.slice (some ⟨g, 0, none⟩) N cap) N ((iV X).set k (.int .i64 xj)) ∧ Below B w w') w') ∧ (L.getD 15 true = true → (fun (w' : World) => w'.ownsRow B e 1 (.slice (some ⟨g, 0, none⟩) N cap) N (((iV X).set k (.int .i64 xj)).set j (.int .i64 xi)) ∧ Below B w w') w'))) (by kernel_rfl) ?_ (fun hHeld => ?_)
      · (try dsimp only); exact ⟨fun _ => ⟨hO0.out, hB0.out.drew⟩, fun h => absurd h (by decide), fun h => absurd h (by decide)⟩
      refine till_take 12 (fun _ => True) (i := 0) (oi := { dst := some 14, op := Op.move (Operand.tmp 0), type := 25, pos := _, after := #[], guard := none }) (u := ?_) rfl (by kernel_rfl) (by kernel_rfl) (by kernel_rfl) (by kernel_rfl) (by kernel_rfl) (by decide) (fun L v hL h => trivial) (fun L v => by simp only [getD_set_ne true (show 0 ≠ 13 by decide), getD_set_ne true (show 0 ≠ 15 by decide)]) (fun _ _ _ h => h) (Or.inl ⟨by rfl, ?_⟩) hHeld ?_
      rotate_left
      · intro wt hSw; clear hSw; first | (go_simp; done) | (go_simp; with_reducible rfl) | (trace_state; fail)
      clear hHeld; intro hHeld
      try simp only [Act.put, List.setIfInBounds_toArray, List.set_cons_zero, List.set_cons_succ]
      refine till_take 12 (fun _ => True) (i := 1) (oi := { dst := some 15, op := Op.move (Operand.tmp 2), type := 3, pos := _, after := #[], guard := none }) (u := ?_) rfl (by kernel_rfl) (by kernel_rfl) (by kernel_rfl) (by kernel_rfl) (by kernel_rfl) (by decide) (fun L v hL h => trivial) (fun L v => by simp only [getD_set_ne true (show 1 ≠ 13 by decide), getD_set_ne true (show 1 ≠ 15 by decide)]) (fun _ _ _ h => h) (Or.inl ⟨by rfl, ?_⟩) hHeld ?_
      rotate_left
      · intro wt hSw; clear hSw; first | (go_simp; done) | (go_simp; with_reducible rfl) | (trace_state; fail)
      clear hHeld; intro hHeld
      try simp only [Act.put, List.setIfInBounds_toArray, List.set_cons_zero, List.set_cons_succ]
      refine till_take 14 (fun _ => True) (i := 2) (oi := { dst := some 16, op := Op.move (Operand.tmp 0), type := 25, pos := _, after := #[{ on := 13, ground := Ground.gcOnly Departure.lateStores }], guard := none }) (u := ?_) rfl (by kernel_rfl) (by kernel_rfl) (by kernel_rfl) (by kernel_rfl) (by kernel_rfl) (by decide) (fun L v hL h => trivial) (fun L v => by simp only [getD_set_ne true (show 2 ≠ 13 by decide), getD_set_ne true (show 2 ≠ 15 by decide)]) (fun _ _ _ h => h) (Or.inl ⟨by rfl, ?_⟩) hHeld ?_
      rotate_left
      · intro wt hSw; clear hSw; first | (go_simp; done) | (go_simp; with_reducible rfl) | (trace_state; fail)
      clear hHeld; intro hHeld
      try simp only [Act.put, List.setIfInBounds_toArray, List.set_cons_zero, List.set_cons_succ]
      refine till_take 14 (fun _ => True) (i := 3) (oi := { dst := some 17, op := Op.move (Operand.tmp 3), type := 3, pos := _, after := #[{ on := 13, ground := Ground.gcOnly Departure.lateStores }], guard := none }) (u := ?_) rfl (by kernel_rfl) (by kernel_rfl) (by kernel_rfl) (by kernel_rfl) (by kernel_rfl) (by decide) (fun L v hL h => trivial) (fun L v => by simp only [getD_set_ne true (show 3 ≠ 13 by decide), getD_set_ne true (show 3 ≠ 15 by decide)]) (fun _ _ _ h => h) (Or.inl ⟨by rfl, ?_⟩) hHeld ?_
      rotate_left
      · intro wt hSw; clear hSw; first | (go_simp; done) | (go_simp; with_reducible rfl) | (trace_state; fail)
      clear hHeld; intro hHeld
      try simp only [Act.put, List.setIfInBounds_toArray, List.set_cons_zero, List.set_cons_succ]
      refine till_take 6 (fun _ => True) (i := 4) (oi := { dst := some 18, op := Op.move (Operand.tmp 0), type := 25, pos := _, after := #[], guard := none }) (u := ?_) rfl (by kernel_rfl) (by kernel_rfl) (by kernel_rfl) (by kernel_rfl) (by kernel_rfl) (by decide) (fun L v hL h => trivial) (fun L v => by simp only [getD_set_ne true (show 4 ≠ 13 by decide), getD_set_ne true (show 4 ≠ 15 by decide)]) (fun _ _ _ h => h) (Or.inl ⟨by rfl, ?_⟩) hHeld ?_
      rotate_left
      · intro wt hSw; clear hSw; first | (go_simp; done) | (go_simp; with_reducible rfl) | (trace_state; fail)
      clear hHeld; intro hHeld
      try simp only [Act.put, List.setIfInBounds_toArray, List.set_cons_zero, List.set_cons_succ]
      refine till_take 6 (fun _ => True) (i := 5) (oi := { dst := some 19, op := Op.move (Operand.tmp 3), type := 3, pos := _, after := #[], guard := none }) (u := ?_) rfl (by kernel_rfl) (by kernel_rfl) (by kernel_rfl) (by kernel_rfl) (by kernel_rfl) (by decide) (fun L v hL h => trivial) (fun L v => by simp only [getD_set_ne true (show 5 ≠ 13 by decide), getD_set_ne true (show 5 ≠ 15 by decide)]) (fun _ _ _ h => h) (Or.inl ⟨by rfl, ?_⟩) hHeld ?_
      rotate_left
      · intro wt hSw; clear hSw; first | (go_simp; done) | (go_simp; with_reducible rfl) | (trace_state; fail)
      clear hHeld; intro hHeld
      try simp only [Act.put, List.setIfInBounds_toArray, List.set_cons_zero, List.set_cons_succ]
      refine till_take 7 (fun _ => True) (i := 6) (oi := { dst := some 20, op := Op.indexAddr 25 (Operand.tmp 18) (Operand.tmp 19), type := 0, pos := _, after := #[{ on := 4, ground := Ground.data }, { on := 5, ground := Ground.data }], guard := none }) (u := ?_) rfl (by kernel_rfl) (by kernel_rfl) (by kernel_rfl) (by kernel_rfl) (by kernel_rfl) (by decide) (fun L v hL h => trivial) (fun L v => by simp only [getD_set_ne true (show 6 ≠ 13 by decide), getD_set_ne true (show 6 ≠ 15 by decide)]) (fun _ _ _ h => h) (Or.inl ⟨by rfl, ?_⟩) hHeld ?_
      rotate_left
      · intro wt hSw; clear hSw; first | (go_simp; done) | (go_simp; with_reducible rfl) | (trace_state; fail)
      clear hHeld; intro hHeld
      try simp only [Act.put, List.setIfInBounds_toArray, List.set_cons_zero, List.set_cons_succ]
      refine till_take 13 (fun (w' : World) => w'.ownsRow B e 1 (.slice (some ⟨g, 0, none⟩) N cap) N (iV X) ∧ Below B w w') (i := 7) (oi := { dst := some 21, op := Op.load 3 (Operand.tmp 20), type := 3, pos := _, after := #[{ on := 6, ground := Ground.data }], guard := none }) (u := ?_) rfl (by kernel_rfl) (by kernel_rfl) (by kernel_rfl) (by kernel_rfl) (by kernel_rfl) (by decide) (fun L v hL h => h.1 hL) (fun L v => by simp only [getD_set_ne true (show 7 ≠ 13 by decide), getD_set_ne true (show 7 ≠ 15 by decide)]) (fun _ _ _ h => h) (Or.inl ⟨by rfl, ?_⟩) hHeld ?_
      rotate_left
      · intro wt hSw; (try dsimp only at hSw); have c1 := HCJ.out _ hSw.1; clear hSw; first | (go_simp; done) | (go_simp; with_reducible rfl) | (trace_state; fail)
      clear hHeld; intro hHeld
      try simp only [Act.put, List.setIfInBounds_toArray, List.set_cons_zero, List.set_cons_succ]
      refine till_take 10 (fun _ => True) (i := 8) (oi := { dst := some 22, op := Op.move (Operand.tmp 0), type := 25, pos := _, after := #[], guard := none }) (u := ?_) rfl (by kernel_rfl) (by kernel_rfl) (by kernel_rfl) (by kernel_rfl) (by kernel_rfl) (by decide) (fun L v hL h => trivial) (fun L v => by simp only [getD_set_ne true (show 8 ≠ 13 by decide), getD_set_ne true (show 8 ≠ 15 by decide)]) (fun _ _ _ h => h) (Or.inl ⟨by rfl, ?_⟩) hHeld ?_
      rotate_left
      · intro wt hSw; clear hSw; first | (go_simp; done) | (go_simp; with_reducible rfl) | (trace_state; fail)
      clear hHeld; intro hHeld
      try simp only [Act.put, List.setIfInBounds_toArray, List.set_cons_zero, List.set_cons_succ]
      refine till_take 10 (fun _ => True) (i := 9) (oi := { dst := some 23, op := Op.move (Operand.tmp 2), type := 3, pos := _, after := #[], guard := none }) (u := ?_) rfl (by kernel_rfl) (by kernel_rfl) (by kernel_rfl) (by kernel_rfl) (by kernel_rfl) (by decide) (fun L v hL h => trivial) (fun L v => by simp only [getD_set_ne true (show 9 ≠ 13 by decide), getD_set_ne true (show 9 ≠ 15 by decide)]) (fun _ _ _ h => h) (Or.inl ⟨by rfl, ?_⟩) hHeld ?_
      rotate_left
      · intro wt hSw; clear hSw; first | (go_simp; done) | (go_simp; with_reducible rfl) | (trace_state; fail)
      clear hHeld; intro hHeld
      try simp only [Act.put, List.setIfInBounds_toArray, List.set_cons_zero, List.set_cons_succ]
      refine till_take 11 (fun _ => True) (i := 10) (oi := { dst := some 24, op := Op.indexAddr 25 (Operand.tmp 22) (Operand.tmp 23), type := 0, pos := _, after := #[{ on := 8, ground := Ground.data }, { on := 9, ground := Ground.data }], guard := none }) (u := ?_) rfl (by kernel_rfl) (by kernel_rfl) (by kernel_rfl) (by kernel_rfl) (by kernel_rfl) (by decide) (fun L v hL h => trivial) (fun L v => by simp only [getD_set_ne true (show 10 ≠ 13 by decide), getD_set_ne true (show 10 ≠ 15 by decide)]) (fun _ _ _ h => h) (Or.inl ⟨by rfl, ?_⟩) hHeld ?_
      rotate_left
      · intro wt hSw; clear hSw; first | (go_simp; done) | (go_simp; with_reducible rfl) | (trace_state; fail)
      clear hHeld; intro hHeld
      try simp only [Act.put, List.setIfInBounds_toArray, List.set_cons_zero, List.set_cons_succ]
      refine till_take 13 (fun (w' : World) => w'.ownsRow B e 1 (.slice (some ⟨g, 0, none⟩) N cap) N (iV X) ∧ Below B w w') (i := 11) (oi := { dst := some 25, op := Op.load 3 (Operand.tmp 24), type := 3, pos := _, after := #[{ on := 10, ground := Ground.data }], guard := none }) (u := ?_) rfl (by kernel_rfl) (by kernel_rfl) (by kernel_rfl) (by kernel_rfl) (by kernel_rfl) (by decide) (fun L v hL h => h.1 hL) (fun L v => by simp only [getD_set_ne true (show 11 ≠ 13 by decide), getD_set_ne true (show 11 ≠ 15 by decide)]) (fun _ _ _ h => h) (Or.inl ⟨by rfl, ?_⟩) hHeld ?_
      rotate_left
      · intro wt hSw; (try dsimp only at hSw); have c1 := HCI.out _ hSw.1; clear hSw; first | (go_simp; done) | (go_simp; with_reducible rfl) | (trace_state; fail)
      clear hHeld; intro hHeld
      try simp only [Act.put, List.setIfInBounds_toArray, List.set_cons_zero, List.set_cons_succ]
      refine till_take 13 (fun _ => True) (i := 12) (oi := { dst := some 26, op := Op.indexAddr 25 (Operand.tmp 14) (Operand.tmp 15), type := 0, pos := _, after := #[{ on := 0, ground := Ground.data }, { on := 1, ground := Ground.data }, { on := 0, ground := Ground.phase }, { on := 1, ground := Ground.phase }, { on := 2, ground := Ground.textOnly Departure.lateStores }, { on := 3, ground := Ground.textOnly Departure.lateStores }, { on := 4, ground := Ground.phase }, { on := 5, ground := Ground.phase }, { on := 6, ground := Ground.phase }, { on := 7, ground := Ground.phase }, { on := 8, ground := Ground.textOnly Departure.lateStores }, { on := 9, ground := Ground.textOnly Departure.lateStores }, { on := 10, ground := Ground.textOnly Departure.lateStoresUnsure }, { on := 11, ground := Ground.phase }], guard := none }) (u := ?_) rfl (by kernel_rfl) (by kernel_rfl) (by kernel_rfl) (by kernel_rfl) (by kernel_rfl) (by decide) (fun L v hL h => trivial) (fun L v => by simp only [getD_set_ne true (show 12 ≠ 13 by decide), getD_set_ne true (show 12 ≠ 15 by decide)]) (fun _ _ _ h => h) (Or.inl ⟨by rfl, ?_⟩) hHeld ?_
      rotate_left
      · intro wt hSw; clear hSw; first | (go_simp; done) | (go_simp; with_reducible rfl) | (trace_state; fail)
      clear hHeld; intro hHeld
      try simp only [Act.put, List.setIfInBounds_toArray, List.set_cons_zero, List.set_cons_succ]
      refine till_one (i := 13) (o := { dst := none, op := Op.store 3 (Operand.tmp 26) (Operand.tmp 21), type := 0, pos := _, after := #[{ on := 12, ground := Ground.data }, { on := 7, ground := Ground.data }, { on := 0, ground := Ground.phase }, { on := 1, ground := Ground.phase }, { on := 2, ground := Ground.textOnly Departure.lateStores }, { on := 3, ground := Ground.textOnly Departure.lateStores }, { on := 4, ground := Ground.phase }, { on := 5, ground := Ground.phase }, { on := 6, ground := Ground.phase }, { on := 7, ground := Ground.phase }, { on := 8, ground := Ground.textOnly Departure.lateStores }, { on := 9, ground := Ground.textOnly Departure.lateStores }, { on := 10, ground := Ground.textOnly Departure.lateStoresUnsure }, { on := 11, ground := Ground.phase }], guard := none }) (by kernel_rfl) rfl (fun K hK => ?_)
      go_simp
      refine hK.out _ _ ?_ (fun hHeld => ?_)
      · (try dsimp only); have hH := hHeld.1 (by decide); exact ⟨fun h => absurd h (by decide), fun _ _ => ⟨(hH.1.stored k (.int .i64 xj)).1, hH.2.setCell (p := ⟨g, k, none⟩) hBg _⟩, fun h => absurd h (by decide)⟩
      clear hK K
      try simp only [Act.put, List.setIfInBounds_toArray, List.set_cons_zero, List.set_cons_succ]
      refine till_take 15 (fun _ => True) (i := 14) (oi := { dst := some 27, op := Op.indexAddr 25 (Operand.tmp 16) (Operand.tmp 17), type := 0, pos := _, after := #[{ on := 2, ground := Ground.data }, { on := 3, ground := Ground.data }, { on := 0, ground := Ground.phase }, { on := 1, ground := Ground.phase }, { on := 2, ground := Ground.phase }, { on := 3, ground := Ground.phase }, { on := 4, ground := Ground.phase }, { on := 5, ground := Ground.phase }, { on := 6, ground := Ground.phase }, { on := 7, ground := Ground.phase }, { on := 8, ground := Ground.phase }, { on := 9, ground := Ground.phase }, { on := 10, ground := Ground.phase }, { on := 11, ground := Ground.phase }, { on := 12, ground := Ground.phase }, { on := 13, ground := Ground.phase }], guard := none }) (u := ?_) rfl (by kernel_rfl) (by kernel_rfl) (by kernel_rfl) (by kernel_rfl) (by kernel_rfl) (by decide) (fun L v hL h => trivial) (fun L v => by simp only [getD_set_ne true (show 14 ≠ 13 by decide), getD_set_ne true (show 14 ≠ 15 by decide)]) (fun _ _ _ h => h) (Or.inl ⟨by rfl, ?_⟩) hHeld ?_
      rotate_left
      · intro wt hSw; clear hSw; first | (go_simp; done) | (go_simp; with_reducible rfl) | (trace_state; fail)
      clear hHeld; intro hHeld
      try simp only [Act.put, List.setIfInBounds_toArray, List.set_cons_zero, List.set_cons_succ]
      refine till_one (i := 15) (o := { dst := none, op := Op.store 3 (Operand.tmp 27) (Operand.tmp 25), type := 0, pos := _, after := #[{ on := 14, ground := Ground.data }, { on := 11, ground := Ground.data }, { on := 13, ground := Ground.chain }, { on := 0, ground := Ground.phase }, { on := 1, ground := Ground.phase }, { on := 2, ground := Ground.phase }, { on := 3, ground := Ground.phase }, { on := 4, ground := Ground.phase }, { on := 5, ground := Ground.phase }, { on := 6, ground := Ground.phase }, { on := 7, ground := Ground.phase }, { on := 8, ground := Ground.phase }, { on := 9, ground := Ground.phase }, { on := 10, ground := Ground.phase }, { on := 11, ground := Ground.phase }, { on := 12, ground := Ground.phase }, { on := 13, ground := Ground.phase }], guard := none }) (by kernel_rfl) rfl (fun K hK => ?_)
      go_simp
      refine hK.out _ _ ?_ (fun hHeld => ?_)
      · (try dsimp only); have hH := hHeld.2.1 (by decide) (by decide); exact ⟨fun h => absurd h (by decide), fun _ h => absurd h (by decide), fun _ => ⟨(hH.1.stored j (.int .i64 xi)).1, hH.2.setCell (p := ⟨g, j, none⟩) hBg _⟩⟩
      clear hK K
      try simp only [Act.put, List.setIfInBounds_toArray, List.set_cons_zero, List.set_cons_succ]
      refine till_done (by kernel_rfl) ?_ _
      have HH := Lib.hid (hHeld.2.2 (by decide))
      clear hHeld hO0 hB0
      go_wp2_with fail
      go_roundw
      case rel => exact ⟨k + 1, by have := HJ.out; omega, by simp, by have := HJ.out.1; simp; omega, Lib.hid (by rw [HX.out, iV_set, iV_set]; exact HH.out.1), Lib.hid HH.out.2⟩
      case measure => have := HJ.out; first | (simp [intOf]; done) | (simp [intOf]; omega)
    · have hd := revK_done L k (by rw [HN.out]; exact hk) (by rw [HN.out]; omega)
      rw [hd] at hOr
      have q0 : ((k : Int) < (N : Int) - 1 - (k : Int)) = False := eq_false (by omega)
      clear hd hlt hk
      go_wp2_with fail
      go_end0
      exact ⟨rfl, hOr.out, hBr.out⟩
end Go.Proofs.Ytkjafkegkllbiaa
