/- Where one may go on from a place, whatever its operand. -/
import Derived.Test.YtckcgaggdeaagaaGrid
import Derived.Test.YtckcgaggdeaagaaInts
import Derived.Test.YtckcgaggdeaagaaMoreB
namespace Go.Proofs.Ytckcgaggdeaagaa
open Go.RowKit
set_option linter.unusedSimpArgs false
set_option linter.unusedVariables false
def opAt (L : List Ins) (k : Nat) : Int := (L.getD k (0, 0, 0)).1
def armsP (L : List Ins) (pc : Nat) (a : Int) : Bool := (List.range a.toNat).all fun k => opAt L (pc + 1 + k) == 30
/-- what is wrong with where one goes on from an instruction whose operand isn't below 0 -/
def jumpP (L : List Ins) (pc : Nat) (o a : Int) : Int :=
  if o = 30 ∨ o = 31 then (if a < L.length then 0 else 11) else if o = 32 then (if a < (L.length : Int) - 1 - pc then (if armsP L pc a = true then 0 else 11) else 11) else 0
theorem jumpP_j {L : List Ins} {pc : Nat} {o a : Int} (h : o = 30 ∨ o = 31) : jumpP L pc o a = if a < L.length then 0 else 11 := if_pos h
theorem jumpP_s {L : List Ins} {pc : Nat} {a : Int} : jumpP L pc 32 a = if a < (L.length : Int) - 1 - pc then (if armsP L pc a = true then 0 else 11) else 11 := by unfold jumpP; rw [if_neg (by decide), if_pos rfl]
theorem jumpP_n {L : List Ins} {pc : Nat} {o a : Int} (h : ¬ (o = 30 ∨ o = 31)) (h2 : o ≠ 32) : jumpP L pc o a = 0 := by unfold jumpP; rw [if_neg h, if_neg h2]
theorem armsP_yes {L : List Ins} {pc : Nat} {a : Int} (h : ∀ k, k < a.toNat → opAt L (pc + 1 + k) = 30) : armsP L pc a = true := by
  unfold armsP; rw [List.all_eq_true]; intro k hk; rw [List.mem_range] at hk; rw [h k hk]; rfl
theorem armsP_no {L : List Ins} {pc : Nat} {a : Int} {k : Nat} (hk : k < a.toNat) (h : opAt L (pc + 1 + k) ≠ 30) : armsP L pc a = false := by
  rw [Bool.eq_false_iff]; intro ha
  unfold armsP at ha; rw [List.all_eq_true] at ha
  have := ha k (List.mem_range.2 hk)
  exact h (by simpa using this)
theorem code_at {w : World} {a : Option Addr} {n cap : Nat} {L : List Ins} (hv : RowR 3 insR w (.slice a n cap) L) {k : Nat} (hk : k < L.length) : ∃ b off, a = some ⟨b, off, none⟩ ∧ b < w.heap.size ∧ ∀ i x, L[i]? = some x → w.cell? ⟨b, off + i * 3, none⟩ = some (.int .i64 x.1) ∧ w.cell? ⟨b, off + i * 3 + 1, none⟩ = some (.int .i64 x.2.1) ∧ w.cell? ⟨b, off + i * 3 + 2, none⟩ = some (.int .i64 x.2.2) ∧ I64 x.1 ∧ I64 x.2.1 ∧ I64 x.2.2 := by
  obtain ⟨b, off, e, hb, h⟩ := row_at hv hk
  exact ⟨b, off, e, hb, fun i x hx => ins_cells h hx⟩
theorem opAt_get {L : List Ins} {k : Nat} {x : Ins} (h : L[k]? = some x) : opAt L k = x.1 := by unfold opAt; simp [List.getD, h]
set_option maxRecDepth 100000 in
set_option maxHeartbeats 4000000 in
theorem refs_Jump (v : Value) (L : List Ins) (pc : Nat) (x : Ins) (w : World) (h : RowR 3 insR w v L) (hx : L[pc]? = some x) (ha : 0 ≤ x.2.1) (hL : L.length ≤ 300) :
    Calls Try.prog 14 #[v, .int .i64 pc] w fun e w' => e = .returned (.int .i64 (jumpP L pc x.1 x.2.1)) ∧ Below w.heap.size w w' := by
  have cp := @cell_past
  obtain ⟨s, t, rfl⟩ := row_get h
  obtain ⟨b, off, rfl, hbw, hc⟩ := code_at h (lt_of_get hx)
  obtain ⟨c0, c1, c2, i0, i1, i2⟩ := hc pc x hx
  have hpc := lt_of_get hx
  have q0 : ((pc : Int) < 0) = False := eq_false (by omega)
  have q1 : ((L.length : Int) ≤ (pc : Int)) = False := eq_false (by omega)
  have q2 : ((pc : Int) < (L.length : Int)) = True := eq_true (by omega)
  obtain ⟨o, a, bb⟩ := x
  simp only at ha c0 c1 c2 i0 i1 i2 ⊢
  have r0 : (a < 0) = False := eq_false (by omega)
  by_cases d : o = 30 ∨ o = 31
  · have hj := jumpP_j (L := L) (pc := pc) (a := a) d
    by_cases g : a < L.length
    · have hs := Lib.hid (hj.trans (if_pos g))
      have g1 : (a < (L.length : Int)) = True := eq_true g
      have g2 : ((L.length : Int) ≤ a) = False := eq_false (by omega)
      generalize L.length = n at *
      clear hj hc h hx hpc g
      rcases d with rfl | rfl
      all_goals
        go_enter Try.func14, Try.ntmps14
        go_wp2_with fail
        go_ret
        exact ⟨by rw [hs.out]; rfl, by (repeat' (first | (with_reducible exact Below.refl _ _) | (with_reducible assumption) | (with_reducible refine below_drewN ?_ _) | (with_reducible refine Below.alloc ?_ ?_ _) | (with_reducible refine Below.drew ?_) | (with_reducible refine Below.setCell ?_ ?_ _) | go_size))⟩
    · have hs := Lib.hid (hj.trans (if_neg g))
      have g1 : (a < (L.length : Int)) = False := eq_false g
      have g2 : ((L.length : Int) ≤ a) = True := eq_true (by omega)
      generalize L.length = n at *
      clear hj hc h hx hpc g
      rcases d with rfl | rfl
      all_goals
        go_enter Try.func14, Try.ntmps14
        go_wp2_with fail
        go_ret
        exact ⟨by rw [hs.out]; rfl, by (repeat' (first | (with_reducible exact Below.refl _ _) | (with_reducible assumption) | (with_reducible refine below_drewN ?_ _) | (with_reducible refine Below.alloc ?_ ?_ _) | (with_reducible refine Below.drew ?_) | (with_reducible refine Below.setCell ?_ ?_ _) | go_size))⟩
  by_cases d2 : o = 32
  · subst d2
    have hj := jumpP_s (L := L) (pc := pc) (a := a)
    by_cases g : a < (L.length : Int) - 1 - pc
    · rw [if_pos g] at hj
      have HY := Lib.hid (fun hh => hj.trans (if_pos (armsP_yes (L := L) (pc := pc) (a := a) hh)))
      have HN := Lib.hid (fun k hk hh => hj.trans (if_neg (by rw [armsP_no (L := L) (pc := pc) (a := a) (k := k) hk hh]; decide)))
      have g2 : ((L.length : Int) - 1 - pc ≤ a) = False := eq_false (by omega)
      have HG := Lib.hid g
      obtain ⟨n, hn⟩ : ∃ n, L.length = n := ⟨_, rfl⟩
      have Hn := Lib.hid hn
      have Hc := Lib.hid hc
      clear hj g d hc h hx
      rw [hn] at HG q1 q2 g2 hpc hL
      rw [hn]
      clear hn
      go_enter Try.func14, Try.ntmps14
      go_wp2_with fail
      go_loopw [6] (fun jj wr => ∃ k : Nat, (k : Int) ≤ a ∧ jj = .int .i64 ((k : Int) + 1) ∧ Hid (∀ j, j < k → opAt L (pc + 1 + j) = 30) ∧ wr = w.alloc (.cells #[.int .i64 32, .int .i64 a, .int .i64 bb] 35)) (fun jj _ => (a + 1 - intOf jj).toNat)
      case atStart => exact ⟨0, by omega, rfl, Lib.hid (fun j hj => by omega), rfl⟩
      case round =>
        obtain ⟨k, hk, rfl, hall, rfl⟩ := hrel
        by_cases hlt : (k : Int) + 1 ≤ a
        · have m1 : ((k : Int) + 1 ≤ a) = True := eq_true hlt
          have hltH := Lib.hid hlt
          have hkn : pc + 1 + k < n := by have := HG.out; omega
          obtain ⟨y, hy⟩ := get_some (L := L) (n := pc + 1 + k) (by rw [Hn.out]; exact hkn)
          obtain ⟨y0, _⟩ := Hc.out _ y hy
          have hoy := opAt_get hy
          have m2 : (0 ≤ (pc : Int) + ((k : Int) + 1)) = True := eq_true (by omega)
          have m3 : ((pc : Int) + ((k : Int) + 1) < (n : Int)) = True := eq_true (by omega)
          have m4 : ((pc : Int) + ((k : Int) + 1)).toNat = pc + 1 + k := by omega
          by_cases g30 : y.1 = 30
          · have hs := Lib.hid (show ∀ j, j < k + 1 → opAt L (pc + 1 + j) = 30 by
              intro j hj
              by_cases hjk : j = k
              · rw [hjk, hoy, g30]
              · exact hall.out j (by omega))
            rw [g30] at y0
            clear hy hoy g30 hall hlt
            go_wp2_with fail
            go_roundw
            case rel => exact ⟨k + 1, by have := hltH.out; omega, by simp, hs, trivial⟩
            case measure => have := hltH.out; first | (simp [intOf]; done) | (simp [intOf]; omega)
          · have hs := Lib.hid (HN.out k (by omega) (by rw [hoy]; exact g30))
            have m5 : (y.1 != 30) = true := by simpa using g30
            generalize y.1 = yo at *
            clear hy hoy g30 hall hlt
            go_wp2_with fail
            go_ret
            exact ⟨by rw [hs.out]; rfl, by (repeat' (first | (with_reducible exact Below.refl _ _) | (with_reducible assumption) | (with_reducible refine below_drewN ?_ _) | (with_reducible refine Below.alloc ?_ ?_ _) | (with_reducible refine Below.drew ?_) | (with_reducible refine Below.setCell ?_ ?_ _) | go_size))⟩
        · have m1 : ((k : Int) + 1 ≤ a) = False := eq_false hlt
          have hs := Lib.hid (HY.out (fun j hj => hall.out j (by omega)))
          clear hall hlt
          go_wp2_with fail
          go_ret
          exact ⟨by rw [hs.out]; rfl, by (repeat' (first | (with_reducible exact Below.refl _ _) | (with_reducible assumption) | (with_reducible refine below_drewN ?_ _) | (with_reducible refine Below.alloc ?_ ?_ _) | (with_reducible refine Below.drew ?_) | (with_reducible refine Below.setCell ?_ ?_ _) | go_size))⟩
    · have hs := Lib.hid (hj.trans (if_neg g))
      have g2 : ((L.length : Int) - 1 - pc ≤ a) = True := eq_true (by omega)
      generalize L.length = n at *
      clear hj hc h hx g d
      go_enter Try.func14, Try.ntmps14
      go_wp2_with fail
      go_ret
      exact ⟨by rw [hs.out]; rfl, by (repeat' (first | (with_reducible exact Below.refl _ _) | (with_reducible assumption) | (with_reducible refine below_drewN ?_ _) | (with_reducible refine Below.alloc ?_ ?_ _) | (with_reducible refine Below.drew ?_) | (with_reducible refine Below.setCell ?_ ?_ _) | go_size))⟩
  · have hs := Lib.hid (jumpP_n (L := L) (pc := pc) (a := a) d d2)
    have v0 : (o == 30) = false := beq_eq_false_iff_ne.2 (fun q => d (Or.inl q))
    have v1 : (o == 31) = false := beq_eq_false_iff_ne.2 (fun q => d (Or.inr q))
    have v2 : (o == 32) = false := beq_eq_false_iff_ne.2 d2
    generalize L.length = n at *
    clear hc h hx hpc d d2
    go_enter Try.func14, Try.ntmps14
    go_wp2_with fail
    go_ret
    exact ⟨by rw [hs.out]; rfl, by (repeat' (first | (with_reducible exact Below.refl _ _) | (with_reducible assumption) | (with_reducible refine below_drewN ?_ _) | (with_reducible refine Below.alloc ?_ ?_ _) | (with_reducible refine Below.drew ?_) | (with_reducible refine Below.setCell ?_ ?_ _) | go_size))⟩
/-- what is wrong with where one goes on from an instruction -/
def jumpQ (L : List Ins) (pc : Nat) (o a : Int) : Int := if a < 0 then (if o = 30 ∨ o = 31 then 11 else 0) else jumpP L pc o a
set_option maxRecDepth 100000 in
set_option maxHeartbeats 4000000 in
theorem refs_JumpQ (v : Value) (L : List Ins) (pc : Nat) (x : Ins) (w : World) (h : RowR 3 insR w v L) (hx : L[pc]? = some x) (hL : L.length ≤ 300) :
    Calls Try.prog 14 #[v, .int .i64 pc] w fun e w' => e = .returned (.int .i64 (jumpQ L pc x.1 x.2.1)) ∧ Below w.heap.size w w' := by
  by_cases ha : 0 ≤ x.2.1
  · unfold jumpQ
    rw [if_neg (by omega)]
    exact refs_Jump v L pc x w h hx ha hL
  have HQ := Lib.hid (show jumpQ L pc x.1 x.2.1 = if x.1 = 30 ∨ x.1 = 31 then 11 else 0 by unfold jumpQ; rw [if_pos (by omega)])
  generalize jumpQ L pc x.1 x.2.1 = Z at *
  have cp := @cell_past
  obtain ⟨s, t, rfl⟩ := row_get h
  obtain ⟨b, off, rfl, hbw, hc⟩ := code_at h (lt_of_get hx)
  obtain ⟨c0, c1, c2, i0, i1, i2⟩ := hc pc x hx
  have hpc := lt_of_get hx
  have q0 : ((pc : Int) < 0) = False := eq_false (by omega)
  have q1 : ((L.length : Int) ≤ (pc : Int)) = False := eq_false (by omega)
  have q2 : ((pc : Int) < (L.length : Int)) = True := eq_true (by omega)
  obtain ⟨o, a, bb⟩ := x
  simp only at ha c0 c1 c2 i0 i1 i2 HQ ⊢
  have r0 : (a < 0) = True := eq_true (by omega)
  have r1 : ((L.length : Int) - 1 - (pc : Int) ≤ a) = False := eq_false (by omega)
  have r1' : ((L.length : Int) - 1 ≤ a + (pc : Int)) = False := eq_false (by omega)
  have r2 : ((1 : Int) ≤ a) = False := eq_false (by omega)
  have r3 : (0 < a) = False := eq_false (by omega)
  generalize L.length = n at *
  by_cases d : o = 30 ∨ o = 31
  · have HE := Lib.hid (show Z = 11 by rw [HQ.out, if_pos d])
    clear hc h hx hpc ha
    rcases d with rfl | rfl
    all_goals
      go_enter Try.func14, Try.ntmps14
      go_wp2_with fail
      go_ret
      exact ⟨by rw [HE.out]; rfl, by (repeat' (first | (with_reducible exact Below.refl _ _) | (with_reducible assumption) | (with_reducible refine below_drewN ?_ _) | (with_reducible refine Below.alloc ?_ ?_ _) | (with_reducible refine Below.drew ?_) | (with_reducible refine Below.setCell ?_ ?_ _) | go_size))⟩
  have HE := Lib.hid (show Z = 0 by rw [HQ.out, if_neg d])
  have e30 : (o == 30) = false := by simpa using fun h => d (Or.inl h)
  have e31 : (o == 31) = false := by simpa using fun h => d (Or.inr h)
  by_cases e : o = 32
  · subst e
    clear hc h hx d ha
    go_enter Try.func14, Try.ntmps14
    go_wp2_with fail
    obtain ⟨W0, hW0⟩ : ∃ W, W = w.alloc (.cells #[.int .i64 32, .int .i64 a, .int .i64 bb] 35) := ⟨_, rfl⟩
    have hb0 : Below w.heap.size w W0 := by rw [hW0]; exact by (repeat' (first | (with_reducible exact Below.refl _ _) | (with_reducible assumption) | (with_reducible refine below_drewN ?_ _) | (with_reducible refine Below.alloc ?_ ?_ _) | (with_reducible refine Below.drew ?_) | (with_reducible refine Below.setCell ?_ ?_ _) | go_size))
    have o0 : W0.heap[w.heap.size]? = some (.cells #[.int .i64 32, .int .i64 a, .int .i64 bb] 35) := by rw [hW0]; exact get_last rfl
    have k0 : W0.cell? ⟨w.heap.size, 0, none⟩ = some (.int .i64 32) := obj_cell o0 (i := 0) rfl
    have k1 : W0.cell? ⟨w.heap.size, 1, none⟩ = some (.int .i64 a) := obj_cell o0 (i := 1) rfl
    rw [← hW0]
    have HB0 := Lib.hid hb0
    clear hW0 hb0 o0 c0 c1 c2 cp
    go_loopw [6] (fun jj wr => jj = .int .i64 1 ∧ wr = W0) (fun _ _ => 0)
    case atStart => exact ⟨rfl, rfl⟩
    case round =>
      obtain ⟨rfl, hwr⟩ := hrel
      have hwr := hwr.symm
      subst hwr
      go_wp2_with fail
      go_ret
      exact ⟨by rw [HE.out]; rfl, HB0.out⟩
  · have e32 : (o == 32) = false := by simpa using e
    clear hc h hx hpc d e ha
    go_enter Try.func14, Try.ntmps14
    go_wp2_with fail
    go_ret
    exact ⟨by rw [HE.out]; rfl, by (repeat' (first | (with_reducible exact Below.refl _ _) | (with_reducible assumption) | (with_reducible refine below_drewN ?_ _) | (with_reducible refine Below.alloc ?_ ?_ _) | (with_reducible refine Below.drew ?_) | (with_reducible refine Below.setCell ?_ ?_ _) | go_size))⟩
end Go.Proofs.Ytckcgaggdeaagaa
