/- dom.Dominates: going up by a list. -/
import Derived.Test.YtemihfcenmhieaaOwn
import Derived.Test.YtemihfcenmhieaaKeep
import Derived.Test.YtemihfcenmhieaaHeap
import Derived.Test.YtemihfcenmhieaaDomC
namespace Go.Proofs.Ytemihfcenmhieaa
open Go.RowKit
set_option linter.unusedSimpArgs false
set_option linter.unusedVariables false
open DM (gI okN)
/-- where one is behind so many steps up, unless one has come to a, or to what is no place -/
def upW (L : List Int) (a : Int) : Nat → Int → Int
  | 0, b => b
  | k + 1, b => if a = b ∨ okN L.length b = false then b else upW L a k (gI L b.toNat)
def upB (L : List Int) (a b : Int) : Bool := okN L.length b && decide (a = upW L a L.length b)
/-- does one come to a in so many steps? -/
def hitB (L : List Int) (a : Int) : Nat → Int → Bool
  | 0, _ => false
  | k + 1, b => if a = b then true else if okN L.length b = true then hitB L a k (gI L b.toNat) else false
theorem up_hit (L : List Int) (a : Int) : ∀ k b, decide (a = upW L a k b) = hitB L a (k + 1) b
  | 0, b => by unfold upW hitB hitB; by_cases h : a = b <;> simp [h]
  | k + 1, b => by
    unfold upW hitB
    by_cases h : a = b
    · simp [h]
    · by_cases h2 : okN L.length b = true
      · simp [h, h2]
        rw [← up_hit L a k]
      · have h3 : okN L.length b = false := by simpa using h2
        simp [h, h3]
theorem dom_there (g n c : Nat) (a : Option Addr) (i : Int) (w : World) (h : w.cell? ⟨g, 0, none⟩ = some (.slice a n c)) (hn : n ≤ 9223372036854775807) :
    Calls Try.prog 25 #[.int .i64 i, .pointer (some ⟨g, 0, none⟩)] w fun r w' => r = .returned (.bool (okN n i)) ∧ w = w' := by
  by_cases h0 : 0 ≤ i
  · have q0 : (0 ≤ i) = True := eq_true h0
    have q1 : (i < 0) = False := eq_false (by omega)
    by_cases h1 : i < (n : Int)
    · have q2 : (i < (n : Int)) = True := eq_true h1
      have hr := Lib.hid (show okN n i = true from decide_eq_true ⟨h0, h1⟩)
      clear h0 h1
      go_enter Try.func25, Try.ntmps25
      go_wp2_with fail
      go_ret
      exact ⟨by rw [hr.out]; rfl, rfl⟩
    · have q2 : (i < (n : Int)) = False := eq_false h1
      have hr := Lib.hid (show okN n i = false from decide_eq_false (fun h => h1 h.2))
      clear h0 h1
      go_enter Try.func25, Try.ntmps25
      go_wp2_with fail
      go_ret
      exact ⟨by rw [hr.out]; rfl, rfl⟩
  · have q0 : (0 ≤ i) = False := eq_false h0
    have hr := Lib.hid (show okN n i = false from decide_eq_false (fun h => h0 h.1))
    clear h0
    go_enter Try.func25, Try.ntmps25
    go_wp2_with fail
    go_ret
    exact ⟨by rw [hr.out]; rfl, rfl⟩
set_option maxHeartbeats 2000000 in
theorem dom_Dominates (v : Value) (L : List Int) (a b : Int) (w : World) (hv : RowR 1 intR w v L) :
    Calls Try.prog 18 #[v, .int .i64 a, .int .i64 b] w fun r w' => r = .returned (.bool (upB L a b)) ∧ Below w.heap.size w w' := by
  have hmf : ∀ (fn : Fn) (first cap : Array Value) (w : World), (Instr.makeFunc fn first cap).run Try.prog w = .ok (.func fn first cap) w := fun _ _ _ _ => rfl
  have hlen := hv.len
  have HV := Lib.hid (fun W (h : Below w.heap.size w W) => hv.below intR_stable h)
  obtain ⟨ad, cap, rfl⟩ := row_get hv
  obtain ⟨N, hN⟩ : ∃ N, L.length = N := ⟨_, rfl⟩
  have HN := Lib.hid hN
  rw [hN] at hlen HV ⊢
  clear hN hv
  obtain ⟨W, hW⟩ : ∃ W, W = w.alloc (.cells #[.slice ad N cap] 26) := ⟨_, rfl⟩
  have hbW : Below w.heap.size w W := by rw [hW]; exact by (repeat' (first | (with_reducible exact Below.refl _ _) | (with_reducible assumption) | (with_reducible refine below_drewN ?_ _) | (with_reducible refine Below.alloc ?_ ?_ _) | (with_reducible refine Below.drew ?_) | (with_reducible refine Below.setCell ?_ ?_ _) | go_size))
  have oB : W.heap[w.heap.size]? = some (.cells #[.slice ad N cap] 26) := by rw [hW]; exact get_last rfl
  have cB : W.cell? ⟨w.heap.size, 0, none⟩ = some (.slice ad N cap) := obj_cell oB (i := 0) rfl
  have HW := Lib.hid hW
  have HBW := Lib.hid hbW
  have hT := fun i => dom_there w.heap.size N cap ad i W cB hlen
  have HZ := Lib.hid (show upB L a b = (okN N b && decide (a = upW L a N b)) by unfold upB; rw [HN.out])
  generalize upB L a b = Z at *
  clear hW hbW oB
  cases hb : okN N b
  · have hb1 := hT b
    rw [hb] at hb1 HZ
    clear hT hb
    go_enter Try.func18, Try.ntmps18
    go_wp2_with fail
    rw [← HW.out]
    refine hb1.mono ?_; rintro r w2 ⟨rfl, rfl⟩
    go_wp2_with fail
    go_ret
    exact ⟨by rw [HZ.out]; rfl, HBW.out⟩
  have hb1 := hT b
  rw [hb] at hb1
  have HZ := Lib.hid (show Z = decide (a = upW L a N b) by rw [HZ.out, hb]; rfl)
  clear hb
  go_enter Try.func18, Try.ntmps18
  go_wp2_with fail
  rw [← HW.out]
  refine hb1.mono ?_; rintro r w2 ⟨rfl, rfl⟩
  go_wp2_with fail
  go_loopw [2, 15] (fun bb jj wr => ∃ (k : Nat) (z : Int), k ≤ N ∧ bb = .int .i64 z ∧ jj = .int .i64 k ∧ Hid (upW L a N b = upW L a (N - k) z) ∧ wr = W) (fun _ jj _ => N - (intOf jj).toNat)
  case atStart => exact ⟨0, b, by omega, rfl, rfl, Lib.hid (by simp), rfl⟩
  case round =>
    obtain ⟨k, z, hk, rfl, rfl, hE, hwr⟩ := hrel
    have hwr := hwr.symm
    subst hwr
    have hk63 : k ≤ 9223372036854775807 := by omega
    by_cases hlt : k < N
    · have qk : ((k : Int) < (N : Int)) = True := eq_true (by omega)
      have qk' : (k < N) = True := eq_true hlt
      have hk62 : k ≤ 9223372036854775806 := by omega
      have HE := Lib.hid (show upW L a N b = if a = z ∨ okN N z = false then z else upW L a (N - (k + 1)) (gI L z.toNat) by
        rw [hE.out, show N - k = (N - (k + 1)) + 1 by omega]
        show (if a = z ∨ okN L.length z = false then z else _) = _
        rw [HN.out])
      clear hE
      by_cases haz : a = z
      · subst haz
        have hR := Lib.hid (show Z = true by rw [HZ.out, HE.out, if_pos (.inl rfl)]; simp)
        clear hlt
        go_wp2_with fail
        go_ret
        exact ⟨by rw [hR.out]; rfl, HBW.out⟩
      · have eaz : (a == z) = false := by simpa using haz
        have hz1 := hT z
        cases hz : okN N z
        · rw [hz] at hz1
          have hR := Lib.hid (show Z = false by rw [HZ.out, HE.out, if_pos (.inr hz)]; simpa using haz)
          clear hlt haz hz
          go_wp2_with fail
          refine hz1.mono ?_; rintro r w2 ⟨rfl, rfl⟩
          go_wp2_with fail
          go_ret
          exact ⟨by rw [hR.out]; rfl, HBW.out⟩
        · rw [hz] at hz1
          obtain ⟨hz2, hz3⟩ := DM.okN_cast hz
          obtain ⟨j, rfl⟩ : ∃ j : Nat, z = (j : Int) := ⟨z.toNat, hz2.symm⟩
          simp only [Int.toNat_natCast] at hz3 HE
          have hE' := Lib.hid (show upW L a N b = upW L a (N - (k + 1)) (gI L j) by rw [HE.out, if_neg (by rintro (h | h); exact haz h; rw [hz] at h; cases h)])
          have hVr := HV.out _ HBW.out
          obtain ⟨x, hx⟩ := get_some (L := L) (n := j) (by rw [HN.out]; exact hz3)
          obtain ⟨b1, off, rfl, hbw, hc⟩ := ints_at hVr (k := j) (by rw [HN.out]; exact hz3)
          have hc := (hc j x hx).1
          have hxe : gI L j = x := by unfold gI; simp [List.getD, hx]
          rw [hxe] at hE'
          have qj : ((j : Int) < (N : Int)) = True := eq_true (by omega)
          have qj' : (j < N) = True := eq_true hz3
          have HLT := Lib.hid hlt
          clear hVr hx hxe hz2 hz3 hz haz HE hlt
          go_wp2_with fail
          refine hz1.mono ?_; rintro r w2 ⟨rfl, rfl⟩
          go_wp2_with fail
          go_roundw
          case rel => exact ⟨k + 1, x, by have := HLT.out; omega, rfl, by simp, hE', by first | rfl | trivial⟩
          case measure => have := HLT.out; first | (simp [intOf]; done) | (simp [intOf]; omega)
    · obtain rfl : k = N := by omega
      have qk : ((k : Int) < (k : Int)) = False := eq_false (by omega)
      have qk' : (k < k) = False := eq_false (by omega)
      have hR := Lib.hid (show Z = decide (a = z) by rw [HZ.out, hE.out, Nat.sub_self]; rfl)
      clear hE hlt
      by_cases haz : a = z
      · subst haz
        have eaz : (a == a) = true := by simp
        go_wp2_with fail
        go_ret
        exact ⟨by rw [hR.out]; simp, HBW.out⟩
      · have eaz : (a == z) = false := by simpa using haz
        have hR := Lib.hid (show Z = false by rw [hR.out]; simpa using haz)
        clear haz
        go_wp2_with fail
        go_ret
        exact ⟨by rw [hR.out]; rfl, HBW.out⟩
end Go.Proofs.Ytemihfcenmhieaa
