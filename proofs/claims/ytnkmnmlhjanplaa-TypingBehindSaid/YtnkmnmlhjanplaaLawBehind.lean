/- Layer 20: the walk of TypingBehind. -/
import Derived.Test.YtnkmnmlhjanplaaBhAwake
import Derived.Deep.RegionHeld3
namespace Go.Proofs.Ytnkmnmlhjanplaa
open Go.RowKit
set_option linter.unusedSimpArgs false
set_option linter.unusedVariables false
set_option maxHeartbeats 2000000 in
theorem typing_Behind_out (v : Value) (L : List Ins) (pc : Int) (w : World) (hv : RowR 3 insR w v L) (h : ¬ (0 ≤ pc ∧ pc < L.length)) :
    Calls Try.prog 6 #[v, .int .i64 pc] w fun e w' => ∃ r, e = .returned r ∧ RowR 1 intR w' r [] ∧ Below w.heap.size w w' := by
  obtain ⟨sa, ca, rfl⟩ := bh_get hv
  clear hv
  generalize L.length = n at *
  by_cases h0 : pc < 0
  · have q0 : (pc < 0) = True := eq_true h0
    clear h h0
    go_enter Try.func6, Try.ntmps6
    go_wp2_with fail
    go_ret
    exact ⟨_, rfl, row_none, by (repeat' (first | (with_reducible exact Below.refl _ _) | (with_reducible assumption) | (with_reducible refine below_drewN ?_ _) | (with_reducible refine Below.alloc ?_ ?_ _) | (with_reducible refine Below.drew ?_) | (with_reducible refine Below.setCell ?_ ?_ _) | go_size))⟩
  · have q0 : (pc < 0) = False := eq_false h0
    have q1 : ((n : Int) ≤ pc) = True := eq_true (by omega)
    clear h h0
    go_enter Try.func6, Try.ntmps6
    go_wp2_with fail
    go_ret
    exact ⟨_, rfl, row_none, by (repeat' (first | (with_reducible exact Below.refl _ _) | (with_reducible assumption) | (with_reducible refine below_drewN ?_ _) | (with_reducible refine Below.alloc ?_ ?_ _) | (with_reducible refine Below.drew ?_) | (with_reducible refine Below.setCell ?_ ?_ _) | go_size))⟩
set_option maxHeartbeats 2000000 in
theorem ref20_Behind_out (v : Value) (L : List Ins) (pc : Int) (w : World) (hv : RowR 3 insR w v L) (h : ¬ (0 ≤ pc ∧ pc < L.length)) :
    Calls Try.prog 7 #[v, .int .i64 pc] w fun e w' => ∃ r, e = .returned r ∧ RowR 1 intR w' r [] ∧ Below w.heap.size w w' := by
  obtain ⟨sa, ca, rfl⟩ := bh_get hv
  clear hv
  generalize L.length = n at *
  by_cases h0 : pc < 0
  · have q0 : (pc < 0) = True := eq_true h0
    clear h h0
    go_enter Try.func7, Try.ntmps7
    go_wp2_with fail
    go_ret
    exact ⟨_, rfl, row_none, by (repeat' (first | (with_reducible exact Below.refl _ _) | (with_reducible assumption) | (with_reducible refine below_drewN ?_ _) | (with_reducible refine Below.alloc ?_ ?_ _) | (with_reducible refine Below.drew ?_) | (with_reducible refine Below.setCell ?_ ?_ _) | go_size))⟩
  · have q0 : (pc < 0) = False := eq_false h0
    have q1 : ((n : Int) ≤ pc) = True := eq_true (by omega)
    clear h h0
    go_enter Try.func7, Try.ntmps7
    go_wp2_with fail
    go_ret
    exact ⟨_, rfl, row_none, by (repeat' (first | (with_reducible exact Below.refl _ _) | (with_reducible assumption) | (with_reducible refine below_drewN ?_ _) | (with_reducible refine Below.alloc ?_ ?_ _) | (with_reducible refine Below.drew ?_) | (with_reducible refine Below.setCell ?_ ?_ _) | go_size))⟩
def okIns (n : Nat) (x : Ins) : Prop := 0 ≤ x.2.1 ∧ x.2.1 ≤ 65535 ∧ (x.1 = 32 → x.2.1 ≤ n)
set_option maxHeartbeats 8000000 in
theorem typingBehind_walk (v : Value) (L : List Ins) (pc : Int) (w : World) (hv : RowR 3 insR w v L) :
    Calls Try.prog 3 #[v, .int .i64 pc] w fun e w' => e = .returned (.bool true) ∧ Below w.heap.size w w' := by
  have HA := Lib.hid law20_awake
  have HV := Lib.hid hv
  have HP : Hid ((∀ (i : Nat) (x : Ins), i < L.length → L[i]? = some x → okIns L.length x) → L.length ≤ 300 → ∃ F : List Int, ∀ W, Below w.heap.size w W → (Calls Try.prog 6 #[v, .int .i64 pc] W fun e w' => ∃ r, e = .returned r ∧ RowR 1 intR w' r F ∧ Below W.heap.size W w') ∧ (Calls Try.prog 7 #[v, .int .i64 pc] W fun e w' => ∃ r, e = .returned r ∧ RowR 1 intR w' r F ∧ Below W.heap.size W w')) := Lib.hid (fun hall hl => by
    by_cases hp : 0 ≤ pc ∧ pc < L.length
    · obtain ⟨k, rfl⟩ := Int.eq_ofNat_of_zero_le hp.1
      obtain ⟨x, hx⟩ := get_some (L := L) (n := k) (by omega)
      obtain ⟨o1, o2, o3⟩ := hall k x (by omega) hx
      refine ⟨behL x k, fun W hW => ⟨typing_Behind v L k x W (hv.below insR_stable hW) hx hl ⟨o1, o2⟩ o3, ?_⟩⟩
      have := ref20_Behind v L k x W (hv.below insR_stable hW) hx hl ⟨o1, o2⟩
      rw [may_beh x k (by omega) ⟨o1, o2⟩ (fun h => by have := o3 h; omega)] at this
      exact this
    · exact ⟨[], fun W hW => ⟨typing_Behind_out v L pc W (hv.below insR_stable hW) hp, ref20_Behind_out v L pc W (hv.below insR_stable hW) hp⟩⟩)
  obtain ⟨sa, ca, rfl⟩ := bh_get hv
  obtain ⟨n, hn⟩ : ∃ n, L.length = n := ⟨_, rfl⟩
  have HN := Lib.hid hn
  rw [hn] at HV HP
  rw [hn]
  clear hv hn
  by_cases hl : n ≤ 300
  case neg =>
    have q0 : ((n : Int) ≤ 300) = False := eq_false (by omega)
    have q0' : ((300 : Int) < (n : Int)) = True := eq_true (by omega)
    clear hl
    go_enter Try.func3, Try.ntmps3
    go_wp2_with fail
    refine (HA.out _).mono ?_; rintro e w1 ⟨rfl, hb1⟩
    go_wp2_with fail
    go_ret
    exact ⟨rfl, hb1⟩
  have q0 : ((n : Int) ≤ 300) = True := eq_true (by omega)
  have q0' : ((300 : Int) < (n : Int)) = False := eq_false (by omega)
  have HL := Lib.hid hl
  go_enter Try.func3, Try.ntmps3
  go_wp2_with fail
  go_loopw [5] (fun jj wr => ∃ k : Nat, k ≤ n ∧ jj = .int .i64 k ∧ Hid (∀ (i : Nat) (x : Ins), i < k → L[i]? = some x → okIns n x) ∧ Below w.heap.size w wr) (fun jj _ => n - (intOf jj).toNat)
  case atStart => exact ⟨0, by omega, rfl, Lib.hid (fun i x hi _ => by omega), Below.refl _ _⟩
  case round =>
    obtain ⟨k, hk, rfl, hall, hB⟩ := hrel
    by_cases hlt : k < n
    · have q1 : ((k : Int) < (n : Int)) = True := eq_true (by omega)
      obtain ⟨x, hx⟩ := get_some (L := L) (n := k) (by rw [HN.out]; exact hlt)
      obtain ⟨b, off, hsa, hbw, hc⟩ := bh_at HV.out (k := k) (lt_of_get hx)
      subst hsa
      obtain ⟨c0, c1, c2, _⟩ := hc k x hx
      have c0 := (hB.cell (p := ⟨b, off + k * 3, none⟩) hbw).trans c0
      have c1 := (hB.cell (p := ⟨b, off + k * 3 + 1, none⟩) hbw).trans c1
      have Hx := Lib.hid hx
      clear hc hx c2
      obtain ⟨o, A, bb⟩ := x
      dsimp only at c0 c1
      by_cases h1 : A < 0
      · have q2 : (A < 0) = True := eq_true h1
        clear h1
        go_wp2_with fail
        refine (HA.out _).mono ?_; rintro e w1 ⟨rfl, hb1⟩
        have hB1 := hB.trans (hb1.mono hB.size)
        go_wp2_with fail
        go_ret
        exact ⟨rfl, hB1⟩
      have q2 : (A < 0) = False := eq_false h1
      by_cases h2 : 65535 < A
      · have q3 : (65535 < A) = True := eq_true h2
        clear h1 h2
        go_wp2_with fail
        refine (HA.out _).mono ?_; rintro e w1 ⟨rfl, hb1⟩
        have hB1 := hB.trans (hb1.mono hB.size)
        go_wp2_with fail
        go_ret
        exact ⟨rfl, hB1⟩
      have q3 : (65535 < A) = False := eq_false h2
      by_cases h3 : o = 32
      · have q4 : (o == 32) = true := by simp [h3]
        by_cases h4 : (n : Int) < A
        · have q5 : ((n : Int) < A) = True := eq_true h4
          clear h1 h2 h3 h4
          go_wp2_with fail
          refine (HA.out _).mono ?_; rintro e w1 ⟨rfl, hb1⟩
          have hB1 := hB.trans (hb1.mono hB.size)
          go_wp2_with fail
          go_ret
          exact ⟨rfl, hB1⟩
        · have q5 : ((n : Int) < A) = False := eq_false h4
          have HH := Lib.hid (show okIns n (o, A, bb) from ⟨by dsimp only; omega, by dsimp only; omega, fun _ => by dsimp only; omega⟩)
          clear h1 h2 h3 h4
          go_wp2_with fail
          go_roundw
          case rel => exact ⟨k + 1, by omega, by simp, Lib.hid (fun i x hi hx => by
            by_cases hik : i < k
            · exact hall.out i x hik hx
            · obtain rfl : i = k := by omega
              rw [Hx.out] at hx; injection hx with hx; rw [← hx]; exact HH.out), hB⟩
          case measure => first | (simp [intOf]; done) | (simp [intOf]; omega)
      · have q4 : (o == 32) = false := by simpa using h3
        have HH := Lib.hid (show okIns n (o, A, bb) from ⟨by dsimp only; omega, by dsimp only; omega, fun h => absurd h h3⟩)
        clear h1 h2 h3
        go_wp2_with fail
        go_roundw
        case rel => exact ⟨k + 1, by omega, by simp, Lib.hid (fun i x hi hx => by
            by_cases hik : i < k
            · exact hall.out i x hik hx
            · obtain rfl : i = k := by omega
              rw [Hx.out] at hx; injection hx with hx; rw [← hx]; exact HH.out), hB⟩
        case measure => first | (simp [intOf]; done) | (simp [intOf]; omega)
    · obtain rfl : k = n := by omega
      have q1 : ((k : Int) < (k : Int)) = False := eq_false (by omega)
      obtain ⟨F, hF⟩ := HP.out (fun i x hi hx => hall.out i x hi hx) HL.out
      have HF := Lib.hid hF
      clear hF hall
      go_wp2_with fail
      refine (HF.out _ hB).1.mono ?_; rintro e W1 ⟨s1, rfl, hs1, hb1⟩
      have hB1 := hB.trans (hb1.mono hB.size)
      have HS1 := Lib.hid hs1
      clear hs1 hb1
      go_wp2_with fail
      refine (HF.out _ hB1).2.mono ?_; rintro e W2 ⟨s2, rfl, hs2, hb2⟩
      have HS2 := Lib.hid (HS1.out.below intR_stable hb2)
      have HT := Lib.hid hs2
      have hB2 := hB1.trans (hb2.mono hB1.size)
      clear hs2 hb2
      go_wp2_with fail
      refine (ref15_Ints _ _ _ _ _ HS2.out HT.out).mono ?_; rintro e W3 ⟨rfl, m3, rfl⟩
      rw [decide_eq_true rfl]
      have hB3 := hB2.trans ((Below_drewN _ _ m3).mono hB2.size)
      go_wp2_with fail
      refine (HA.out _).mono ?_; rintro e W4 ⟨rfl, hb4⟩
      have hB4 := hB3.trans (hb4.mono hB3.size)
      go_wp2_with fail
      go_ret
      exact ⟨rfl, hB4⟩
end Go.Proofs.Ytnkmnmlhjanplaa
