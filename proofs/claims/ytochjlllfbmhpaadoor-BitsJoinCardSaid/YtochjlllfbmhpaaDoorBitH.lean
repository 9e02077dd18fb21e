/- Sets: whether one is there; the room. -/
import Derived.Test.YtochjlllfbmhpaaDoorBitB
namespace Go.Proofs.YtochjlllfbmhpaaDoor
open Go.RowKit
set_option linter.unusedSimpArgs false
set_option linter.unusedVariables false
theorem bit_of (y o : Nat) (h : y < 18446744073709551616) : (bits .and .u64 ((y : Int) / 2 ^ o) 1 == 1) = y.testBit o := by
  have h1 : y / 2 ^ o < 18446744073709551616 := Nat.lt_of_le_of_lt (Nat.div_le_self _ _) h
  have h2 : ((y : Int) / 2 ^ o) = ((y / 2 ^ o : Nat) : Int) := by simp
  rw [h2, show (1 : Int) = ((1 : Nat) : Int) from rfl, and_u _ _ h1 (by decide), Nat.and_one_is_mod, Nat.testBit_eq_decide_div_mod_eq]
  rcases (show y / 2 ^ o % 2 = 0 ∨ y / 2 ^ o % 2 = 1 by omega) with e | e <;> rw [e] <;> rfl
theorem bits_Room (v : Value) (x : List Bool) (w : World) (hx : SetR w v x) : Calls Tryd.prog 25 #[v] w fun e w' => e = .returned (.int .i64 x.length) ∧ Below w.heap.size w w' := by
  obtain ⟨vs, a, c, rfl, hvs, hlen, hcell⟩ := hx
  clear hcell
  generalize x.length = n at *
  go_enter Tryd.func25, Tryd.ntmps25
  go_wp2_with fail
  go_ret
  exact ⟨rfl, by (repeat' (first | (with_reducible exact Below.refl _ _) | (with_reducible assumption) | (with_reducible refine below_drewN ?_ _) | (with_reducible refine Below.alloc ?_ ?_ _) | (with_reducible refine Below.drew ?_) | (with_reducible refine Below.setCell ?_ ?_ _) | go_size))⟩
set_option maxHeartbeats 2000000 in
theorem bits_Has (v : Value) (x : List Bool) (i : Int) (w : World) (hx : SetR w v x) : Calls Tryd.prog 10 #[v, .int .i64 i] w fun e w' => e = .returned (.bool (hasB x i)) ∧ Below w.heap.size w w' := by
  obtain ⟨vs, a, c, rfl, hvs, hlen, hcell⟩ := hx
  obtain ⟨n, hn⟩ : ∃ n, x.length = n := ⟨_, rfl⟩
  obtain ⟨K, hK⟩ : ∃ K, vs.length = K := ⟨_, rfl⟩
  have HN := Lib.hid hn
  have hKn : K = (n + 63) / 64 := by rw [← hK, ← hn]; exact hvs.1
  have HK := Lib.hid hK
  rw [hn] at hlen
  rw [hK] at hcell
  rw [hn, hK]
  clear hn hK
  by_cases hi : 0 ≤ i ∧ i < (n : Int)
  · obtain ⟨k, rfl⟩ : ∃ k : Nat, i = (k : Int) := ⟨i.toNat, by omega⟩
    have hk : k < n := by omega
    have p1 : (0 ≤ (k : Int)) = True := eq_true (by omega)
    have p2 : ((k : Int) < (n : Int)) = True := eq_true (by omega)
    have p3 : (k < n) = True := eq_true (by omega)
    obtain ⟨q, hq⟩ : ∃ q, k / 64 = q := ⟨_, rfl⟩
    obtain ⟨o, ho⟩ : ∃ o, k % 64 = o := ⟨_, rfl⟩
    have hqK : q < K := by omega
    obtain ⟨b, off, rfl, l1, l2, l3, l4⟩ := hcell (by omega)
    have hc := l4 q hqK
    have ho64 : o < 64 := by omega
    have e1 : (k : Int) / 64 = (q : Int) := by omega
    have e2 : (k : Int) % 64 = (o : Int) := by omega
    have e3 : (k : Int).tmod 64 = (o : Int) := by rw [Int.tmod_eq_emod_of_nonneg (by omega)]; exact e2
    have hqm : (q : Int) < (K : Int) := by omega
    have hwq : IntKind.i64.wrap (q : Int) = (q : Int) := by rw [IntKind.wrap_i64]; omega
    have hwo : IntKind.i64.wrap (o : Int) = (o : Int) := by rw [IntKind.wrap_i64]; omega
    have hbit := has_bit hvs k
    rw [hq, ho] at hbit
    have HR := Lib.hid (show hasB x k = x.getD k false by unfold hasB; rw [if_pos ⟨by omega, by rw [HN.out]; omega⟩]; rfl)
    rw [HR.out, ← hbit]
    have hy := word_lt hvs q
    obtain ⟨y, hy'⟩ : ∃ y, vs.getD q 0 = y := ⟨_, rfl⟩
    rw [hy'] at hc hy ⊢
    clear l4 hbit hcell hvs hKn hq ho hk hi hy'
    go_enter Tryd.func10, Tryd.ntmps10
    go_wp2_with fail
    go_ret
    exact ⟨by rw [bit_of y o hy]; rfl, by (repeat' (first | (with_reducible exact Below.refl _ _) | (with_reducible assumption) | (with_reducible refine below_drewN ?_ _) | (with_reducible refine Below.alloc ?_ ?_ _) | (with_reducible refine Below.drew ?_) | (with_reducible refine Below.setCell ?_ ?_ _) | go_size))⟩
  · have HW := Lib.hid (show hasB x i = false by unfold hasB; rw [if_neg (by rw [HN.out]; exact hi)])
    rw [HW.out]
    clear hcell
    by_cases h0 : i < 0
    · have p1 : (0 ≤ i) = False := eq_false (by omega)
      clear hi h0
      go_enter Tryd.func10, Tryd.ntmps10
      go_wp2_with fail
      go_ret
      exact ⟨rfl, by (repeat' (first | (with_reducible exact Below.refl _ _) | (with_reducible assumption) | (with_reducible refine below_drewN ?_ _) | (with_reducible refine Below.alloc ?_ ?_ _) | (with_reducible refine Below.drew ?_) | (with_reducible refine Below.setCell ?_ ?_ _) | go_size))⟩
    · have p1 : (0 ≤ i) = True := eq_true (by omega)
      have p2 : (i < (n : Int)) = False := eq_false (by omega)
      clear hi h0
      go_enter Tryd.func10, Tryd.ntmps10
      go_wp2_with fail
      go_ret
      exact ⟨rfl, by (repeat' (first | (with_reducible exact Below.refl _ _) | (with_reducible assumption) | (with_reducible refine below_drewN ?_ _) | (with_reducible refine Below.alloc ?_ ?_ _) | (with_reducible refine Below.drew ?_) | (with_reducible refine Below.setCell ?_ ?_ _) | go_size))⟩
/-- how many of the first k words' bits are on -/
theorem lst_words {x : List Bool} {ws : List Nat} (h : Wds x ws) (k : Nat) : (lstN x (64 * (k + 1))).length = (lstN x (64 * k)).length + popN 64 (ws.getD k 0) := by
  rw [show 64 * (k + 1) = 64 * k + 64 by omega]
  exact popN_lst x 64 _ _ fun j hj => by rw [h.2]; simp [hj]
theorem lstN_le (x : List Bool) (n : Nat) : (lstN x n).length ≤ n := by
  unfold lstN
  have := List.length_filter_le (fun i => x.getD i false) (List.range n)
  simpa using this
set_option maxHeartbeats 2000000 in
theorem bits_Count (v : Value) (x : List Bool) (w : World) (hx : SetR w v x) : Calls Tryd.prog 13 #[v] w fun e w' => e = .returned (.int .i64 (lst x).length) ∧ Below w.heap.size w w' := by
  obtain ⟨vs, a, c, rfl, hvs, hlen, hcell⟩ := hx
  have HF := Lib.hid (fun k (_ : k = vs.length) => show (lstN x (64 * k)).length = (lst x).length from by rw [lstN_far x (by have := hvs.1; omega)])
  obtain ⟨K, hK⟩ : ∃ K, vs.length = K := ⟨_, rfl⟩
  have HK := Lib.hid hK
  have hK64 : K ≤ 1024 := by have := hvs.1; omega
  have HL := Lib.hid (lst_words hvs)
  have H64 := Lib.hid (word_lt hvs)
  have HLE := Lib.hid (lstN_le x)
  obtain ⟨n, hn⟩ : ∃ n, x.length = n := ⟨_, rfl⟩
  rw [hK] at hcell
  rw [hn, hK]
  clear hK hvs hn hlen
  have HC := Lib.hid hcell
  clear hcell
  obtain ⟨W, hW⟩ : ∃ W, W = w.alloc (.cells #[.int .i64 n, .slice a K c] 26) := ⟨_, rfl⟩
  have HB := Lib.hid (show Below w.heap.size w W from by rw [hW]; exact by (repeat' (first | (with_reducible exact Below.refl _ _) | (with_reducible assumption) | (with_reducible refine below_drewN ?_ _) | (with_reducible refine Below.alloc ?_ ?_ _) | (with_reducible refine Below.drew ?_) | (with_reducible refine Below.setCell ?_ ?_ _) | go_size)))
  have HW := Lib.hid hW
  clear hW
  go_enter Tryd.func13, Tryd.ntmps13
  go_wp2_with fail
  rw [← HW.out]
  go_loopw [3, 9] (fun s j wr => ∃ k : Nat, k ≤ K ∧ s = .int .i64 (lstN x (64 * k)).length ∧ j = .int .i64 k ∧ wr = W) (fun _ j _ => K - (intOf j).toNat)
  case atStart => exact ⟨0, by omega, rfl, rfl, rfl⟩
  case round =>
    obtain ⟨k, hk, rfl, rfl, rfl⟩ := hrel
    by_cases hlt : k < K
    · have qk : ((k : Int) < (K : Int)) = True := eq_true (by omega)
      have qk' : (k < K) = True := eq_true hlt
      obtain ⟨b, off, rfl, l1, l2, l3, l4⟩ := HC.out (by omega)
      have hc := (HB.out.cell (p := ⟨b, off + k, none⟩) l3).trans (l4 k hlt)
      have l2' : c ≤ 9223372036854775807 := l2
      have h64 := H64.out k
      have hl := Lib.hid (HL.out k)
      have e1 := HLE.out (64 * k)
      have HO := ones_64 (vs.getD k 0) h64
      have hpop : popN 64 (vs.getD k 0) ≤ 64 := (pop_steps _ h64).choose_spec.choose_spec.choose_spec.choose_spec.choose_spec.choose_spec.2.2.2.2.2.2.2.2.2.2.2.2.2.2
      obtain ⟨p, hp⟩ : ∃ p, popN 64 (vs.getD k 0) = p := ⟨_, rfl⟩
      have HP := Lib.hid hp
      rw [hp] at HO hpop
      obtain ⟨y, hy⟩ : ∃ y, vs.getD k 0 = y := ⟨_, rfl⟩
      rw [hy] at hc h64 HO
      obtain ⟨s, hs⟩ : ∃ s, (lstN x (64 * k)).length = s := ⟨_, rfl⟩
      have HS := Lib.hid hs
      rw [hs] at e1 ⊢
      have hnxt := Lib.hid (show (lstN x (64 * (k + 1))).length = s + p by rw [hl.out, HS.out, HP.out])
      clear hs hp hy l4 l2 hl
      go_wp2_with fail
      refine (HO _).mono ?_; rintro e w2 ⟨rfl, rfl⟩
      go_wp2_with fail
      go_roundw
      case rel => exact ⟨k + 1, by omega, by rw [hnxt.out]; simp, by simp, by first | rfl | trivial⟩
      case measure => first | (simp [intOf]; done) | (simp [intOf]; omega)
    · obtain rfl : k = K := by omega
      have qk : ((k : Int) < (k : Int)) = False := eq_false (by omega)
      have qk' : (k < k) = False := eq_false (by omega)
      have hf := HF.out k HK.out.symm
      rw [hf]
      go_wp2_with fail
      go_ret
      exact ⟨rfl, HB.out⟩
set_option maxHeartbeats 2000000 in
theorem bits_Same (v u : Value) (x y : List Bool) (w : World) (hx : SetR w v x) (hy : SetR w u y) : Calls Tryd.prog 18 #[v, u] w fun e w' => e = .returned (.bool (decide (x = y))) ∧ Below w.heap.size w w' := by
  obtain ⟨vs, a, c, rfl, hvs, hlen, hcell⟩ := hx
  obtain ⟨us, a2, c2, rfl, hus, hlen2, hcell2⟩ := hy
  by_cases hl : x.length = y.length
  · have HE := Lib.hid (hvs.same hus hl)
    have hKl : us.length = vs.length := by rw [hvs.1, hus.1, hl]
    have HKL := Lib.hid hKl
    rw [← hl]
    rw [hKl] at hcell2 ⊢
    clear hKl
    obtain ⟨K, hK⟩ : ∃ K, vs.length = K := ⟨_, rfl⟩
    have HK := Lib.hid hK
    have hK64 : K ≤ 1024 := by have := hvs.1; omega
    obtain ⟨n, hn⟩ : ∃ n, x.length = n := ⟨_, rfl⟩
    rw [hK] at hcell hcell2 ⊢
    rw [hn]
    clear hK hvs hus hn hlen hlen2 hl
    have HC := Lib.hid hcell
    have HC2 := Lib.hid hcell2
    clear hcell hcell2
    have hnn : ((n : Int) != (n : Int)) = false := by simp
    obtain ⟨W, hW⟩ : ∃ W, W = (w.alloc (.cells #[.int .i64 n, .slice a K c] 26)).alloc (.cells #[.int .i64 n, .slice a2 K c2] 26) := ⟨_, rfl⟩
    have HB := Lib.hid (show Below w.heap.size w W from by rw [hW]; exact by (repeat' (first | (with_reducible exact Below.refl _ _) | (with_reducible assumption) | (with_reducible refine below_drewN ?_ _) | (with_reducible refine Below.alloc ?_ ?_ _) | (with_reducible refine Below.drew ?_) | (with_reducible refine Below.setCell ?_ ?_ _) | go_size)))
    have d1 : W.cell? ⟨w.heap.size + 1, 1, none⟩ = some (.slice a2 K c2) := by rw [hW]; exact obj_cell (get_last (by simp)) rfl
    have HW := Lib.hid hW
    clear hW
    go_enter Tryd.func18, Tryd.ntmps18
    go_wp2_with fail
    rw [← HW.out]
    go_loopw [15] (fun j wr => ∃ k : Nat, k ≤ K ∧ j = .int .i64 k ∧ Hid (∀ i, i < k → vs.getD i 0 = us.getD i 0) ∧ wr = W) (fun j _ => K - (intOf j).toNat)
    case atStart => exact ⟨0, by omega, rfl, Lib.hid (fun i hi => by omega), rfl⟩
    case round =>
      obtain ⟨k, hk, rfl, hall, rfl⟩ := hrel
      by_cases hlt : k < K
      · have qk : ((k : Int) < (K : Int)) = True := eq_true (by omega)
        have qk' : (k < K) = True := eq_true hlt
        obtain ⟨b, off, rfl, l1, l2, l3, l4⟩ := HC.out (by omega)
        obtain ⟨b2, off2, rfl, m1, m2, m3, m4⟩ := HC2.out (by omega)
        have hc := (HB.out.cell (p := ⟨b, off + k, none⟩) l3).trans (l4 k hlt)
        have hc2 := (HB.out.cell (p := ⟨b2, off2 + k, none⟩) m3).trans (m4 k hlt)
        have l2' : c ≤ 9223372036854775807 := l2
        have m2' : c2 ≤ 9223372036854775807 := m2
        clear l4 m4 l2 m2
        by_cases hq : vs.getD k 0 = us.getD k 0
        · have hs := Lib.hid (show ∀ i, i < k + 1 → vs.getD i 0 = us.getD i 0 from fun i hi => by
            rcases (show i < k ∨ i = k by omega) with h | rfl
            · exact hall.out i h
            · exact hq)
          have hne : ((vs.getD k 0 : Nat) : Int) = (us.getD k 0 : Nat) := by rw [hq]
          have hne2 : (((vs.getD k 0 : Nat) : Int) != (us.getD k 0 : Nat)) = false := by rw [hq]; simp
          rw [hne] at hne2 hc
          clear hq hne
          generalize us.getD k 0 = z at *
          go_wp2_with fail
          go_roundw
          case rel => exact ⟨k + 1, by omega, by simp, hs, by first | rfl | trivial⟩
          case measure => first | (simp [intOf]; done) | (simp [intOf]; omega)
        · have hno := Lib.hid (show decide (x = y) = false from decide_eq_false (fun h => hq (by rw [HE.out.1 h])))
          have hne2 : (((vs.getD k 0 : Nat) : Int) != (us.getD k 0 : Nat)) = true := by rw [bne_iff_ne]; omega
          clear hq
          generalize us.getD k 0 = z at *
          generalize vs.getD k 0 = z2 at *
          go_wp2_with fail
          go_ret
          exact ⟨by rw [hno.out]; rfl, HB.out⟩
      · obtain rfl : k = K := by omega
        have qk : ((k : Int) < (k : Int)) = False := eq_false (by omega)
        have qk' : (k < k) = False := eq_false (by omega)
        have hyes := Lib.hid (show decide (x = y) = true from decide_eq_true (HE.out.2 (by
          apply List.ext_getElem?
          intro i
          by_cases hi : i < vs.length
          · have hi' : i < us.length := by rw [HKL.out]; exact hi
            have e := hall.out i (by rw [← HK.out]; exact hi)
            simp only [List.getD, List.getElem?_eq_getElem hi, List.getElem?_eq_getElem hi', Option.getD_some] at e ⊢
            rw [e]
          · rw [List.getElem?_eq_none (by omega), List.getElem?_eq_none (by rw [HKL.out]; omega)])))
        go_wp2_with fail
        go_ret
        exact ⟨by rw [hyes.out]; rfl, HB.out⟩
  · have hno := Lib.hid (show decide (x = y) = false from decide_eq_false (fun h => hl (by rw [h])))
    have hne : ((x.length : Int) != (y.length : Int)) = true := by simp; omega
    rw [hno.out]
    clear hcell hcell2 hvs hus hl
    generalize x.length = n at *
    generalize y.length = m at *
    generalize vs.length = K at *
    generalize us.length = K2 at *
    go_enter Tryd.func18, Tryd.ntmps18
    go_wp2_with fail
    go_ret
    exact ⟨rfl, by (repeat' (first | (with_reducible exact Below.refl _ _) | (with_reducible assumption) | (with_reducible refine below_drewN ?_ _) | (with_reducible refine Below.alloc ?_ ?_ _) | (with_reducible refine Below.drew ?_) | (with_reducible refine Below.setCell ?_ ?_ _) | go_size))⟩
end Go.Proofs.YtochjlllfbmhpaaDoor
