/- Layer 14: the reference's table of constants is read. -/
import Derived.Test.YtdpcfcflcfjmjaaTabGetD
import Derived.Test.YtdpcfcflcfjmjaaRefTab
import Derived.Test.YtdpcfcflcfjmjaaRowOwn
namespace Go.Proofs.Ytdpcfcflcfjmjaa
open Go.RowKit
set_option linter.unusedSimpArgs false
set_option linter.unusedVariables false
/-- what reading a table tells -/
def GetsC (w : World) (L : List UInt8) (e : Ending) (w' : World) : Prop :=
  ∃ r, e = .returned (.tuple #[r, .int .i64 (getR (rCst L) 1024 L).2]) ∧ w'.ownsRow w.heap.size 50 2 r (getR (rCst L) 1024 L).1.length (cstCs (getR (rCst L) 1024 L).1) ∧ Below w.heap.size w w'
set_option maxHeartbeats 4000000 in
theorem ref14_GetConsts (v : Value) (L : List UInt8) (w : World) (hv : RowAt w v L.length (byteV L)) (hL : L.length ≤ 1000000) :
    Calls Try.prog 10 #[v] w (GetsC w L) := by
  obtain ⟨i, hi, hz, hsize, hby⟩ : ∃ i, Try.prog.info? 50 = some i ∧ i.zero = some (.agg #[.int .i64 0, .int .i64 0]) ∧ i.size = 2 ∧ i.bytes = 16 := ⟨(Try.prog.info? 50).get!, by kernel_rfl, by kernel_rfl, by kernel_rfl, by kernel_rfl⟩
  have HRows := Lib.hid (ref14_Rows v L 1024 w hv hL)
  unfold GetsC getR
  unfold rowsN at HRows
  have hpos : (rNum L 2 0 false).2.2 = false → 0 < L.length := by
    intro h
    have := (rNum_forth h).1
    omega
  obtain ⟨A, hA⟩ : ∃ A, rNum L 2 0 false = A := ⟨_, rfl⟩
  obtain ⟨k, hk⟩ := rNum2_fit L 0 false
  rw [hA] at HRows hk hpos ⊢
  obtain ⟨c, n, b⟩ := A
  dsimp only at HRows hk hpos ⊢
  subst hk
  rw [Int.toNat_natCast]
  clear hA hv
  cases b
  · by_cases hlim : k ≤ 1024
    · rw [if_neg (by simp), if_neg (by omega)] at HRows
      rw [if_neg (by simp), if_neg (by omega)]
      obtain ⟨X, hX⟩ : ∃ X : List (Int × Int) × Int, X = (if (rRows (rCst L) k n false).2.2 = true then ([], 1) else if 0 < leftOf L (rRows (rCst L) k n false).2.1 (rRows (rCst L) k n false).2.2 then ([], 4) else ((rRows (rCst L) k n false).1, 0)) := ⟨_, rfl⟩
      rw [← hX]
      have HX := Lib.hid hX
      have hrl := rRows_len (rCst L)
      have HRL := Lib.hid hrl
      have HRS := Lib.hid (show ∀ m, rRows (rCst L) (m + 1) n false = ((rRows (rCst L) m n false).1 ++ [(rCst L (rRows (rCst L) m n false).2.1 (rRows (rCst L) m n false).2.2).1], (rCst L (rRows (rCst L) m n false).2.1 (rRows (rCst L) m n false).2.2).2) from fun m => rfl)
      have HR0 := Lib.hid (show rRows (rCst L) 0 n false = ([], n, false) from rfl)
      generalize rRows (rCst L) = RR at HX HRL HRS HR0
      have HT := Lib.hid (fun g q n b W hW => rf_Num g q L n 1 b 1 W hW (by decide) (by omega))
      have HN := Lib.hid (fun g q n b W hW => rf_Num g q L n 8 b 8 W hW (by decide) (by omega))
      clear hX hrl
      have hp := hpos rfl
      go_enter Try.func10, Try.ntmps10
      go_wp2_with fail
      refine HRows.out.mono ?_; rintro e w2 ⟨g, q, rfl, hR, hq, hg, hb2⟩
      have hz2 := hb2.size
      have hq := hq hp
      have hgl := (rf_here hR).2.2
      have hR := Lib.hid hR
      clear HRows
      go_wp2_with fail
      go_loopw [7, 8, 9] (fun o j nm wr => ∃ m : Nat, m ≤ k ∧ j = .int .i64 m ∧ Hid (wr.ownsRow w2.heap.size 50 2 o m (cstCs (RR m n false).1)) ∧ Hid (RfAt wr g q L (RR m n false).2.1 (RR m n false).2.2) ∧ Below w.heap.size w wr ∧ w2.heap.size ≤ wr.heap.size) (fun _ j _ _ => k - (intOf j).toNat)
      case atStart => exact ⟨0, by omega, rfl, Lib.hid (by rw [HR0.out]; exact ownsRow_none' _ _ _ _), Lib.hid (by rw [HR0.out]; exact hR.out), hb2, Nat.le_refl _⟩
      case round =>
        obtain ⟨m, hm, rfl, hO, hR, hB, hzz⟩ := hrel
        by_cases hlt : m < k
        · have hRS := HRS.out m
          obtain ⟨Y, hY⟩ : ∃ Y, RR m n false = Y := ⟨_, rfl⟩
          obtain ⟨Z, hZ⟩ : ∃ Z, RR (m + 1) n false = Z := ⟨_, rfl⟩
          rw [hY] at hO hR hRS
          have HZ := Lib.hid hZ
          rw [hZ] at hRS
          clear hY hZ
          obtain ⟨y, ny, by'⟩ := Y
          dsimp only at hO hR hRS
          unfold rCst at hRS
          obtain ⟨T, hT⟩ : ∃ T, rNum L 1 ny by' = T := ⟨_, rfl⟩
          have HT1 := Lib.hid (HT.out g q ny by' wr hR.out)
          rw [hT] at HT1 hRS
          clear hT
          obtain ⟨s, ns, bs⟩ := T
          dsimp only at HT1 hRS
          obtain ⟨U, hU⟩ : ∃ U, rNum L 8 ns bs = U := ⟨_, rfl⟩
          have HN1 := Lib.hid (fun W hW => HN.out g q ns bs W hW)
          rw [hU] at HN1 hRS
          clear hU
          obtain ⟨c, nx, bx⟩ := U
          dsimp only at HN1 hRS
          have HRS2 := Lib.hid hRS
          clear hRS HN HX HRL HT
          go_wp2_with fail
          refine HT1.out.mono ?_; rintro e w4 ⟨rfl, hR4, hG4⟩
          have hB4 := grownBelow hB hG4 hg hB.size
          have hO4 := Lib.hid (owns_grown hO.out hG4 (fun gg hgg h => by have := (owns_lt hO.out hgg).1; have : g = gg := by simpa using h
                                                                         omega))
          have hz4 := hG4.size
          have hR4 := Lib.hid hR4
          clear hG4
          go_wp2_with fail
          refine (HN1.out _ hR4.out).mono ?_; rintro e w5 ⟨rfl, hR5, hG5⟩
          have hB5 := grownBelow hB4 hG5 hg hB4.size
          have hO5 := Lib.hid (owns_grown hO4.out hG5 (fun gg hgg h => by have := (owns_lt hO4.out hgg).1; have : g = gg := by simpa using h
                                                                          omega))
          have hz5 := hG5.size
          have hR6 := Lib.hid (rf_below hR5 ((Below.refl _ _).alloc (Nat.le_refl _) (.cells #[.int .i64 s, .int .i64 c] 50)))
          have hO6 := Lib.hid (owns_below hO5.out ((Below.refl _ _).alloc (Nat.le_refl _) (.cells #[.int .i64 s, .int .i64 c] 50)))
          have hB6 := Lib.hid (hB5.alloc hB5.size (.cells #[.int .i64 s, .int .i64 c] 50))
          clear hG5 hR5
          go_wp2_with (first | (at_builtin; go_loud (refine wpList_append_src rfl (.tmp 23) (.tmp 28) 22 rfl w2.heap.size 50 i (.agg #[.int .i64 0, .int .i64 0]) 2 16 Try.underlying22 hi hz hsize hby rfl (by omega) _ m _ rfl hO6.out _ 1 [.int .i64 s, .int .i64 c] rfl (src_new _ _ _) rfl (by intro u hu; simp at hu; rcases hu with rfl | rfl <;> rfl) (by unfold maxLen; omega) (by omega) (by first | omega | (simp; omega)) ?_; intro v3 w3' hO7 hG7; have HO7 := Lib.hid hO7; have hR7 := Lib.hid (rf_grown hR6.out hG7 (fun h => by have := (owns_lt hO6.out h.symm).1; omega) (fun h => by have := (owns_lt hO6.out h.symm).1; omega)); have hB7 := grown3 (hB6.out) (hB6.out.size) (own_low hO6.out hz2) hG7; have hz7 := hG7.size; clear hO7 hG7)) | fail)
          go_roundw
          case rel => exact ⟨m + 1, by omega, by simp, Lib.hid (by rw [HZ.out, HRS2.out, cstCs_snoc]; exact HO7.out), Lib.hid (by rw [HZ.out, HRS2.out]; exact hR7.out), hB7, by first | omega | (simp at hz7; omega)⟩
          case measure => first | (simp [intOf]; done) | (simp [intOf]; omega)
        · obtain rfl : m = k := by omega
          obtain ⟨Y, hY⟩ : ∃ Y, RR m n false = Y := ⟨_, rfl⟩
          rw [hY] at hO hR HX
          obtain ⟨y, ny, by'⟩ := Y
          have hyl := HRL.out m n false
          rw [hY] at hyl
          dsimp only at hO hR HX hyl
          have HY := Lib.hid hyl
          clear hY hyl
          have HE := Lib.hid (ref14_End g q L ny by' _ hR.out)
          unfold endE at HE
          have HX1 := Lib.hid (show X.2 = (if by' = true then 1 else if 0 < leftOf L ny by' then 4 else 0) ∧ (X.2 = 0 → X.1 = y) ∧ (X.2 ≠ 0 → X.1 = []) by
            rw [HX.out]
            split
            · exact ⟨rfl, fun h => by simp at h, fun _ => rfl⟩
            · split
              · exact ⟨rfl, fun h => by simp at h, fun _ => rfl⟩
              · exact ⟨rfl, fun _ => rfl, fun h => by simp at h⟩)
          rw [← HX1.out.1] at HE
          clear HX
          by_cases hx0 : X.2 = 0
          · have HX3 := Lib.hid (HX1.out.2.1 hx0)
            have HX4 := Lib.hid hx0
            rw [hx0] at HE
            clear HX1 hx0
            go_wp2_with fail
            refine HE.out.mono ?_; rintro e w' ⟨rfl, rfl⟩
            go_wp2_with fail
            go_returns
            exact ⟨_, by rw [HX4.out]; rfl, by rw [HX3.out, HY.out]; exact own_low hO.out hz2, hB⟩
          · have HX3 := Lib.hid (HX1.out.2.2 hx0)
            have q3 : X.2 ≠ 0 := hx0
            clear HX1
            generalize hxx : X.2 = xe at *
            go_wp2_with fail
            refine HE.out.mono ?_; rintro e w' ⟨rfl, rfl⟩
            go_wp2_with fail
            go_returns
            exact ⟨_, by rw [hxx]; rfl, by rw [HX3.out]; exact ownsRow_none' _ _ _ _, hB⟩
    · rw [if_neg (by simp), if_pos (by omega)] at HRows
      rw [if_neg (by simp), if_pos (by omega)]
      go_enter Try.func10, Try.ntmps10
      go_wp2_with fail
      refine HRows.out.mono ?_; rintro e w2 ⟨g, q, rfl, hR, hq, hg, hb2⟩
      go_wp2_with fail
      refine wp_loop_rounds 1 ?_
      rw [rounds_succ]
      go_wp2_with fail
      go_returns
      exact ⟨_, rfl, ownsRow_none' _ _ _ _, hb2⟩
  · rw [if_pos rfl] at HRows
    rw [if_pos rfl]
    go_enter Try.func10, Try.ntmps10
    go_wp2_with fail
    refine HRows.out.mono ?_; rintro e w2 ⟨g, q, rfl, hR, hq, hg, hb2⟩
    go_wp2_with fail
    refine wp_loop_rounds 1 ?_
    rw [rounds_succ]
    go_wp2_with fail
    go_returns
    exact ⟨_, rfl, ownsRow_none' _ _ _ _, hb2⟩
theorem tab_GetConsts (v : Value) (L : List UInt8) (w : World) (hv : RowAt w v L.length (byteV L)) (hL : L.length ≤ 1000000) :
    Calls Try.prog 9 #[v] w (GetsC w L) := by
  unfold GetsC
  have HP := Lib.hid (tab_get_consts v L w hv hL)
  generalize getR (rCst L) 1024 L = X at *
  clear hv
  go_enter Try.func9, Try.ntmps9
  go_wp2_with fail
  refine HP.out.mono ?_; rintro e w1 ⟨r, rfl, h1, h2⟩
  have H1 := Lib.hid h1
  clear h1 HP
  go_wp2_with fail
  go_returns
  exact ⟨r, rfl, H1.out, h2⟩
theorem csts_owned {w : World} {B : Nat} {v : Value} {L : List (Int × Int)} (h : w.ownsRow B 50 2 v L.length (cstCs L)) (hL : ∀ x ∈ L, I64 x.1 ∧ I64 x.2) : RowR 2 constR w v L :=
  row_owned (enc := fun x => [.int .i64 x.1, .int .i64 x.2]) (fun _ => rfl) h (fun x hx => ⟨rfl, hL x hx⟩)
set_option maxHeartbeats 2000000 in
theorem ref14_SameConsts (u v : Value) (A : List (Int × Int)) (w : World) (hu : RowR 2 constR w u A) (hv : RowR 2 constR w v A) :
    Calls Try.prog 11 #[u, v] w fun e w' => e = .returned (.bool true) ∧ ∃ m, w' = w.drewN m := by
  have hl := hu.len
  obtain ⟨ua, uc, rfl⟩ := row_get hu
  obtain ⟨va, vc, rfl⟩ := row_get hv
  obtain ⟨n, hN⟩ : ∃ n, A.length = n := ⟨_, rfl⟩
  rw [hN] at hu hv hl ⊢
  go_enter Try.func11, Try.ntmps11
  go_wp2_with fail
  go_loopw [5] (fun j wr => ∃ k m : Nat, k ≤ n ∧ j = .int .i64 k ∧ wr = w.drewN m) (fun j _ => n - (intOf j).toNat)
  case atStart => exact ⟨0, 0, by omega, rfl, rfl⟩
  case round =>
    obtain ⟨k, m, hk, rfl, rfl⟩ := hrel
    by_cases hlt : k < n
    · obtain ⟨x, hx⟩ : ∃ x, A[k]? = some x := get_some (by omega)
      obtain ⟨b1, o1, rfl, hb1, hc1⟩ := const_at hu (k := k) (by omega)
      obtain ⟨b2, o2, rfl, hb2, hc2⟩ := const_at hv (k := k) (by omega)
      obtain ⟨c0, c1, _, _⟩ := hc1 k x hx
      obtain ⟨d0, d1, _, _⟩ := hc2 k x hx
      clear hc1 hc2 hx
      go_wp2_with fail
      go_quiet (fail)
      go_wp2_with fail
      go_roundw
      case rel => exact ⟨k + 1, _, by omega, by simp, rfl⟩
      case measure => first | (simp [intOf]; done) | (simp [intOf]; omega)
    · obtain rfl : k = n := by omega
      go_wp2_with fail
      go_ret
      exact ⟨rfl, _, rfl⟩
end Go.Proofs.Ytdpcfcflcfjmjaa
