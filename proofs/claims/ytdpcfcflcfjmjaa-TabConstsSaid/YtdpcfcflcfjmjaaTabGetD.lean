/- Layer 14: one constant is read. -/
import Derived.Test.YtdpcfcflcfjmjaaRdCst
import Derived.Test.YtdpcfcflcfjmjaaTabGetB
namespace Go.Proofs.Ytdpcfcflcfjmjaa
open Go.RowKit
set_option linter.unusedSimpArgs false
set_option linter.unusedVariables false
def cstV (x : Int × Int) : Value := .agg #[.int .i64 x.1, .int .i64 x.2]
theorem tab_GetConst (g q : Nat) (L : List UInt8) (n : Nat) (bad : Bool) (w : World) (h : RdAt w g q L n bad) (hq : q < w.heap.size) :
    Calls Try.prog 30 #[.pointer (some ⟨g, 0, none⟩)] w fun e w' => e = .returned (cstV (rCst L n bad).1) ∧ RdAt w' g q L (rCst L n bad).2.1 (rCst L n bad).2.2 ∧ w.grownBy w' (some g) := by
  unfold rCst
  have hgl := rd_lt h
  obtain ⟨A, hA⟩ : ∃ A, rNum L 1 n bad = A := ⟨_, rfl⟩
  have HT := Lib.hid (fun W hW => rd_Num g q L n 1 bad 1 W hW (by decide) (by omega))
  rw [hA] at HT ⊢
  clear hA
  obtain ⟨s, n1, b1⟩ := A
  obtain ⟨B, hB⟩ : ∃ B, rNum L 8 n1 b1 = B := ⟨_, rfl⟩
  have HN := Lib.hid (fun W hW => rd_Num g q L n1 8 b1 8 W hW (by decide) (by omega))
  dsimp only
  rw [hB] at HN ⊢
  clear hB
  obtain ⟨c, n2, b2⟩ := B
  dsimp only at HT HN ⊢
  have h0 : RdAt ((w.alloc (.cells #[.int .i64 0, .int .i64 0] 50)).alloc (.cells #[.int .i64 0, .int .i64 0] 50)) g q L n bad := rd_below (rd_below h ((Below.refl _ _).alloc (Nat.le_refl _) _)) ((Below.refl _ _).alloc (Nat.le_refl _) _)
  have g0 : w.grownBy ((w.alloc (.cells #[.int .i64 0, .int .i64 0] 50)).alloc (.cells #[.int .i64 0, .int .i64 0] 50)) (some g) := grown_alloc (grown_alloc (World.grownBy.refl _ _) _) _
  have a1 : ((w.alloc (.cells #[.int .i64 0, .int .i64 0] 50)).alloc (.cells #[.int .i64 0, .int .i64 0] 50)).heap[w.heap.size]? = some (.cells #[.int .i64 0, .int .i64 0] 50 (0, 0)) := by
    rw [Below.heap_alloc _ _ _ (by simp)]; exact heap_alloc_new w _
  have a2 : ((w.alloc (.cells #[.int .i64 0, .int .i64 0] 50)).alloc (.cells #[.int .i64 0, .int .i64 0] 50)).heap[w.heap.size + 1]? = some (.cells #[.int .i64 0, .int .i64 0] 50 (0, 0)) := alloc_get (by simp)
  have HT1 := Lib.hid (HT.out _ h0)
  clear HT
  have G0 := Lib.hid (And.intro a1 (And.intro a2 (And.intro h0 g0)))
  clear a1 a2 h0 g0 h
  go_enter Try.func30, Try.ntmps30
  go_wp2_with fail
  refine HT1.out.mono ?_; rintro e w1 ⟨rfl, hR1, hG1⟩
  obtain ⟨W0, hW0⟩ : ∃ W0, W0 = ((w.alloc (.cells #[.int .i64 0, .int .i64 0] 50)).alloc (.cells #[.int .i64 0, .int .i64 0] 50)) := ⟨_, rfl⟩
  rw [← hW0] at G0 hG1
  obtain ⟨a1, a2, h0, g0⟩ := G0.out
  have z0 : W0.heap.size = w.heap.size + 2 := by rw [hW0]; simp
  have b1' := (hG1.block w.heap.size (by omega) (by simp; omega)).trans a1
  have b2' := (hG1.block (w.heap.size + 1) (by omega) (by simp; omega)).trans a2
  have z1 := hG1.size
  have cA := cell_of b2' 0 rfl
  have fA := free_of b2' 0
  have HX := Lib.hid (And.intro hR1 (And.intro (grown_grown g0 hG1) (And.intro b1' b2')))
  clear hR1 hG1 G0 HT1 a1 a2 h0 g0 b1' b2' hW0
  go_wp2_with fail
  obtain ⟨hR1, hG1, d1, d2⟩ := HX.out
  obtain ⟨k1, k2⟩ := set_at d2 0 (.int .i64 s) 0
  have hlt1 := rd_lt hR1
  have hR2 : RdAt (w1.setCell ⟨w.heap.size + 1, 0, none⟩ (.int .i64 s)) g q L n1 b1 := rd_stay hR1 (Below.heap_setCell _ _ _ _ (by simp; omega)) (fun _ => Below.heap_setCell _ _ _ _ (by simp; omega))
  refine (HN.out _ hR2).mono ?_; rintro e w2 ⟨rfl, hR3, hG3⟩
  have hG2 := grown_set hG1 (p := ⟨w.heap.size + 1, 0, none⟩) (by simp) (.int .i64 s)
  have zs : (w1.setCell ⟨w.heap.size + 1, 0, none⟩ (.int .i64 s)).heap.size = w1.heap.size := by simp [World.setCell]
  have e1 := (hG3.block w.heap.size (by omega) (by simp; omega)).trans ((Below.heap_setCell _ _ _ _ (by simp)).trans d1)
  have e2 := (hG3.block (w.heap.size + 1) (by omega) (by simp; omega)).trans k1
  have cB := cell_of e2 1 (v := .int .i64 0) rfl
  have cB0 := cell_of e2 0 (v := .int .i64 s) rfl
  have fB := free_of e2 1
  have c10 := cell_of e1 0 (v := .int .i64 0) rfl
  have c11 := cell_of e1 1 (v := .int .i64 0) rfl
  have f10 := free_of e1 0
  have f11 := free_of e1 1
  have z2 := hG3.size
  have hG4 := grown_grown hG2 hG3
  have hlt2 := rd_lt hR3
  have e4 : (w2.setCell ⟨w.heap.size + 1, 1, none⟩ (.int .i64 c)).heap[w.heap.size]? = some (.cells #[.int .i64 0, .int .i64 0] 50 (0, 0)) := (Below.heap_setCell _ _ _ _ (by simp)).trans e1
  obtain ⟨m1, m2⟩ := set_at e4 0 (.int .i64 s) 0
  obtain ⟨n1', n2'⟩ := set_at m1 1 (.int .i64 c) 0
  have r0 := cell_of n1' 0 (v := .int .i64 s) rfl
  have r1 := cell_of n1' 1 (v := .int .i64 c) rfl
  have H3 := Lib.hid (And.intro hR3 (And.intro hG4 (And.intro r0 r1)))
  clear HN HX hR1 hG1 d1 d2 k1 k2 hR2 hG2 hR3 hG3 hG4 e1 e2 cA fA e4 m1 m2 n1' n2' r0 r1
  go_wp2_with fail
  obtain ⟨hR3, hG4, r0, r1⟩ := H3.out
  obtain ⟨W4, hW4⟩ : ∃ W4, W4 = ((w2.setCell ⟨w.heap.size + 1, 1, none⟩ (.int .i64 c)).setCell ⟨w.heap.size, 0, none⟩ (.int .i64 s)).setCell ⟨w.heap.size, 1, none⟩ (.int .i64 c) := ⟨_, rfl⟩
  have r0 : W4.cell? ⟨w.heap.size, 0, none⟩ = some (.int .i64 s) := by rw [hW4]; exact r0
  have r1 : W4.cell? ⟨w.heap.size, 1, none⟩ = some (.int .i64 c) := by rw [hW4]; exact r1
  rw [← hW4]
  refine bodyPost_ret (by simp [results, Try.results30, go_sem, r0, r1]; rfl) rfl ?_
  rw [hW4]
  exact ⟨rfl, rd_set (rd_set (rd_set hR3 _ _ (by simp; omega) (by simp; omega)) _ _ (by simp; omega) (by simp; omega)) _ _ (by simp; omega) (by simp; omega), grown_set (grown_set (grown_set hG4 (by simp) _) (by simp) _) (by simp) _⟩
def cstCs (l : List (Int × Int)) : List Value := l.flatMap fun x => [.int .i64 x.1, .int .i64 x.2]
theorem cstCs_snoc (l : List (Int × Int)) (x : Int × Int) : cstCs (l ++ [x]) = cstCs l ++ [.int .i64 x.1, .int .i64 x.2] := by simp [cstCs]
set_option maxHeartbeats 4000000 in
theorem tab_get_consts (v : Value) (L : List UInt8) (w : World) (hv : RowAt w v L.length (byteV L)) (hL : L.length ≤ 1000000) :
    Calls Try.prog 29 #[v, .int .i64 1024, .func (.func 30) #[] #[]] w fun e w' => ∃ r, e = .returned (.tuple #[r, .int .i64 (getR (rCst L) 1024 L).2]) ∧ w'.ownsRow w.heap.size 50 2 r (getR (rCst L) 1024 L).1.length (cstCs (getR (rCst L) 1024 L).1) ∧ Below w.heap.size w w' := by
  obtain ⟨i, hi, hz, hsize, hby⟩ : ∃ i, Try.prog.info? 50 = some i ∧ i.zero = some (.agg #[.int .i64 0, .int .i64 0]) ∧ i.size = 2 ∧ i.bytes = 16 := ⟨(Try.prog.info? 50).get!, by kernel_rfl, by kernel_rfl, by kernel_rfl, by kernel_rfl⟩
  unfold getR
  obtain ⟨A, hA⟩ : ∃ A, rNum L 2 0 false = A := ⟨_, rfl⟩
  obtain ⟨k, hk⟩ := rNum2_fit L 0 false
  have hat := rNum_at L 2 0 false (Nat.zero_le _)
  have HN := Lib.hid (fun g q W hW => rd_Num g q L 0 2 false 2 W hW (by decide) (by omega))
  rw [hA] at HN hk hat ⊢
  obtain ⟨c, n, b⟩ := A
  dsimp only at HN hk hat ⊢
  subst hk
  rw [Int.toNat_natCast]
  clear hA
  have q1 := ownsRow_none'
  cases b
  · by_cases hlim : k ≤ 1024
    · have q0 : (1024 < (k : Int)) = False := eq_false (by omega)
      rw [if_neg (by simp), if_neg (by omega)]
      obtain ⟨X, hX⟩ : ∃ X : List (Int × Int) × Int, X = (if (rRows (rCst L) k n false).2.2 = true then ([], 1) else if 0 < leftOf L (rRows (rCst L) k n false).2.1 (rRows (rCst L) k n false).2.2 then ([], 4) else ((rRows (rCst L) k n false).1, 0)) := ⟨_, rfl⟩
      rw [← hX]
      have HX := Lib.hid hX
      have hrl := rRows_len (rCst L)
      have HRL := Lib.hid hrl
      have HRS := Lib.hid (show ∀ m, rRows (rCst L) (m + 1) n false = ((rRows (rCst L) m n false).1 ++ [(rCst L (rRows (rCst L) m n false).2.1 (rRows (rCst L) m n false).2.2).1], (rCst L (rRows (rCst L) m n false).2.1 (rRows (rCst L) m n false).2.2).2) from fun m => rfl)
      have HR0 := Lib.hid (show rRows (rCst L) 0 n false = ([], n, false) from rfl)
      generalize rRows (rCst L) = RR at HX HRL HRS HR0
      have HBk := Lib.hid (fun g q n b W hW hq => tab_GetConst g q L n b W hW hq)
      clear hX hrl
      go_enter Try.func29, Try.ntmps29
      go_wp2_with fail
      refine (rd_New v L _ hv (by omega)).mono ?_; rintro e w1 ⟨g, q, rfl, hR, hg, ⟨hq, hqg⟩, hb⟩
      have z1 := hb.size
      go_wp2_with fail
      refine (HN.out _ _ _ hR).mono ?_; rintro e w2 ⟨rfl, hR2, hG2⟩
      have hb2 := grownBelow hb hG2 hg z1
      have hz2 := hb2.size
      have hgl := rd_lt hR2
      clear hR hG2
      go_wp2_with fail
      refine (reader_Bad _ _ _ _ _ _ hR2).mono ?_; rintro e w' ⟨rfl, rfl⟩
      obtain ⟨w3, hmk, hO3, hG3⟩ := run_make_own (P := Try.prog) (w := w2) w2.heap.size 22 50 i _ 2 Try.underlying22 hi hz hsize .i64 .i64 k (by rw [hby]; omega) (by unfold maxLen; omega) (Nat.le_refl _)
      have hR3 := Lib.hid (rd_below hR2 (below_none hG3))
      have hb3 : Below w.heap.size w w3 := hb2.trans ((below_none hG3).mono hz2)
      have hz3 := hG3.size
      clear hR2 hG3
      go_wp2_with fail
      go_loopw [10, 23] (fun o j wr => ∃ m : Nat, m ≤ k ∧ j = .int .i64 m ∧ Hid (wr.ownsRow w2.heap.size 50 2 o m (cstCs (RR m n false).1)) ∧ Hid (RdAt wr g q L (RR m n false).2.1 (RR m n false).2.2) ∧ Below w.heap.size w wr ∧ w2.heap.size ≤ wr.heap.size) (fun _ j _ => k - (intOf j).toNat)
      case atStart => exact ⟨0, by omega, rfl, Lib.hid (by rw [HR0.out]; exact hO3), Lib.hid (by rw [HR0.out]; exact hR3.out), hb3, hz3⟩
      case round =>
        obtain ⟨m, hm, rfl, hO, hR, hB, hzz⟩ := hrel
        by_cases hlt : m < k
        · have hRS := HRS.out m
          obtain ⟨Y, hY⟩ : ∃ Y, RR m n false = Y := ⟨_, rfl⟩
          obtain ⟨Z, hZ⟩ : ∃ Z, RR (m + 1) n false = Z := ⟨_, rfl⟩
          rw [hY] at hO hR hRS
          have HZ := Lib.hid hZ
          rw [hZ] at hRS
          clear hY hZ
          obtain ⟨y, ny, by'⟩ := Y
          dsimp only at hO hR hRS
          obtain ⟨T, hT⟩ : ∃ T, rCst L ny by' = T := ⟨_, rfl⟩
          have HB1 := Lib.hid (HBk.out g q ny by' wr hR.out (by omega))
          rw [hT] at HB1 hRS
          clear hT
          obtain ⟨x, nx, bx⟩ := T
          dsimp only at HB1 hRS
          have HRS2 := Lib.hid hRS
          clear hRS HN HX HRL HBk
          go_wp2_with fail
          refine HB1.out.mono ?_; rintro e w4 ⟨rfl, hR4, hG4⟩
          unfold cstV
          have hB4 := grownBelow hB hG4 hg hB.size
          have hO4 := Lib.hid (owns_grown hO.out hG4 (fun gg hgg h => by have := (owns_lt hO.out hgg).1; have : g = gg := by simpa using h
                                                                         omega))
          have hz4 := hG4.size
          have hR4 := Lib.hid hR4
          have ze : (w4.alloc (.cells #[.int .i64 x.1, .int .i64 x.2] 50)).heap.size = w4.heap.size + 1 := by simp
          have hR5 := Lib.hid (rd_below hR4.out ((Below.refl _ _).alloc (Nat.le_refl _) (.cells #[.int .i64 x.1, .int .i64 x.2] 50)))
          have hO5 := Lib.hid (owns_below hO4.out ((Below.refl _ _).alloc (Nat.le_refl _) (.cells #[.int .i64 x.1, .int .i64 x.2] 50)))
          have hB5 := Lib.hid (hB4.alloc hB4.size (.cells #[.int .i64 x.1, .int .i64 x.2] 50))
          clear hG4
          go_wp2_with (first | (at_builtin; go_loud (refine wpList_append_src rfl (.tmp 25) (.tmp 29) 22 rfl w2.heap.size 50 i (.agg #[.int .i64 0, .int .i64 0]) 2 16 Try.underlying22 hi hz hsize hby rfl (by omega) _ m _ rfl hO5.out _ 1 [.int .i64 x.1, .int .i64 x.2] rfl (src_new _ _ _) rfl (by intro u hu; simp at hu; rcases hu with rfl | rfl <;> rfl) (by unfold maxLen; omega) (by omega) (by first | omega | (simp; omega)) ?_; intro v3 w3' hO6 hG6; have HO6 := Lib.hid hO6; have hR6 := Lib.hid (rd_stay hR5.out (hG6.block g (rd_lt hR5.out) (fun h => by have := (owns_lt hO5.out h.symm).1; omega)) (fun hql => hG6.block q hql (fun h => by have := (owns_lt hO5.out h.symm).1; omega))); have hB6 := grown3 (hB5.out) (hB5.out.size) (own_low hO5.out hz2) hG6; have hz6 := hG6.size; clear hO6 hG6)) | fail)
          go_roundw
          case rel => exact ⟨m + 1, by omega, by simp, Lib.hid (by rw [HZ.out, HRS2.out, cstCs_snoc]; exact HO6.out), Lib.hid (by rw [HZ.out, HRS2.out]; exact hR6.out), hB6, by omega⟩
          case measure => first | (simp [intOf]; done) | (simp [intOf]; omega)
        · obtain rfl : m = k := by omega
          obtain ⟨Y, hY⟩ : ∃ Y, RR m n false = Y := ⟨_, rfl⟩
          rw [hY] at hO hR HX
          obtain ⟨y, ny, by'⟩ := Y
          have hyl := HRL.out m n false
          rw [hY] at hyl
          dsimp only at hO hR HX hyl
          have HY := Lib.hid hyl
          clear hY hyl
          go_wp2_with fail
          refine (reader_Bad _ _ _ _ _ _ hR.out).mono ?_; rintro e w' ⟨rfl, rfl⟩
          cases by'
          · have HX2 := Lib.hid (show X = if 0 < leftOf L ny false then ([], 4) else (y, 0) by rw [HX.out, if_neg (by simp)])
            have HLeft := Lib.hid (reader_Left g q L ny false _ hR.out)
            generalize leftOf L ny false = lf at HX2 HLeft
            by_cases hlf : 0 < lf
            · have q2 : (0 < lf) = True := eq_true hlf
              have HX3 := Lib.hid (show X = ([], 4) by rw [HX2.out, if_pos hlf])
              clear HX HX2
              go_wp2_with fail
              refine HLeft.out.mono ?_; rintro e w' ⟨rfl, md, rfl⟩
              go_wp2_with fail
              go_returns
              exact ⟨_, by rw [HX3.out]; rfl, by rw [HX3.out]; exact ownsRow_none' _ _ _ _, below_drewN hB md⟩
            · have q2 : (0 < lf) = False := eq_false hlf
              have HX3 := Lib.hid (show X = (y, 0) by rw [HX2.out, if_neg hlf])
              clear HX HX2
              go_wp2_with fail
              refine HLeft.out.mono ?_; rintro e w' ⟨rfl, md, rfl⟩
              go_wp2_with fail
              go_returns
              exact ⟨_, by rw [HX3.out]; rfl, by rw [HX3.out, HY.out]; exact own_low hO.out hz2, below_drewN hB md⟩
          · have HX2 := Lib.hid (show X = ([], 1) by rw [HX.out, if_pos rfl])
            clear HX
            go_wp2_with fail
            go_returns
            exact ⟨_, by rw [HX2.out]; rfl, by rw [HX2.out]; exact ownsRow_none' _ _ _ _, hB⟩
    · have q0 : (1024 < (k : Int)) = True := eq_true (by omega)
      rw [if_neg (by simp), if_pos (by omega)]
      go_enter Try.func29, Try.ntmps29
      go_wp2_with fail
      refine (rd_New v L _ hv (by omega)).mono ?_; rintro e w1 ⟨g, q, rfl, hR, hg, ⟨hq, hqg⟩, hb⟩
      have z1 := hb.size
      go_wp2_with fail
      refine (HN.out _ _ _ hR).mono ?_; rintro e w2 ⟨rfl, hR2, hG2⟩
      have hb2 := grownBelow hb hG2 hg z1
      clear hR hG2
      go_wp2_with fail
      refine (reader_Bad _ _ _ _ _ _ hR2).mono ?_; rintro e w' ⟨rfl, rfl⟩
      go_wp2_with fail
      go_returns
      exact ⟨_, rfl, ownsRow_none' _ _ _ _, hb2⟩
  · rw [if_pos rfl]
    go_enter Try.func29, Try.ntmps29
    go_wp2_with fail
    refine (rd_New v L _ hv (by omega)).mono ?_; rintro e w1 ⟨g, q, rfl, hR, hg, ⟨hq, hqg⟩, hb⟩
    have z1 := hb.size
    go_wp2_with fail
    refine (HN.out _ _ _ hR).mono ?_; rintro e w2 ⟨rfl, hR2, hG2⟩
    have hb2 := grownBelow hb hG2 hg z1
    clear hR hG2
    go_wp2_with fail
    refine (reader_Bad _ _ _ _ _ _ hR2).mono ?_; rintro e w' ⟨rfl, rfl⟩
    go_wp2_with fail
    go_returns
    exact ⟨_, rfl, ownsRow_none' _ _ _ _, hb2⟩
end Go.Proofs.Ytdpcfcflcfjmjaa
