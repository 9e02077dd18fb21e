/- Layer 14: a table of blocks is read. -/
import Derived.Test.YtdpcfcflcfjmjaaTabGet
namespace Go.Proofs.Ytdpcfcflcfjmjaa
open Go.RowKit
set_option linter.unusedSimpArgs false
set_option linter.unusedVariables false
def blkCs (l : List Bk) : List Value := l.flatMap fun x => [.string ⟨x.name.toArray⟩, .int .i64 x.kind]
theorem blkCs_snoc (l : List Bk) (x : Bk) : blkCs (l ++ [x]) = blkCs l ++ [.string ⟨x.name.toArray⟩, .int .i64 x.kind] := by simp [blkCs]
theorem rNum2_fit (L : List UInt8) (n : Nat) (b : Bool) : ∃ k : Nat, (rNum L 2 n b).1 = (k : Int) := by
  have h := rTake_len8 L 2 n b
  unfold rNum
  dsimp only
  generalize (rTake L ((2 : Nat) : Int) n b).1 = B at h
  match B, h with
  | [], _ => exact ⟨0, by rw [numV_nil]; rfl⟩
  | [c], _ => exact ⟨c.toNat, numV_one c⟩
  | [c, d], _ =>
    obtain ⟨k, hk, _⟩ := numV2 (B := [c, d]) rfl
    exact ⟨k, hk⟩
theorem grownBelow {w w1 w2 : World} {B g : Nat} (hb : Below B w w1) (hg : w1.grownBy w2 (some g)) (hB : B ≤ g) (hs : B ≤ w1.heap.size) : Below B w w2 :=
  hb.trans ⟨hg.os, hg.tape, hg.output, hg.size, fun k hk => hg.block k (by omega) (by simp; omega)⟩
set_option maxHeartbeats 4000000 in
theorem tab_get_blocks (v : Value) (L : List UInt8) (w : World) (hv : RowAt w v L.length (byteV L)) (hL : L.length ≤ 1000000) :
    Calls Try.prog 45 #[v, .int .i64 32, .func (.func 46) #[] #[]] w fun e w' => ∃ r, e = .returned (.tuple #[r, .int .i64 (getR (rBlk L) 32 L).2]) ∧ w'.ownsRow w.heap.size 42 2 r (getR (rBlk L) 32 L).1.length (blkCs (getR (rBlk L) 32 L).1) ∧ Below w.heap.size w w' := by
  obtain ⟨i, hi, hz, hsize, hby⟩ : ∃ i, Try.prog.info? 42 = some i ∧ i.zero = some (.agg #[.string ⟨#[]⟩, .int .i64 0]) ∧ i.size = 2 ∧ i.bytes = 24 := ⟨(Try.prog.info? 42).get!, by kernel_rfl, by kernel_rfl, by kernel_rfl, by kernel_rfl⟩
  unfold getR
  obtain ⟨A, hA⟩ : ∃ A, rNum L 2 0 false = A := ⟨_, rfl⟩
  obtain ⟨k, hk⟩ := rNum2_fit L 0 false
  have hat := rNum_at L 2 0 false (Nat.zero_le _)
  have HN := Lib.hid (fun g q W hW => rd_Num g q L 0 2 false 2 W hW (by decide) (by omega))
  rw [hA] at HN hk hat ⊢
  obtain ⟨c, n, b⟩ := A
  dsimp only at HN hk hat ⊢
  subst hk
  rw [Int.toNat_natCast]
  clear hA
  have q1 := ownsRow_none'
  cases b
  · by_cases hlim : k ≤ 32
    · have q0 : (32 < (k : Int)) = False := eq_false (by omega)
      rw [if_neg (by simp), if_neg (by omega)]
      obtain ⟨X, hX⟩ : ∃ X : List Bk × Int, X = (if (rRows (rBlk L) k n false).2.2 = true then ([], 1) else if 0 < leftOf L (rRows (rBlk L) k n false).2.1 (rRows (rBlk L) k n false).2.2 then ([], 4) else ((rRows (rBlk L) k n false).1, 0)) := ⟨_, rfl⟩
      rw [← hX]
      have HX := Lib.hid hX
      have hrl := rRows_len (rBlk L)
      have HRL := Lib.hid hrl
      have HRS := Lib.hid (show ∀ m, rRows (rBlk L) (m + 1) n false = ((rRows (rBlk L) m n false).1 ++ [(rBlk L (rRows (rBlk L) m n false).2.1 (rRows (rBlk L) m n false).2.2).1], (rBlk L (rRows (rBlk L) m n false).2.1 (rRows (rBlk L) m n false).2.2).2) from fun m => rfl)
      have HR0 := Lib.hid (show rRows (rBlk L) 0 n false = ([], n, false) from rfl)
      generalize rRows (rBlk L) = RR at HX HRL HRS HR0
      have HBk := Lib.hid (fun g q n b W hW hq => tab_GetBlock g q L n b W hW hq)
      clear hX hrl
      go_enter Try.func45, Try.ntmps45
      go_wp2_with fail
      refine (rd_New v L _ hv (by omega)).mono ?_; rintro e w1 ⟨g, q, rfl, hR, hg, ⟨hq, hqg⟩, hb⟩
      have z1 := hb.size
      go_wp2_with fail
      refine (HN.out _ _ _ hR).mono ?_; rintro e w2 ⟨rfl, hR2, hG2⟩
      have hb2 := grownBelow hb hG2 hg z1
      have hz2 := hb2.size
      have hgl := rd_lt hR2
      clear hR hG2
      go_wp2_with fail
      refine (reader_Bad _ _ _ _ _ _ hR2).mono ?_; rintro e w' ⟨rfl, rfl⟩
      obtain ⟨w3, hmk, hO3, hG3⟩ := run_make_own (P := Try.prog) (w := w2) w2.heap.size 40 42 i _ 2 Try.underlying40 hi hz hsize .i64 .i64 k (by rw [hby]; omega) (by unfold maxLen; omega) (Nat.le_refl _)
      have hR3 := Lib.hid (rd_below hR2 (below_none hG3))
      have hb3 : Below w.heap.size w w3 := hb2.trans ((below_none hG3).mono hz2)
      have hz3 := hG3.size
      clear hR2 hG3
      go_wp2_with fail
      go_loopw [10, 23] (fun o j wr => ∃ m : Nat, m ≤ k ∧ j = .int .i64 m ∧ Hid (wr.ownsRow w2.heap.size 42 2 o m (blkCs (RR m n false).1)) ∧ Hid (RdAt wr g q L (RR m n false).2.1 (RR m n false).2.2) ∧ Below w.heap.size w wr ∧ w2.heap.size ≤ wr.heap.size) (fun _ j _ => k - (intOf j).toNat)
      case atStart => exact ⟨0, by omega, rfl, Lib.hid (by rw [HR0.out]; exact hO3), Lib.hid (by rw [HR0.out]; exact hR3.out), hb3, hz3⟩
      case round =>
        obtain ⟨m, hm, rfl, hO, hR, hB, hzz⟩ := hrel
        by_cases hlt : m < k
        · have hRS := HRS.out m
          obtain ⟨Y, hY⟩ : ∃ Y, RR m n false = Y := ⟨_, rfl⟩
          obtain ⟨Z, hZ⟩ : ∃ Z, RR (m + 1) n false = Z := ⟨_, rfl⟩
          rw [hY] at hO hR hRS
          have HZ := Lib.hid hZ
          rw [hZ] at hRS
          clear hY hZ
          obtain ⟨y, ny, by'⟩ := Y
          dsimp only at hO hR hRS
          obtain ⟨T, hT⟩ : ∃ T, rBlk L ny by' = T := ⟨_, rfl⟩
          have HB1 := Lib.hid (HBk.out g q ny by' wr hR.out (by omega))
          rw [hT] at HB1 hRS
          clear hT
          obtain ⟨x, nx, bx⟩ := T
          dsimp only at HB1 hRS
          have HRS2 := Lib.hid hRS
          clear hRS HN HX HRL HBk
          go_wp2_with fail
          refine HB1.out.mono ?_; rintro e w4 ⟨rfl, hR4, hG4⟩
          unfold blkV
          have hB4 := grownBelow hB hG4 hg hB.size
          have hO4 := Lib.hid (owns_grown hO.out hG4 (fun gg hgg h => by have := (owns_lt hO.out hgg).1; have : g = gg := by simpa using h
                                                                         omega))
          have hz4 := hG4.size
          have hR4 := Lib.hid hR4
          have ze : (w4.alloc (.cells #[.string ⟨x.name.toArray⟩, .int .i64 x.kind] 42)).heap.size = w4.heap.size + 1 := by simp
          have hR5 := Lib.hid (rd_below hR4.out ((Below.refl _ _).alloc (Nat.le_refl _) (.cells #[.string ⟨x.name.toArray⟩, .int .i64 x.kind] 42)))
          have hO5 := Lib.hid (owns_below hO4.out ((Below.refl _ _).alloc (Nat.le_refl _) (.cells #[.string ⟨x.name.toArray⟩, .int .i64 x.kind] 42)))
          have hB5 := Lib.hid (hB4.alloc hB4.size (.cells #[.string ⟨x.name.toArray⟩, .int .i64 x.kind] 42))
          clear hG4
          go_wp2_with (first | (at_builtin; go_loud (refine wpList_append_src rfl (.tmp 25) (.tmp 29) 40 rfl w2.heap.size 42 i (.agg #[.string ⟨#[]⟩, .int .i64 0]) 2 24 Try.underlying40 hi hz hsize hby rfl (by omega) _ m _ rfl hO5.out _ 1 [.string ⟨x.name.toArray⟩, .int .i64 x.kind] rfl (src_new _ _ _) rfl (by intro u hu; simp at hu; rcases hu with rfl | rfl <;> rfl) (by unfold maxLen; omega) (by omega) (by first | omega | (simp; omega)) ?_; intro v3 w3' hO6 hG6; have HO6 := Lib.hid hO6; have hR6 := Lib.hid (rd_stay hR5.out (hG6.block g (rd_lt hR5.out) (fun h => by have := (owns_lt hO5.out h.symm).1; omega)) (fun hql => hG6.block q hql (fun h => by have := (owns_lt hO5.out h.symm).1; omega))); have hB6 := grown3 (hB5.out) (hB5.out.size) (own_low hO5.out hz2) hG6; have hz6 := hG6.size; clear hO6 hG6)) | fail)
          go_roundw
          case rel => exact ⟨m + 1, by omega, by simp, Lib.hid (by rw [HZ.out, HRS2.out, blkCs_snoc]; exact HO6.out), Lib.hid (by rw [HZ.out, HRS2.out]; exact hR6.out), hB6, by omega⟩
          case measure => first | (simp [intOf]; done) | (simp [intOf]; omega)
        · obtain rfl : m = k := by omega
          obtain ⟨Y, hY⟩ : ∃ Y, RR m n false = Y := ⟨_, rfl⟩
          rw [hY] at hO hR HX
          obtain ⟨y, ny, by'⟩ := Y
          have hyl := HRL.out m n false
          rw [hY] at hyl
          dsimp only at hO hR HX hyl
          have HY := Lib.hid hyl
          clear hY hyl
          go_wp2_with fail
          refine (reader_Bad _ _ _ _ _ _ hR.out).mono ?_; rintro e w' ⟨rfl, rfl⟩
          cases by'
          · have HX2 := Lib.hid (show X = if 0 < leftOf L ny false then ([], 4) else (y, 0) by rw [HX.out, if_neg (by simp)])
            have HLeft := Lib.hid (reader_Left g q L ny false _ hR.out)
            generalize leftOf L ny false = lf at HX2 HLeft
            by_cases hlf : 0 < lf
            · have q2 : (0 < lf) = True := eq_true hlf
              have HX3 := Lib.hid (show X = ([], 4) by rw [HX2.out, if_pos hlf])
              clear HX HX2
              go_wp2_with fail
              refine HLeft.out.mono ?_; rintro e w' ⟨rfl, md, rfl⟩
              go_wp2_with fail
              go_returns
              exact ⟨_, by rw [HX3.out]; rfl, by rw [HX3.out]; exact ownsRow_none' _ _ _ _, below_drewN hB md⟩
            · have q2 : (0 < lf) = False := eq_false hlf
              have HX3 := Lib.hid (show X = (y, 0) by rw [HX2.out, if_neg hlf])
              clear HX HX2
              go_wp2_with fail
              refine HLeft.out.mono ?_; rintro e w' ⟨rfl, md, rfl⟩
              go_wp2_with fail
              go_returns
              exact ⟨_, by rw [HX3.out]; rfl, by rw [HX3.out, HY.out]; exact own_low hO.out hz2, below_drewN hB md⟩
          · have HX2 := Lib.hid (show X = ([], 1) by rw [HX.out, if_pos rfl])
            clear HX
            go_wp2_with fail
            go_returns
            exact ⟨_, by rw [HX2.out]; rfl, by rw [HX2.out]; exact ownsRow_none' _ _ _ _, hB⟩
    · have q0 : (32 < (k : Int)) = True := eq_true (by omega)
      rw [if_neg (by simp), if_pos (by omega)]
      go_enter Try.func45, Try.ntmps45
      go_wp2_with fail
      refine (rd_New v L _ hv (by omega)).mono ?_; rintro e w1 ⟨g, q, rfl, hR, hg, ⟨hq, hqg⟩, hb⟩
      have z1 := hb.size
      go_wp2_with fail
      refine (HN.out _ _ _ hR).mono ?_; rintro e w2 ⟨rfl, hR2, hG2⟩
      have hb2 := grownBelow hb hG2 hg z1
      clear hR hG2
      go_wp2_with fail
      refine (reader_Bad _ _ _ _ _ _ hR2).mono ?_; rintro e w' ⟨rfl, rfl⟩
      go_wp2_with fail
      go_returns
      exact ⟨_, rfl, ownsRow_none' _ _ _ _, hb2⟩
  · rw [if_pos rfl]
    go_enter Try.func45, Try.ntmps45
    go_wp2_with fail
    refine (rd_New v L _ hv (by omega)).mono ?_; rintro e w1 ⟨g, q, rfl, hR, hg, ⟨hq, hqg⟩, hb⟩
    have z1 := hb.size
    go_wp2_with fail
    refine (HN.out _ _ _ hR).mono ?_; rintro e w2 ⟨rfl, hR2, hG2⟩
    have hb2 := grownBelow hb hG2 hg z1
    clear hR hG2
    go_wp2_with fail
    refine (reader_Bad _ _ _ _ _ _ hR2).mono ?_; rintro e w' ⟨rfl, rfl⟩
    go_wp2_with fail
    go_returns
    exact ⟨_, rfl, ownsRow_none' _ _ _ _, hb2⟩
end Go.Proofs.Ytdpcfcflcfjmjaa
