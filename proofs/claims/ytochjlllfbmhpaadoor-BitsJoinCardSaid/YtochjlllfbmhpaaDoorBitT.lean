/- Layer 6: the document's sets: one of both, the same, the places. -/
import Derived.Test.YtochjlllfbmhpaaDoorBitS
namespace Go.Proofs.YtochjlllfbmhpaaDoor
open Go.RowKit
set_option linter.unusedSimpArgs false
set_option linter.unusedVariables false
theorem hasB_nat (x : List Bool) (k : Nat) : hasB x k = x.getD k false := by
  unfold hasB
  split
  · rfl
  · rw [getD_ge (by omega)]
set_option maxHeartbeats 1000000 in
theorem ref06_Or (v u : Value) (x y : List Bool) (w : World) (hx : RowR 1 boolR w v x) (hy : RowR 1 boolR w u y) (hn : x.length ≤ 65536) (hn2 : y.length ≤ 65536) : Calls Tryd.prog 17 #[v, u] w fun e w' => ∃ r, e = .returned r ∧ RowR 1 boolR w' r (orB x y) ∧ Below w.heap.size w w' := by
  obtain ⟨j, hj, hz, hsize, hby⟩ : ∃ i, Tryd.prog.info? 4 = some i ∧ i.zero = some (.bool false) ∧ i.size = 1 ∧ i.bytes = 1 := ⟨(Tryd.prog.info? 4).get!, by kernel_rfl, by kernel_rfl, by kernel_rfl, by kernel_rfl⟩
  have HX := Lib.hid (fun W (h : Below w.heap.size w W) (k : Nat) => hasB_nat x k ▸ ref06_Has v x k W (hx.below boolR_stable h))
  have HY := Lib.hid (fun W (h : Below w.heap.size w W) (k : Nat) => hasB_nat y k ▸ ref06_Has u y k W (hy.below boolR_stable h))
  obtain ⟨a, c, rfl⟩ := row_get hx
  obtain ⟨a2, c2, rfl⟩ := row_get hy
  obtain ⟨n, hxn⟩ : ∃ n, x.length = n := ⟨_, rfl⟩
  obtain ⟨n2, hyn⟩ : ∃ n, y.length = n := ⟨_, rfl⟩
  have HN := Lib.hid hxn
  have HN2 := Lib.hid hyn
  rw [hxn] at hn HX ⊢
  rw [hyn] at hn2 HY ⊢
  clear hxn hyn hx hy
  go_enter Tryd.func17, Tryd.ntmps17
  go_wp2_with fail
  go_loopw [5, 6] (fun o jj wr => ∃ k : Nat, k ≤ max n n2 ∧ jj = .int .i64 k ∧ Hid (wr.ownsRow w.heap.size 4 1 o k (bV1 (orN x y k))) ∧ Hid (Below w.heap.size w wr)) (fun _ jj _ => max n n2 - (intOf jj).toNat)
  case atStart => exact ⟨0, by omega, rfl, Lib.hid (World.ownsRow_nil _ _ _ _), Lib.hid (Below.refl _ _)⟩
  case round =>
    obtain ⟨k, hk, rfl, hO, hB⟩ := hrel
    by_cases hlt : k < max n n2
    · have hg : ((k : Int) < (n : Int)) = True ∨ ((k : Int) < (n : Int)) = False ∧ ((k : Int) < (n2 : Int)) = True := by
        by_cases h : k < n
        · exact Or.inl (eq_true (by omega))
        · exact Or.inr ⟨eq_false (by omega), eq_true (by omega)⟩
      have hsu := Lib.hid (orN_succ x y k)
      have hBr := Lib.hid hB.out
      have hOr := Lib.hid hO.out
      have hsz := hB.out.size
      have hk65 : k ≤ 65536 := by omega
      have HLT := Lib.hid hlt
      have HXk := Lib.hid (HX.out wr hB.out k)
      have HYk := Lib.hid (HY.out wr hB.out k)
      clear hlt hk
      rcases hg with p1 | ⟨p1, p2⟩
      all_goals (
        cases hxk : x.getD k false
        · rw [hxk] at hsu HXk
          rw [Bool.false_or] at hsu
          clear hxk
          generalize y.getD k false = z2 at *
          go_wp2_with fail
          refine (HXk.out).mono ?_; rintro e w9 ⟨rfl, rfl⟩
          go_wp2_with fail
          refine (HYk.out).mono ?_; rintro e w9 ⟨rfl, rfl⟩
          go_wp2_with (first | (at_builtin; go_loud (refine wpList_append_src rfl (.tmp 19) (.tmp 28) 27 rfl w.heap.size 4 j (.bool false) 1 1 Tryd.underlying27 hj hz hsize hby rfl (by omega) _ k _ rfl (owns_below hOr.out ((Below.refl _ _).alloc (Nat.le_refl _) _)) _ 1 [.bool z2] rfl (src_new _ _ _) rfl (by intro u hu; simp at hu; rw [hu]; rfl) (by unfold maxLen; omega) (by omega) (by simp; omega) ?_; intro v3 w3 hO3 hG3; have hB3 := Lib.hid (grown3 (hBr.out.alloc hsz _) (by simp; omega) (owns_below hOr.out ((Below.refl _ _).alloc (Nat.le_refl _) _)) hG3); have HO3 := Lib.hid hO3; clear hO3 hG3)) | fail)
          go_roundw
          case rel => exact ⟨k + 1, by have := HLT.out; omega, by simp, Lib.hid (by rw [hsu.out]; exact own_eq2 HO3.out rfl (by simp [bV1])), hB3⟩
          case measure => have := HLT.out; simp [intOf]; omega
        · rw [hxk] at hsu HXk
          rw [Bool.true_or] at hsu
          clear hxk
          go_wp2_with fail
          refine (HXk.out).mono ?_; rintro e w9 ⟨rfl, rfl⟩
          go_wp2_with (first | (at_builtin; go_loud (refine wpList_append_src rfl (.tmp 19) (.tmp 28) 27 rfl w.heap.size 4 j (.bool false) 1 1 Tryd.underlying27 hj hz hsize hby rfl (by omega) _ k _ rfl (owns_below hOr.out ((Below.refl _ _).alloc (Nat.le_refl _) _)) _ 1 [.bool true] rfl (src_new _ _ _) rfl (by intro u hu; simp at hu; rw [hu]; rfl) (by unfold maxLen; omega) (by omega) (by simp; omega) ?_; intro v3 w3 hO3 hG3; have hB3 := Lib.hid (grown3 (hBr.out.alloc hsz _) (by simp; omega) (owns_below hOr.out ((Below.refl _ _).alloc (Nat.le_refl _) _)) hG3); have HO3 := Lib.hid hO3; clear hO3 hG3)) | fail)
          go_roundw
          case rel => exact ⟨k + 1, by have := HLT.out; omega, by simp, Lib.hid (by rw [hsu.out]; exact own_eq2 HO3.out rfl (by simp [bV1])), hB3⟩
          case measure => have := HLT.out; simp [intOf]; omega)
    · have p1 : ((k : Int) < (n : Int)) = False := eq_false (by omega)
      have p2 : ((k : Int) < (n2 : Int)) = False := eq_false (by omega)
      have hrow := Lib.hid (bools_of_owns (l := orB x y) (own_eq2 hO.out (show k = (orB x y).length by unfold orB; rw [List.length_map, List.length_range, HN.out, HN2.out]; omega) (by unfold orN orB; rw [HN.out, HN2.out, show max n n2 = k by omega])))
      clear hO hlt
      go_wp2_with fail
      go_ret
      exact ⟨_, rfl, hrow.out, hB.out⟩
set_option maxHeartbeats 1000000 in
theorem ref06_Same (v u : Value) (x y : List Bool) (w : World) (hx : RowR 1 boolR w v x) (hy : RowR 1 boolR w u y) : Calls Tryd.prog 19 #[v, u] w fun e w' => e = .returned (.bool (decide (x = y))) ∧ ∃ m, w' = w.drewN m := by
  have hL := hx.len
  by_cases hlen : x.length = y.length
  · have HY := Lib.hid (fun h : x = y => (decide_eq_true h : decide (x = y) = true))
    have HN := Lib.hid (fun h : ¬ x = y => (decide_eq_false h : decide (x = y) = false))
    obtain ⟨a, c, rfl⟩ := row_get hx
    obtain ⟨a2, c2, rfl⟩ := row_get hy
    obtain ⟨N, hN⟩ : ∃ N, x.length = N := ⟨_, rfl⟩
    have hM : y.length = N := hlen.symm.trans hN
    have HNX := Lib.hid hN
    have HNY := Lib.hid hM
    rw [hN] at hx hL ⊢
    rw [hM] at hy ⊢
    have hnn : ((N : Int) != (N : Int)) = false := by simp
    clear hlen hN hM
    go_enter Tryd.func19, Tryd.ntmps19
    go_wp2_with fail
    go_loopw [5] (fun j wr => ∃ k m : Nat, k ≤ N ∧ j = .int .i64 k ∧ Hid (∀ i, i < k → x.getD i false = y.getD i false) ∧ wr = w.drewN m) (fun j _ => N - (intOf j).toNat)
    case atStart => exact ⟨0, 0, by omega, rfl, Lib.hid (fun i hi => by omega), rfl⟩
    case round =>
      obtain ⟨k, m, hk, rfl, hall, rfl⟩ := hrel
      by_cases hlt : k < N
      · have qk : ((k : Int) < (N : Int)) = True := eq_true (by omega)
        have qk' : (k < N) = True := eq_true hlt
        obtain ⟨b, off, rfl, _, l1, l2, lc⟩ := bools_at hx (k := k) (by rw [HNX.out]; exact hlt)
        obtain ⟨b2, off2, rfl, _, m1, m2, mc⟩ := bools_at hy (k := k) (by rw [HNY.out]; exact hlt)
        have hc := lc k (by rw [HNX.out]; exact hlt)
        have hc2 := mc k (by rw [HNY.out]; exact hlt)
        have HLT := Lib.hid hlt
        have hk63 : k ≤ 9223372036854775806 := by omega
        clear lc mc
        by_cases hq : x.getD k false = y.getD k false
        · have hs := Lib.hid (show ∀ i, i < k + 1 → x.getD i false = y.getD i false from fun i hi => by
            rcases (show i < k ∨ i = k by omega) with h | rfl
            · exact hall.out i h
            · exact hq)
          rw [hq] at hc
          clear hq hlt
          generalize y.getD k false = z at *
          have hne : (z != z) = false := by simp
          go_wp2_with fail
          go_quiet (fail)
          go_wp2_with fail
          go_roundw
          case rel => exact ⟨k + 1, _, by have := HLT.out; omega, by simp, hs, rfl⟩
          case measure => have := HLT.out; first | (simp [intOf]; done) | (simp [intOf]; omega)
        · have hno := Lib.hid (HN.out (fun h => hq (by rw [h])))
          obtain ⟨z, hz1, hz2⟩ : ∃ z, y.getD k false = z ∧ x.getD k false = !z := ⟨_, rfl, by
            revert hq; cases x.getD k false <;> cases y.getD k false <;> simp⟩
          rw [hz1] at hc2
          rw [hz2] at hc
          clear hq hlt hz1 hz2
          cases z
          all_goals (
            simp only [Bool.not_false, Bool.not_true] at hc
            go_wp2_with fail
            go_quiet (fail)
            go_wp2_with fail
            go_ret
            exact ⟨by rw [hno.out]; rfl, _, World.drewN_drewN _ _ _⟩)
      · obtain rfl : k = N := by omega
        have qk : ((k : Int) < (k : Int)) = False := eq_false (by omega)
        have qk' : (k < k) = False := eq_false (by omega)
        have hs := Lib.hid (HY.out (list_ext (by rw [HNX.out, HNY.out]) fun i => by
          by_cases hi : i < k
          · exact hall.out i hi
          · rw [getD_ge (by rw [HNX.out]; omega), getD_ge (by rw [HNY.out]; omega)]))
        go_wp2_with fail
        go_ret
        exact ⟨by rw [hs.out]; rfl, _, rfl⟩
  · have hno := Lib.hid (show decide (x = y) = false from decide_eq_false (fun h => hlen (by rw [h])))
    have hne : ((x.length : Int) != (y.length : Int)) = true := by rw [bne_iff_ne]; omega
    rw [hno.out]
    obtain ⟨a, c, rfl⟩ := row_get hx
    obtain ⟨a2, c2, rfl⟩ := row_get hy
    clear hx hy hlen
    generalize x.length = n at *
    generalize y.length = m at *
    go_enter Tryd.func19, Tryd.ntmps19
    go_wp2_with fail
    go_ret
    exact ⟨rfl, 0, rfl⟩
set_option maxHeartbeats 1000000 in
theorem ref06_List (v : Value) (x : List Bool) (w : World) (hx : RowR 1 boolR w v x) (hn : x.length ≤ 65536) (F : Nat → List Int) (hF : F 0 = [] ∧ ∀ k, F (k + 1) = F k ++ (if x.getD k false then [(k : Int)] else [])) : Calls Tryd.prog 24 #[v] w fun e w' => ∃ r, e = .returned r ∧ RowR 1 intR w' r (F x.length) ∧ Below w.heap.size w w' := by
  obtain ⟨i, hi, hz, hsize, hby⟩ : ∃ i, Tryd.prog.info? 3 = some i ∧ i.zero = some (.int .i64 0) ∧ i.size = 1 ∧ i.bytes = 8 := ⟨(Tryd.prog.info? 3).get!, by kernel_rfl, by kernel_rfl, by kernel_rfl, by kernel_rfl⟩
  have hall : ∀ k, (F k).length ≤ k ∧ ∀ z ∈ F k, 0 ≤ z ∧ z < k := by
    intro k
    induction k with
    | zero => rw [hF.1]; exact ⟨by simp, fun z hz => by simp at hz⟩
    | succ k ih =>
      rw [hF.2]
      refine ⟨?_, fun z hz => ?_⟩
      · rw [List.length_append]; split <;> simp <;> omega
      · rcases List.mem_append.1 hz with h | h
        · have := ih.2 z h; omega
        · split at h
          · have : z = k := by simpa using h
            omega
          · simp at h
  have HX := Lib.hid (fun W (h : Below w.heap.size w W) => hx.below boolR_stable h)
  have H0 := Lib.hid hF.1
  have HS := Lib.hid hF.2
  have HA := Lib.hid hall
  obtain ⟨a, c, rfl⟩ := row_get hx
  obtain ⟨n, hxn⟩ : ∃ n, x.length = n := ⟨_, rfl⟩
  have HN := Lib.hid hxn
  rw [hxn] at hn HX ⊢
  clear hxn hx hF hall
  go_enter Tryd.func24, Tryd.ntmps24
  go_wp2_with fail
  go_loopw [3, 4] (fun o jj wr => ∃ k : Nat, k ≤ n ∧ jj = .int .i64 k ∧ Hid (wr.ownsRow w.heap.size 3 1 o (F k).length (iV (F k))) ∧ Hid (Below w.heap.size w wr)) (fun _ jj _ => n - (intOf jj).toNat)
  case atStart => exact ⟨0, by omega, rfl, Lib.hid (by rw [H0.out]; exact World.ownsRow_nil _ _ _ _), Lib.hid (Below.refl _ _)⟩
  case round =>
    obtain ⟨k, hk, rfl, hO, hB⟩ := hrel
    by_cases hlt : k < n
    · have p1 : ((k : Int) < (n : Int)) = True := eq_true (by omega)
      have p1' : (k < n) = True := eq_true hlt
      have hXr := HX.out _ hB.out
      obtain ⟨b, off, rfl, _, l1, l2, lc⟩ := bools_at hXr (k := k) (by rw [HN.out]; exact hlt)
      have hc := lc k (by rw [HN.out]; exact hlt)
      have hsu := Lib.hid (HS.out k)
      have hBr := Lib.hid hB.out
      have hOr := Lib.hid hO.out
      have hsz := hB.out.size
      have HLT := Lib.hid hlt
      have hk63 : k ≤ 65536 := by omega
      have hfl := (HA.out k).1
      clear lc hXr hlt hk
      cases hxk : x.getD k false
      · rw [hxk] at hc hsu
        have hsu := Lib.hid (show F (k + 1) = F k by rw [hsu.out]; simp)
        clear hxk
        go_wp2_with fail
        go_roundw
        case rel => exact ⟨k + 1, by have := HLT.out; omega, by simp, Lib.hid (by rw [hsu.out]; exact hO.out), hB⟩
        case measure => have := HLT.out; simp [intOf]; omega
      · rw [hxk] at hc hsu
        have hsu := Lib.hid (show F (k + 1) = F k ++ [(k : Int)] by rw [hsu.out]; simp)
        clear hxk
        have hk2 := HLT.out
        obtain ⟨ft, hff⟩ : ∃ ft, F k = ft := ⟨_, rfl⟩
        rw [hff] at hOr hO hsu hfl
        obtain ⟨fn, hfn⟩ : ∃ fn, ft.length = fn := ⟨_, rfl⟩
        rw [hfn] at hOr hO hfl
        have HFN := Lib.hid hfn
        have hfb : fn ≤ 65536 := by omega
        clear hff hfn hk2 hfl
        go_wp2_with (first | (at_builtin; go_loud (refine wpList_append_src rfl (.tmp 15) (.tmp 17) 22 rfl w.heap.size 3 i (.int .i64 0) 1 8 Tryd.underlying22 hi hz hsize hby rfl (by omega) _ fn _ rfl (owns_below hOr.out ((Below.refl _ _).alloc (Nat.le_refl _) _)) _ 1 [.int .i64 k] rfl (src_new _ _ _) rfl (by intro u hu; simp at hu; rw [hu]; rfl) (by unfold maxLen; omega) (by omega) (by simp; omega) ?_; intro v3 w3 hO3 hG3; have hB3 := Lib.hid (grown3 (hBr.out.alloc hsz _) (by simp; omega) (owns_below hOr.out ((Below.refl _ _).alloc (Nat.le_refl _) _)) hG3); have HO3 := Lib.hid hO3; clear hO3 hG3)) | fail)
        go_roundw
        case rel => exact ⟨k + 1, by have := HLT.out; omega, by simp, Lib.hid (by rw [hsu.out]; exact own_eq2 HO3.out (by simp [HFN.out]) (by simp [iV])), hB3⟩
        case measure => have := HLT.out; simp [intOf]; omega
    · obtain rfl : k = n := by omega
      have p1 : ((k : Int) < (k : Int)) = False := eq_false (by omega)
      have p1' : (k < k) = False := eq_false hlt
      have hrow := Lib.hid (row_of_owns hO.out (fun z hz => by have := (HA.out k).2 z hz; unfold I64; omega))
      clear hO hlt
      go_wp2_with fail
      go_ret
      exact ⟨_, rfl, hrow.out, hB.out⟩
end Go.Proofs.YtochjlllfbmhpaaDoor
