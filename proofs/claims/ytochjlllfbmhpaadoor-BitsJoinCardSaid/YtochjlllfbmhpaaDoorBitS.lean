/- Layer 6: the document's sets: both, one of both. -/
import Derived.Test.YtochjlllfbmhpaaDoorBitR
namespace Go.Proofs.YtochjlllfbmhpaaDoor
open Go.RowKit
set_option linter.unusedSimpArgs false
set_option linter.unusedVariables false
def andN (x y : List Bool) (n : Nat) : List Bool := (List.range n).map fun i => x.getD i false && y.getD i false
def orN (x y : List Bool) (n : Nat) : List Bool := (List.range n).map fun i => x.getD i false || y.getD i false
theorem andN_succ (x y : List Bool) (n : Nat) : andN x y (n + 1) = andN x y n ++ [x.getD n false && y.getD n false] := by simp [andN, List.range_succ]
theorem orN_succ (x y : List Bool) (n : Nat) : orN x y (n + 1) = orN x y n ++ [x.getD n false || y.getD n false] := by simp [orN, List.range_succ]
theorem andN_len (x y : List Bool) (n : Nat) : (andN x y n).length = n := by simp [andN]
theorem orN_len (x y : List Bool) (n : Nat) : (orN x y n).length = n := by simp [orN]
set_option maxHeartbeats 1000000 in
theorem ref06_And (v u : Value) (x y : List Bool) (w : World) (hx : RowR 1 boolR w v x) (hy : RowR 1 boolR w u y) (hn : x.length ≤ 65536) (hn2 : y.length ≤ 65536) : Calls Tryd.prog 16 #[v, u] w fun e w' => ∃ r, e = .returned r ∧ RowR 1 boolR w' r (andB x y) ∧ Below w.heap.size w w' := by
  obtain ⟨j, hj, hz, hsize, hby⟩ : ∃ i, Tryd.prog.info? 4 = some i ∧ i.zero = some (.bool false) ∧ i.size = 1 ∧ i.bytes = 1 := ⟨(Tryd.prog.info? 4).get!, by kernel_rfl, by kernel_rfl, by kernel_rfl, by kernel_rfl⟩
  have HX := Lib.hid (fun W (h : Below w.heap.size w W) => hx.below boolR_stable h)
  have HY := Lib.hid (fun W (h : Below w.heap.size w W) => hy.below boolR_stable h)
  obtain ⟨a, c, rfl⟩ := row_get hx
  obtain ⟨a2, c2, rfl⟩ := row_get hy
  obtain ⟨n, hxn⟩ : ∃ n, x.length = n := ⟨_, rfl⟩
  obtain ⟨n2, hyn⟩ : ∃ n, y.length = n := ⟨_, rfl⟩
  have HN := Lib.hid hxn
  have HN2 := Lib.hid hyn
  rw [hxn] at hn HX ⊢
  rw [hyn] at hn2 HY ⊢
  clear hxn hyn hx hy
  go_enter Tryd.func16, Tryd.ntmps16
  go_wp2_with fail
  go_loopw [5, 6] (fun o jj wr => ∃ k : Nat, k ≤ min n n2 ∧ jj = .int .i64 k ∧ Hid (wr.ownsRow w.heap.size 4 1 o k (bV1 (andN x y k))) ∧ Hid (Below w.heap.size w wr)) (fun _ jj _ => min n n2 - (intOf jj).toNat)
  case atStart => exact ⟨0, by omega, rfl, Lib.hid (World.ownsRow_nil _ _ _ _), Lib.hid (Below.refl _ _)⟩
  case round =>
    obtain ⟨k, hk, rfl, hO, hB⟩ := hrel
    by_cases hlt : k < n
    · have p1 : ((k : Int) < (n : Int)) = True := eq_true (by omega)
      have p1' : (k < n) = True := eq_true hlt
      by_cases hlt2 : k < n2
      · have p2 : ((k : Int) < (n2 : Int)) = True := eq_true (by omega)
        have p2' : (k < n2) = True := eq_true hlt2
        have hXr := HX.out _ hB.out
        have hYr := HY.out _ hB.out
        obtain ⟨b, off, rfl, _, l1, l2, lc⟩ := bools_at hXr (k := k) (by rw [HN.out]; exact hlt)
        obtain ⟨b2, off2, rfl, _, m1, m2, mc⟩ := bools_at hYr (k := k) (by rw [HN2.out]; exact hlt2)
        have hc := lc k (by rw [HN.out]; exact hlt)
        have hc2 := mc k (by rw [HN2.out]; exact hlt2)
        have hsu := Lib.hid (andN_succ x y k)
        have hBr := Lib.hid hB.out
        have hOr := Lib.hid hO.out
        have hsz := hB.out.size
        have hk65 : k ≤ 65536 := by omega
        have HLT := Lib.hid (And.intro hlt hlt2)
        clear lc mc hXr hYr hlt hlt2 hk
        cases hxk : x.getD k false
        · rw [hxk] at hc hsu
          rw [Bool.false_and] at hsu
          clear hxk
          generalize y.getD k false = z2 at *
          go_wp2_with (first | (at_builtin; go_loud (refine wpList_append_src rfl (.tmp 19) (.tmp 30) 27 rfl w.heap.size 4 j (.bool false) 1 1 Tryd.underlying27 hj hz hsize hby rfl (by omega) _ k _ rfl (owns_below hOr.out ((Below.refl _ _).alloc (Nat.le_refl _) _)) _ 1 [.bool false] rfl (src_new _ _ _) rfl (by intro u hu; simp at hu; rw [hu]; rfl) (by unfold maxLen; omega) (by omega) (by simp; omega) ?_; intro v3 w3 hO3 hG3; have hB3 := Lib.hid (grown3 (hBr.out.alloc hsz _) (by simp; omega) (owns_below hOr.out ((Below.refl _ _).alloc (Nat.le_refl _) _)) hG3); have HO3 := Lib.hid hO3; clear hO3 hG3)) | fail)
          go_roundw
          case rel => exact ⟨k + 1, by have := HLT.out; omega, by simp, Lib.hid (by rw [hsu.out]; exact own_eq2 HO3.out rfl (by simp [bV1])), hB3⟩
          case measure => have := HLT.out; simp [intOf]; omega
        · rw [hxk] at hc hsu
          rw [Bool.true_and] at hsu
          clear hxk
          generalize y.getD k false = z2 at *
          go_wp2_with (first | (at_builtin; go_loud (refine wpList_append_src rfl (.tmp 19) (.tmp 30) 27 rfl w.heap.size 4 j (.bool false) 1 1 Tryd.underlying27 hj hz hsize hby rfl (by omega) _ k _ rfl (owns_below hOr.out ((Below.refl _ _).alloc (Nat.le_refl _) _)) _ 1 [.bool z2] rfl (src_new _ _ _) rfl (by intro u hu; simp at hu; rw [hu]; rfl) (by unfold maxLen; omega) (by omega) (by simp; omega) ?_; intro v3 w3 hO3 hG3; have hB3 := Lib.hid (grown3 (hBr.out.alloc hsz _) (by simp; omega) (owns_below hOr.out ((Below.refl _ _).alloc (Nat.le_refl _) _)) hG3); have HO3 := Lib.hid hO3; clear hO3 hG3)) | fail)
          go_roundw
          case rel => exact ⟨k + 1, by have := HLT.out; omega, by simp, Lib.hid (by rw [hsu.out]; exact own_eq2 HO3.out rfl (by simp [bV1])), hB3⟩
          case measure => have := HLT.out; simp [intOf]; omega
      · have p2 : ((k : Int) < (n2 : Int)) = False := eq_false (by omega)
        have p2' : (k < n2) = False := eq_false hlt2
        have hrow := Lib.hid (bools_of_owns (l := andB x y) (own_eq2 hO.out (show k = (andB x y).length by unfold andB; rw [List.length_map, List.length_range, HN.out, HN2.out]; omega) (by unfold andN andB; rw [HN.out, HN2.out, show min n n2 = k by omega])))
        clear hO hlt2
        go_wp2_with fail
        go_ret
        exact ⟨_, rfl, hrow.out, hB.out⟩
    · have p1 : ((k : Int) < (n : Int)) = False := eq_false (by omega)
      have p1' : (k < n) = False := eq_false hlt
      have hrow := Lib.hid (bools_of_owns (l := andB x y) (own_eq2 hO.out (show k = (andB x y).length by unfold andB; rw [List.length_map, List.length_range, HN.out, HN2.out]; omega) (by unfold andN andB; rw [HN.out, HN2.out, show min n n2 = k by omega])))
      clear hO hlt
      go_wp2_with fail
      go_ret
      exact ⟨_, rfl, hrow.out, hB.out⟩
end Go.Proofs.YtochjlllfbmhpaaDoor
