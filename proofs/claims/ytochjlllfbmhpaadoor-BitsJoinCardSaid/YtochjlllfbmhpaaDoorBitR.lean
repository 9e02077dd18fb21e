/- Layer 6: the document's sets: made, with one more, whether one is there. -/
import Derived.Test.YtochjlllfbmhpaaDoorBools
import Derived.Test.YtochjlllfbmhpaaDoorBitPure
import Derived.Test.YtochjlllfbmhpaaDoorMoreB
import Derived.Test.YtochjlllfbmhpaaDoorHeap
import Derived.LoopTactic
import Derived.OwnWalk
import Derived.WalkKit
import Derived.WalkSpells
import Derived.WalkLawsBesides
import Derived.Deep.QuietTactic
import Derived.BigQuiet
import Derived.WalkSmall
import Derived.IntWalk
namespace Go.Proofs.YtochjlllfbmhpaaDoor
open Go.RowKit
set_option linter.unusedSimpArgs false
set_option linter.unusedVariables false
theorem made_false (m : Nat) : madeCells (Value.bool false).cells m = (bV1 (List.replicate m false)).toArray := by
  apply Array.ext_getElem?
  intro i
  by_cases h : i < m
  · simp [madeCells, Value.cells, h, Nat.mod_one, bV1, List.getElem?_replicate]
  · simp [madeCells, Value.cells, h, bV1, List.getElem?_replicate]
set_option maxHeartbeats 1000000 in
theorem ref06_New (r : Int) (w : World) : Calls Tryd.prog 22 #[.int .i64 r] w fun e w' => ∃ v, e = .returned v ∧ RowR 1 boolR w' v (List.replicate (clampR r) false) ∧ Below w.heap.size w w' := by
  obtain ⟨i, hi, hz, hsize, hby⟩ : ∃ i, Tryd.prog.info? 4 = some i ∧ i.zero = some (.bool false) ∧ i.size = 1 ∧ i.bytes = 1 := ⟨(Tryd.prog.info? 4).get!, by kernel_rfl, by kernel_rfl, by kernel_rfl, by kernel_rfl⟩
  have hle : clampR r ≤ 65536 := by unfold clampR; split <;> (try split) <;> omega
  have hr : min (max r 0) 65536 = (clampR r : Int) := by unfold clampR; split <;> (try split) <;> omega
  obtain ⟨n, hn⟩ : ∃ n, clampR r = n := ⟨_, rfl⟩
  rw [hn] at hle hr ⊢
  clear hn
  have hmk := fun W => run_make W 27 4 i _ Tryd.underlying27 hi hz .i64 .i64 (n : Int) (n : Int) (by omega) (by omega) (by rw [hby]; omega) (by omega)
  rw [hsize, Nat.mul_one, made_false, Int.toNat_natCast] at hmk
  have hmz : ∀ (z : Int), z = (n : Int) → ∀ W, Sem.run Tryd.prog (Instr.makeSlice 27 (Value.int .i64 z) (Value.int .i64 z)) W = Result.ok (Value.slice (some ⟨W.heap.size, 0, none⟩) n n) (W.alloc (.cells (bV1 (List.replicate n false)).toArray 4)) := by
    rintro z rfl W; exact hmk W
  have HF := Lib.hid (show RowR 1 boolR (w.alloc (.cells (bV1 (List.replicate n false)).toArray 4)) (.slice (some ⟨w.heap.size, 0, none⟩) n n) (List.replicate n false) from
    bools_of_owns (B := w.heap.size) (e := 4) (own_eq2 (owns_arr w (bV1 (List.replicate n false)).toArray 4 1 n (by simp [bV1]) (by unfold maxLen; omega)) (by simp) (by simp)))
  generalize (bV1 (List.replicate n false)).toArray = Z at *
  clear hmk hi hz hsize hby
  by_cases h0 : r < 0
  · have p1 : (r < 0) = True := eq_true h0
    have hm := hmz 0 (by omega)
    have p2 : (65536 < (0 : Int)) = False := by decide
    clear hmz hr h0
    go_enter Tryd.func22, Tryd.ntmps22
    go_wp2_with fail
    go_ret
    exact ⟨_, rfl, HF.out, by (repeat' (first | (with_reducible exact Below.refl _ _) | (with_reducible assumption) | (with_reducible refine below_drewN ?_ _) | (with_reducible refine Below.alloc ?_ ?_ _) | (with_reducible refine Below.drew ?_) | (with_reducible refine Below.setCell ?_ ?_ _) | go_size))⟩
  · have p1 : (r < 0) = False := eq_false h0
    by_cases h1 : 65536 < r
    · have p2 : (65536 < r) = True := eq_true h1
      have hm := hmz 65536 (by omega)
      clear hmz hr h0 h1
      go_enter Tryd.func22, Tryd.ntmps22
      go_wp2_with fail
      go_ret
      exact ⟨_, rfl, HF.out, by (repeat' (first | (with_reducible exact Below.refl _ _) | (with_reducible assumption) | (with_reducible refine below_drewN ?_ _) | (with_reducible refine Below.alloc ?_ ?_ _) | (with_reducible refine Below.drew ?_) | (with_reducible refine Below.setCell ?_ ?_ _) | go_size))⟩
    · have p2 : (65536 < r) = False := eq_false h1
      have hm := hmz r (by omega)
      clear hmz hr h0 h1
      go_enter Tryd.func22, Tryd.ntmps22
      go_wp2_with fail
      go_ret
      exact ⟨_, rfl, HF.out, by (repeat' (first | (with_reducible exact Below.refl _ _) | (with_reducible assumption) | (with_reducible refine below_drewN ?_ _) | (with_reducible refine Below.alloc ?_ ?_ _) | (with_reducible refine Below.drew ?_) | (with_reducible refine Below.setCell ?_ ?_ _) | go_size))⟩
set_option maxHeartbeats 1000000 in
theorem ref06_Has (v : Value) (x : List Bool) (i : Int) (w : World) (hx : RowR 1 boolR w v x) : Calls Tryd.prog 11 #[v, .int .i64 i] w fun e w' => e = .returned (.bool (hasB x i)) ∧ w' = w := by
  have hlen := hx.len
  obtain ⟨a, c, rfl⟩ := row_get hx
  obtain ⟨n, hn⟩ : ∃ n, x.length = n := ⟨_, rfl⟩
  have HN := Lib.hid hn
  by_cases hi : 0 ≤ i ∧ i < (n : Int)
  · obtain ⟨k, rfl⟩ : ∃ k : Nat, i = (k : Int) := ⟨i.toNat, by omega⟩
    have hk : k < n := by omega
    obtain ⟨b, off, rfl, hbw, hc1, hc2, hc⟩ := bools_at hx (k := k) (by omega)
    have hck := hc k (by omega)
    have HR := Lib.hid (show hasB x k = x.getD k false by unfold hasB; rw [if_pos ⟨by omega, by rw [HN.out]; omega⟩]; rfl)
    rw [HR.out]
    rw [hn] at hc1 ⊢
    have p1 : (0 ≤ (k : Int)) = True := eq_true (by omega)
    have p2 : ((k : Int) < (n : Int)) = True := eq_true (by omega)
    have p3 : (k < n) = True := eq_true (by omega)
    generalize x.getD k false = z at *
    clear hc hx hi hn
    go_enter Tryd.func11, Tryd.ntmps11
    go_wp2_with fail
    go_ret
    exact ⟨rfl, rfl⟩
  · have HW := Lib.hid (show hasB x i = false by unfold hasB; rw [if_neg (by rw [HN.out]; exact hi)])
    rw [HW.out, hn]
    clear hx
    by_cases h0 : i < 0
    · have p1 : (0 ≤ i) = False := eq_false (by omega)
      clear hi h0 hn
      go_enter Tryd.func11, Tryd.ntmps11
      go_wp2_with fail
      go_ret
      exact ⟨rfl, rfl⟩
    · have p1 : (0 ≤ i) = True := eq_true (by omega)
      have p2 : (i < (n : Int)) = False := eq_false (by omega)
      clear hi h0 hn
      go_enter Tryd.func11, Tryd.ntmps11
      go_wp2_with fail
      go_ret
      exact ⟨rfl, rfl⟩
set_option maxHeartbeats 1000000 in
theorem ref06_With (v : Value) (x : List Bool) (i : Int) (w : World) (hx : RowR 1 boolR w v x) (hn : x.length ≤ 65536) : Calls Tryd.prog 9 #[v, .int .i64 i] w fun e w' => ∃ r, e = .returned r ∧ RowR 1 boolR w' r (withB x i) ∧ Below w.heap.size w w' := by
  obtain ⟨j, hj, hz, hsize, hby⟩ : ∃ i, Tryd.prog.info? 4 = some i ∧ i.zero = some (.bool false) ∧ i.size = 1 ∧ i.bytes = 1 := ⟨(Tryd.prog.info? 4).get!, by kernel_rfl, by kernel_rfl, by kernel_rfl, by kernel_rfl⟩
  have hsrc := src_bools hx
  have h1 := bV1_one x
  have hvl := bV1_len x
  obtain ⟨n, hxn⟩ : ∃ n, x.length = n := ⟨_, rfl⟩
  have HN := Lib.hid hxn
  obtain ⟨a, c, rfl⟩ := row_get hx
  obtain ⟨xs, hxs⟩ : ∃ xs, bV1 x = xs := ⟨_, rfl⟩
  have HXS := Lib.hid hxs
  rw [hxn, hxs] at hsrc
  rw [hxn] at hn ⊢
  rw [hxs] at h1 hvl
  rw [hxn] at hvl
  have HS := Lib.hid hsrc
  have HV := Lib.hid hvl
  have H1 := Lib.hid h1
  clear hsrc hvl h1 hxs hxn hx
  have append : ∀ (Q : Prop), Q → Q := fun _ h => h
  clear append
  by_cases hi : 0 ≤ i ∧ i < (n : Int)
  · obtain ⟨k, rfl⟩ : ∃ k : Nat, i = (k : Int) := ⟨i.toNat, by omega⟩
    have hk : k < n := by omega
    have HR := Lib.hid (show withB x k = x.set k true by unfold withB; rw [if_pos ⟨by omega, by rw [HN.out]; omega⟩]; rfl)
    rw [HR.out]
    have p1 : (0 ≤ (k : Int)) = True := eq_true (by omega)
    have p2 : ((k : Int) < (n : Int)) = True := eq_true (by omega)
    have p3 : (k < n) = True := eq_true (by omega)
    have HK := Lib.hid hk
    clear hi hk
    go_enter Tryd.func9, Tryd.ntmps9
    go_wp2_with (first | (at_builtin; go_loud (refine wpList_append_src rfl (.tmp 6) (.tmp 7) 27 rfl w.heap.size 4 j (.bool false) 1 1 Tryd.underlying27 hj hz hsize hby rfl (by omega) _ 0 _ rfl (owns_empty w 4 1 (Nat.le_refl _)) _ n xs rfl (HS.out.below (by (repeat' (first | (with_reducible exact Below.refl _ _) | (with_reducible assumption) | (with_reducible refine below_drewN ?_ _) | (with_reducible refine Below.alloc ?_ ?_ _) | (with_reducible refine Below.drew ?_) | (with_reducible refine Below.setCell ?_ ?_ _) | go_size)))) (by rw [HV.out]; omega) H1.out (by unfold maxLen; omega) (by omega) (by simp) ?_; intro v3 w3 hO3 hG3; have hB3 := Lib.hid (grown3 (B := w.heap.size) (w0 := w) (by (repeat' (first | (with_reducible exact Below.refl _ _) | (with_reducible assumption) | (with_reducible refine below_drewN ?_ _) | (with_reducible refine Below.alloc ?_ ?_ _) | (with_reducible refine Below.drew ?_) | (with_reducible refine Below.setCell ?_ ?_ _) | go_size))) (by simp) (owns_empty w 4 1 (Nat.le_refl _)) hG3); have HO3 := Lib.hid (own_eq2 hO3 (Nat.zero_add n) (List.nil_append xs)); obtain ⟨g, cap, rfl, g1, g2, ⟨u0, _, g3⟩, g4, g5⟩ := owns_put HO3.out HK.out (x := .bool true); have G5 := Lib.hid g5; clear hO3 hG3 g5)) | fail)
    go_ret
    have hr := bools_of_owns (l := x.set k true) (own_eq2 G5.out (by rw [List.length_set]; exact HN.out.symm) (by rw [← HXS.out, bV1_set]))
    exact ⟨_, rfl, hr, hB3.out.setCell (by exact g1) _⟩
  · have HR := Lib.hid (show withB x i = x by unfold withB; rw [if_neg (by rw [HN.out]; exact hi)])
    rw [HR.out]
    by_cases h0 : i < 0
    · have p1 : (0 ≤ i) = False := eq_false (by omega)
      clear hi h0
      go_enter Tryd.func9, Tryd.ntmps9
      go_wp2_with (first | (at_builtin; go_loud (refine wpList_append_src rfl (.tmp 6) (.tmp 7) 27 rfl w.heap.size 4 j (.bool false) 1 1 Tryd.underlying27 hj hz hsize hby rfl (by omega) _ 0 _ rfl (owns_empty w 4 1 (Nat.le_refl _)) _ n xs rfl (HS.out.below (by (repeat' (first | (with_reducible exact Below.refl _ _) | (with_reducible assumption) | (with_reducible refine below_drewN ?_ _) | (with_reducible refine Below.alloc ?_ ?_ _) | (with_reducible refine Below.drew ?_) | (with_reducible refine Below.setCell ?_ ?_ _) | go_size)))) (by rw [HV.out]; omega) H1.out (by unfold maxLen; omega) (by omega) (by simp) ?_; intro v3 w3 hO3 hG3; have hB3 := Lib.hid (grown3 (B := w.heap.size) (w0 := w) (by (repeat' (first | (with_reducible exact Below.refl _ _) | (with_reducible assumption) | (with_reducible refine below_drewN ?_ _) | (with_reducible refine Below.alloc ?_ ?_ _) | (with_reducible refine Below.drew ?_) | (with_reducible refine Below.setCell ?_ ?_ _) | go_size))) (by simp) (owns_empty w 4 1 (Nat.le_refl _)) hG3); have HO3 := Lib.hid (own_eq2 hO3 (Nat.zero_add n) (List.nil_append xs)); clear hO3 hG3)) | fail)
      go_ret
      exact ⟨_, rfl, bools_of_owns (l := x) (own_eq2 HO3.out HN.out.symm HXS.out.symm), hB3.out⟩
    · have p1 : (0 ≤ i) = True := eq_true (by omega)
      have p2 : (i < (n : Int)) = False := eq_false (by omega)
      clear hi h0
      go_enter Tryd.func9, Tryd.ntmps9
      go_wp2_with (first | (at_builtin; go_loud (refine wpList_append_src rfl (.tmp 6) (.tmp 7) 27 rfl w.heap.size 4 j (.bool false) 1 1 Tryd.underlying27 hj hz hsize hby rfl (by omega) _ 0 _ rfl (owns_empty w 4 1 (Nat.le_refl _)) _ n xs rfl (HS.out.below (by (repeat' (first | (with_reducible exact Below.refl _ _) | (with_reducible assumption) | (with_reducible refine below_drewN ?_ _) | (with_reducible refine Below.alloc ?_ ?_ _) | (with_reducible refine Below.drew ?_) | (with_reducible refine Below.setCell ?_ ?_ _) | go_size)))) (by rw [HV.out]; omega) H1.out (by unfold maxLen; omega) (by omega) (by simp) ?_; intro v3 w3 hO3 hG3; have hB3 := Lib.hid (grown3 (B := w.heap.size) (w0 := w) (by (repeat' (first | (with_reducible exact Below.refl _ _) | (with_reducible assumption) | (with_reducible refine below_drewN ?_ _) | (with_reducible refine Below.alloc ?_ ?_ _) | (with_reducible refine Below.drew ?_) | (with_reducible refine Below.setCell ?_ ?_ _) | go_size))) (by simp) (owns_empty w 4 1 (Nat.le_refl _)) hG3); have HO3 := Lib.hid (own_eq2 hO3 (Nat.zero_add n) (List.nil_append xs)); clear hO3 hG3)) | fail)
      go_ret
      exact ⟨_, rfl, bools_of_owns (l := x) (own_eq2 HO3.out HN.out.symm HXS.out.symm), hB3.out⟩
end Go.Proofs.YtochjlllfbmhpaaDoor
