/- Layer 51: the plain feed: made, offered to, asked. -/
import Derived.Test.YtpbfgoegkpjpmaaFeedE
import Derived.Test.YtpbfgoegkpjpmaaMoreB
namespace Go.Proofs.Ytpbfgoegkpjpmaa
open Go.RowKit
set_option linter.unusedSimpArgs false
set_option linter.unusedVariables false
def Stop (P : Prop) := P
theorem stop_here {P : Prop} (h : Stop P) : P := h
theorem ref51_New (n : Int) (w : World) (hn : I64 n) : Calls Try.prog 7 #[.int .i64 n] w fun e w' => ∃ q, e = .returned (.pointer (some ⟨q, 0, none⟩)) ∧ w.heap.size ≤ q ∧ w'.heap[q]? = some (.cells #[.int .i64 ((min (max n 0) 1024).toNat : Int), .slice none 0 0, .bool false] 41) ∧ Below w.heap.size w w' := by
  by_cases p0 : n < 0
  · have p1 : (n < 0) = True := eq_true p0
    have hm : (min (max n 0) 1024).toNat = 0 := by omega
    rw [hm]
    clear hm p0
    go_enter Try.func7, Try.ntmps7
    go_wp2_with fail
    go_ret
    exact ⟨_, rfl, Nat.le_refl _, get_last rfl, by (repeat' (first | (with_reducible exact Below.refl _ _) | (with_reducible assumption) | (with_reducible refine below_drewN ?_ _) | (with_reducible refine Below.alloc ?_ ?_ _) | (with_reducible refine Below.drew ?_) | (with_reducible refine Below.setCell ?_ ?_ _) | go_size))⟩
  by_cases p9 : 1024 < n
  · have p1 : (n < 0) = False := eq_false p0
    have p3 : (1024 < n) = True := eq_true p9
    have hm : (min (max n 0) 1024).toNat = 1024 := by omega
    rw [hm]
    clear hm p0 p9
    go_enter Try.func7, Try.ntmps7
    go_wp2_with fail
    go_ret
    exact ⟨_, rfl, Nat.le_refl _, get_last rfl, by (repeat' (first | (with_reducible exact Below.refl _ _) | (with_reducible assumption) | (with_reducible refine below_drewN ?_ _) | (with_reducible refine Below.alloc ?_ ?_ _) | (with_reducible refine Below.drew ?_) | (with_reducible refine Below.setCell ?_ ?_ _) | go_size))⟩
  · obtain ⟨m, rfl⟩ : ∃ m : Nat, n = m := ⟨n.toNat, by omega⟩
    have hm : (min (max (m : Int) 0) 1024).toNat = m := by omega
    have p1 : ((m : Int) < 0) = False := eq_false p0
    have p3 : (1024 < (m : Int)) = False := eq_false p9
    rw [hm]
    clear hm p0 p9
    go_enter Try.func7, Try.ntmps7
    go_wp2_with fail
    go_ret
    exact ⟨_, rfl, Nat.le_refl _, get_last rfl, by (repeat' (first | (with_reducible exact Below.refl _ _) | (with_reducible assumption) | (with_reducible refine below_drewN ?_ _) | (with_reducible refine Below.alloc ?_ ?_ _) | (with_reducible refine Below.drew ?_) | (with_reducible refine Below.setCell ?_ ?_ _) | go_size))⟩
theorem ref51_Offer_shut (q cap n : Nat) (a : Option Addr) (c : Nat) (j : Int) (w : World) (h : w.heap[q]? = some (.cells #[.int .i64 (cap : Int), .slice a n c, .bool true] 41)) :
    Calls Try.prog 9 #[.pointer (some ⟨q, 0, none⟩), .int .i64 j] w fun e w' => e = .returned (.bool false) ∧ Below w.heap.size w w' := by
  have c2 := obj_cell h (i := 2) rfl
  have c1 := obj_cell h (i := 1) rfl
  have c0 := obj_cell h (i := 0) rfl
  go_enter Try.func9, Try.ntmps9
  go_wp2_with fail
  go_quiet (fail)
  go_wp2_with fail
  go_ret
  exact ⟨rfl, Below_drewN _ _ _⟩
theorem ref51_Offer_full (q cap n : Nat) (a : Option Addr) (c : Nat) (j : Int) (w : World) (h : w.heap[q]? = some (.cells #[.int .i64 (cap : Int), .slice a n c, .bool false] 41)) (hn : cap ≤ n) :
    Calls Try.prog 9 #[.pointer (some ⟨q, 0, none⟩), .int .i64 j] w fun e w' => e = .returned (.bool false) ∧ Below w.heap.size w w' := by
  have c2 := obj_cell h (i := 2) rfl
  have c1 := obj_cell h (i := 1) rfl
  have c0 := obj_cell h (i := 0) rfl
  have q1 : decide ((cap : Int) ≤ (n : Int)) = true := decide_eq_true (by omega)
  go_enter Try.func9, Try.ntmps9
  go_wp2_with fail
  go_quiet (fail)
  go_wp2_with fail
  go_ret
  exact ⟨rfl, Below_drewN _ _ _⟩
theorem ref51_Offer_yes (q B cap n : Nat) (v : Value) (xs : List Value) (j : Int) (w : World) (hB : B ≤ w.heap.size) (hq : B ≤ q)
    (h : w.heap[q]? = some (.cells #[.int .i64 (cap : Int), v, .bool false] 41)) (hO : w.ownsRow B 3 1 v n xs) (hn : n < cap) (hc : n ≤ 100) :
    Calls Try.prog 9 #[.pointer (some ⟨q, 0, none⟩), .int .i64 j] w fun e w' => e = .returned (.bool true) ∧ ∃ v', w'.ownsRow B 3 1 v' (n + 1) (xs ++ [.int .i64 j]) ∧ w'.heap[q]? = some (.cells #[.int .i64 (cap : Int), v', .bool false] 41) ∧ (v'.ownBlock = v.ownBlock ∨ ∃ b, v'.ownBlock = some b ∧ w.heap.size ≤ b) ∧ (∀ g, g < w.heap.size → g ≠ q → v.ownBlock ≠ some g → w'.heap[g]? = w.heap[g]?) ∧ Below B w w' := by
  obtain ⟨i, hi, hz, hsize, hby⟩ : ∃ i, Try.prog.info? 3 = some i ∧ i.zero = some (.int .i64 0) ∧ i.size = 1 ∧ i.bytes = 8 := ⟨(Try.prog.info? 3).get!, by kernel_rfl, by kernel_rfl, by kernel_rfl, by kernel_rfl⟩
  obtain ⟨a, c, rfl⟩ := owns_form hO
  have hql : q < w.heap.size := World.block_lt_of_cell? _ _ (obj_cell h (i := 0) rfl)
  have c2 := obj_cell h (i := 2) rfl
  have c1 := obj_cell h (i := 1) rfl
  have c0 := obj_cell h (i := 0) rfl
  have q1 : decide ((cap : Int) ≤ (n : Int)) = false := decide_eq_false (by omega)
  go_enter Try.func9, Try.ntmps9
  go_wp2_with fail
  go_quiet (fail)
  obtain ⟨W0, hW0⟩ : ∃ W0, W0 = w.drewN nq := ⟨_, rfl⟩
  rw [← hW0]
  have hB0 : Below w.heap.size w W0 := by rw [hW0]; exact Below_drewN _ _ _
  have hz0 : W0.heap = w.heap := by rw [hW0]; rfl
  clear hW0
  have c0 := obj_cell (w := W0) (hz0 ▸ h) (i := 0) rfl
  have c1 := obj_cell (w := W0) (hz0 ▸ h) (i := 1) rfl
  have c2 := obj_cell (w := W0) (hz0 ▸ h) (i := 2) rfl
  have hO0 := owns_below hO hB0
  have HB0 := Lib.hid hB0
  have HZ := Lib.hid hz0
  have hqb := Lib.hid hq
  have hB' : B ≤ W0.heap.size := by rw [hz0]; exact hB
  have hqW : q < W0.heap.size := by rw [hz0]; exact hql
  have HH := Lib.hid (hz0 ▸ h : W0.heap[q]? = some (.cells #[.int .i64 (cap : Int), .slice a n c, .bool false] 41))
  clear hz0 h hB0
  obtain ⟨W1, hW1⟩ : ∃ W1, W1 = W0.alloc (.cells #[.int .i64 j] 3) := ⟨_, rfl⟩
  have hB1 : Below W0.heap.size W0 W1 := by rw [hW1]; exact by (repeat' (first | (with_reducible exact Below.refl _ _) | (with_reducible assumption) | (with_reducible refine below_drewN ?_ _) | (with_reducible refine Below.alloc ?_ ?_ _) | (with_reducible refine Below.drew ?_) | (with_reducible refine Below.setCell ?_ ?_ _) | go_size))
  have hz1 : W1.heap.size = W0.heap.size + 1 := by rw [hW1]; simp
  have hj1 : ∀ k u, [Value.int .i64 j][k]? = some u → W1.cell? ((⟨W0.heap.size, 0, none⟩ : Addr).add k) = some u := by rw [hW1]; exact cell_one_new W0 _ _
  have hO1 := Lib.hid (owns_below hO0 hB1)
  have HW1 := Lib.hid hW1
  have HH1 := Lib.hid (obj_below HH.out hB1 hqW)
  have HB1 := Lib.hid hB1
  clear hW1 hB1 hO0
  have d1 := obj_cell HH1.out (i := 1) rfl
  go_wp2_with (first | (at_builtin; rw [← HW1.out]; go_loud (refine wpList_append_own_at W1 rfl (.tmp 25) (.tmp 27) 28 rfl B 3 i (.int .i64 0) 1 8 Try.underlying28 hi hz hsize hby rfl (by omega) _ n xs rfl hO1.out _ 1 1 [.int .i64 j] rfl rfl hj1 (by simp [Value.oneCell']) (by unfold maxLen; omega) (by omega) (by omega) ?_); intro v2 W2 hO2 hG2 _ hat; refine stop_here ?_) | fail)
  unfold Stop
  have hne : q ≠ W1.heap.size := by omega
  have hvq : (Value.slice a n c).ownBlock ≠ some q := by
    intro e
    obtain ⟨_, h5⟩ := hO1.out
    rcases h5 with ⟨h5, _⟩ | ⟨g, cap', cur, h5, _, h6, _⟩
    · rw [h5] at e; simp [Value.ownBlock] at e
    · rw [h5] at e
      have e1 : g = q := by simpa [Value.ownBlock] using e
      subst e1
      rw [HH1.out] at h6
      simp at h6
  have hH2 : W2.heap[q]? = some (.cells #[.int .i64 (cap : Int), .slice a n c, .bool false] 41) := (hG2.block q (by omega) (fun e => hvq e.symm)).trans HH1.out
  have hv2q : v2.ownBlock ≠ some q := by
    rcases hat with e | e
    · rw [e]; exact hvq
    · rw [e]; intro e; injection e with e; omega
  obtain ⟨a2, cc2, rfl⟩ := owns_form hO2
  have z1 := obj_frozen hH2 1
  have d1 := obj_cell hH2 (i := 1) rfl
  have hO3 := Lib.hid (owns_set (g := q) (o := 1) (x := .slice a2 (n + 1) cc2) hO2 hv2q)
  have hH3 := Lib.hid (obj_self (i := 1) (x := .slice a2 (n + 1) cc2) hH2)
  have HG2 := Lib.hid hG2
  have HAT := Lib.hid hat
  clear hO2 hG2 hat hH2
  go_wp2_with fail
  go_ret
  refine ⟨rfl, _, hO3.out, hH3.out, ?_, ?_, ?_⟩
  · rcases HAT.out with e | e
    · exact Or.inl e
    · exact Or.inr ⟨_, e, by have := HZ.out; rw [hz1, this]; omega⟩
  · intro g hg hgq hgv
    rw [get_set (by simpa using fun e => hgq e.symm), HG2.out.block g (by rw [hz1, HZ.out]; omega) (fun e => hgv e.symm), HB1.out.block g (by rw [HZ.out]; omega), HZ.out]
  · have hb := (HB0.out.mono hB).trans (HB1.out.mono hB')
    exact (grown3 hb (by omega) hO1.out HG2.out).setCell (p := ⟨q, 1, none⟩) hq _
end Go.Proofs.Ytpbfgoegkpjpmaa
