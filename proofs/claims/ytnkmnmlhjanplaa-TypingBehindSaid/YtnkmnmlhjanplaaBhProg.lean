/- Layer 20: where one may come: the program's contract; the law's awake. -/
import Derived.Test.YtnkmnmlhjanplaaBhBehind
namespace Go.Proofs.Ytnkmnmlhjanplaa
open Go.RowKit
set_option linter.unusedSimpArgs false
set_option linter.unusedVariables false
set_option maxHeartbeats 4000000 in
theorem typing_Behind (v : Value) (L : List Ins) (k : Nat) (x : Ins) (w : World) (hv : RowR 3 insR w v L) (hx : L[k]? = some x) (hl : L.length ≤ 300) (hA : 0 ≤ x.2.1 ∧ x.2.1 ≤ 65535) (h32 : x.1 = 32 → x.2.1 ≤ L.length) :
    Calls Try.prog 6 #[v, .int .i64 k] w fun e w' => ∃ r, e = .returned r ∧ RowR 1 intR w' r (behL x k) ∧ Below w.heap.size w w' := by
  obtain ⟨i, hi, hz, hsize, hby⟩ : ∃ i, Try.prog.info? 3 = some i ∧ i.zero = some (.int .i64 0) ∧ i.size = 1 ∧ i.bytes = 8 := ⟨(Try.prog.info? 3).get!, by kernel_rfl, by kernel_rfl, by kernel_rfl, by kernel_rfl⟩
  have hkl := lt_of_get hx
  obtain ⟨sa, ca, rfl⟩ := bh_get hv
  obtain ⟨b, off, rfl, hbw, hc⟩ := bh_at hv hkl
  obtain ⟨c0, c1, c2, _⟩ := hc k x hx
  have HD := Lib.hid (show behL x k = if x.1 = 30 then [x.2.1] else if x.1 = 31 then two (k + 1) x.2.1 else if x.1 = 32 then (List.range (x.2.1.toNat + 1)).map (fun (j : Nat) => (k : Int) + 1 + (j : Int)) else if x.1 = 34 then [] else [(k : Int) + 1] from rfl)
  clear hc hx hv
  generalize hn : L.length = n at *
  generalize behL x k = res at *
  obtain ⟨o, A, bb⟩ := x
  dsimp only at c0 c1 c2 HD hA h32
  have hw1 : IntKind.i64.wrap ((k : Int) + 1) = (k : Int) + 1 := IntWalk.i64_in _ (by omega)
  have hI1 : I64 ((k : Int) + 1) := by unfold I64; omega
  have hI2 : I64 A := by unfold I64; omega
  have HII := Lib.hid (And.intro hI1 hI2)
  clear hn hI1 hI2
  have q0 : ((k : Int) < 0) = False := eq_false (by omega)
  have q1 : ((n : Int) ≤ (k : Int)) = False := eq_false (by omega)
  obtain ⟨W0, hW0⟩ : ∃ W0, W0 = w.alloc (.cells #[.int .i64 o, .int .i64 A, .int .i64 bb] 25) := ⟨_, rfl⟩
  have hB0 : Below w.heap.size w W0 := by rw [hW0]; exact (Below.refl _ _).alloc (Nat.le_refl _) _
  have hs0 : W0.heap.size = w.heap.size + 1 := by rw [hW0]; simp
  have HS0 := Lib.hid hs0
  have HW0 := Lib.hid hW0
  clear hW0 hs0
  by_cases h30 : o = 30
  · have q2 : (o == 30) = true := by simp [h30]
    rw [if_pos h30] at HD
    clear h30
    have hrow := Lib.hid (show RowR 1 intR (W0.alloc (.cells #[.int .i64 A] 3)) (.slice (some ⟨w.heap.size + 1, 0, none⟩) 1 1) [A] from by rw [← HS0.out]; exact row_cells1 (cell_new W0 _ _ (0, 0) 0 rfl) HII.out.2)
    go_enter Try.func6, Try.ntmps6
    go_wp2_with fail
    rw [← HW0.out]
    go_ret
    exact ⟨_, rfl, by rw [HD.out]; exact hrow.out, hB0.alloc hB0.size _⟩
  have q2 : (o == 30) = false := by simpa using h30
  rw [if_neg h30] at HD
  clear h30
  by_cases h31 : o = 31
  · have q3 : (o == 31) = true := by simp [h31]
    rw [if_pos h31] at HD
    clear h31
    obtain ⟨W1, hW1⟩ : ∃ W1, W1 = W0.alloc (.cells #[.int .i64 ((k : Int) + 1), .int .i64 A] 3) := ⟨_, rfl⟩
    have hB1 : Below w.heap.size w W1 := by rw [hW1]; exact hB0.alloc hB0.size _
    have hp : W1.heap[w.heap.size + 1]? = some (.cells #[.int .i64 ((k : Int) + 1), .int .i64 A] 3) := by rw [hW1]; exact alloc_get HS0.out.symm
    have hlt : w.heap.size + 1 < W1.heap.size := by rw [hW1]; simp; have := HS0.out; omega
    have HS := Lib.hid (sort2 (w.heap.size + 1) ((k : Int) + 1) A W1 hlt hp)
    have HU : Hid (two ((k : Int) + 1) A = if (if A < (k : Int) + 1 then A else (k : Int) + 1) = (if A < (k : Int) + 1 then (k : Int) + 1 else A) then [if A < (k : Int) + 1 then A else (k : Int) + 1] else [if A < (k : Int) + 1 then A else (k : Int) + 1, if A < (k : Int) + 1 then (k : Int) + 1 else A]) := Lib.hid rfl
    have hIx : I64 (if A < (k : Int) + 1 then A else (k : Int) + 1) := by split; exact HII.out.2; exact HII.out.1
    have hIy : I64 (if A < (k : Int) + 1 then (k : Int) + 1 else A) := by split; exact HII.out.1; exact HII.out.2
    have HIxy := Lib.hid (And.intro hIx hIy)
    clear hIx hIy hp
    generalize (if A < (k : Int) + 1 then A else (k : Int) + 1) = x0 at *
    generalize (if A < (k : Int) + 1 then (k : Int) + 1 else A) = y0 at *
    have HW1 := Lib.hid hW1
    clear hW1
    go_enter Try.func6, Try.ntmps6
    go_wp2_with fail
    rw [← HW0.out, ← HW1.out]
    refine HS.out.mono ?_; rintro e w2 ⟨⟨u, rfl⟩, hG2, hp2⟩
    have hB2 := bh_below hB1 (by omega) hG2 (by omega)
    have HC := Lib.hid (compact2 (w.heap.size + 1) x0 y0 w2 (Nat.lt_of_lt_of_le hlt hG2.size) hp2 HIxy.out.1 HIxy.out.2)
    have z2 := hG2.size
    clear hG2 hp2
    go_wp2_with fail
    refine HC.out.mono ?_; rintro e w3 ⟨r, rfl, hr, hG3⟩
    have hB3 := bh_below hB2 (by omega) hG3 (by omega)
    have Hr := Lib.hid hr
    clear hr hG3
    go_wp2_with fail
    go_ret
    exact ⟨_, rfl, by rw [HD.out, HU.out]; exact Hr.out, hB3⟩
  have q3 : (o == 31) = false := by simpa using h31
  rw [if_neg h31] at HD
  clear h31
  by_cases h3 : o = 32
  · have q4 : (o == 32) = true := by simp [h3]
    have hAn := h32 h3
    rw [if_pos h3] at HD
    clear h3 h32
    obtain ⟨a, rfl⟩ : ∃ a : Nat, A = a := ⟨A.toNat, by omega⟩
    have r1 : ((a : Int) < 0) = False := eq_false (by omega)
    have r2 : ((n : Int) < (a : Int)) = False := eq_false (by omega)
    have r3 : (0 < (a : Int)) = True ∨ a = 0 := by
      by_cases h : a = 0
      · exact Or.inr h
      · exact Or.inl (eq_true (by omega))
    have hw2 : IntKind.i64.wrap ((a : Int) + 1) = (a : Int) + 1 := IntWalk.i64_in _ (by omega)
    have HD := Lib.hid (show res = (List.range (a + 1)).map (fun (j : Nat) => (k : Int) + 1 + (j : Int)) by rw [HD.out]; rfl)
    clear r3
    have ha : a ≤ 300 := by omega
    have hk3 : k ≤ 300 := by omega
    go_enter Try.func6, Try.ntmps6
    go_wp2_with fail
    rw [← HW0.out]
    go_loopw [7, 48] (fun o j wr => ∃ t : Nat, t ≤ a + 1 ∧ j = .int .i64 t ∧ Hid (wr.ownsRow w.heap.size 3 1 o t (iV ((List.range t).map (fun (j : Nat) => (k : Int) + 1 + (j : Int))))) ∧ Below w.heap.size w wr) (fun _ j _ => a + 1 - (intOf j).toNat)
    case atStart => exact ⟨0, by omega, rfl, Lib.hid (World.ownsRow_nil _ _ _ _), hB0⟩
    case round =>
      obtain ⟨t, ht, rfl, hO, hB⟩ := hrel
      have hz' := hB.size
      by_cases hlt : t < a + 1
      · have q5 : ((t : Int) < (a : Int) + 1) = True := eq_true (by omega)
        have hw9 : IntKind.i64.wrap ((t : Int) + 1) = (t : Int) + 1 := IntWalk.i64_in _ (by omega)
        have hw8 : IntKind.i64.wrap ((k : Int) + 1 + (t : Int)) = (k : Int) + 1 + (t : Int) := IntWalk.i64_in _ (by omega)
        have HT := Lib.hid (And.intro ht hlt)
        have HO := Lib.hid (owns_below hO.out ((Below.refl _ _).alloc (Nat.le_refl _) (.cells #[.int .i64 ((k : Int) + 1 + (t : Int))] 3)))
        clear ht hlt hO
        generalize hF : (List.range t).map (fun (j : Nat) => (k : Int) + 1 + (j : Int)) = Ft at *
        have HF := Lib.hid hF
        clear hF
        go_wp2_with (first | (at_builtin; go_loud (refine wpList_append_src rfl (.tmp 51) (.tmp 56) 27 rfl w.heap.size 3 i (.int .i64 0) 1 8 Try.underlying27 hi hz hsize hby rfl (by omega) _ t _ rfl HO.out _ 1 [.int .i64 ((k : Int) + 1 + (t : Int))] rfl (src_new _ _ _) rfl (by intro u hu; simp at hu; rw [hu]; rfl) (by unfold maxLen; have := HT.out.2; omega) (by have := HT.out.2; omega) (by simp; omega) ?_; intro v3 w3 hO3 hG3; have hB3 := grown3 (hB.alloc hz' _) (by simp; omega) HO.out hG3; have HO3 := Lib.hid hO3; clear hO3 hG3)) | fail)
        go_roundw
        case rel => exact ⟨t + 1, by have := HT.out.2; omega, by simp, Lib.hid (by rw [List.range_succ, List.map_append]; exact own_eq2 HO3.out (by simp) (by rw [HF.out]; simp [iV])), hB3⟩
        case measure => have := HT.out.2; simp [intOf]; omega
      · obtain rfl : t = a + 1 := by omega
        have q5 : (((a + 1 : Nat) : Int) < (a : Int) + 1) = False := eq_false (by omega)
        have hl' : ((List.range (a + 1)).map (fun (j : Nat) => (k : Int) + 1 + (j : Int))).length = a + 1 := by simp
        have hrow := Lib.hid (row_of_owns (own_eq2 hO.out hl'.symm rfl) (by intro z hz; obtain ⟨j, hj, rfl⟩ := List.mem_map.mp hz; have := List.mem_range.mp hj; unfold I64; omega))
        clear hO hl'
        go_wp2_with fail
        go_ret
        exact ⟨_, rfl, by rw [HD.out]; exact hrow.out, hB⟩
  have q4 : (o == 32) = false := by simpa using h3
  rw [if_neg h3] at HD
  clear h3 h32
  by_cases h34 : o = 34
  · have q5 : (o == 34) = true := by simp [h34]
    rw [if_pos h34] at HD
    clear h34
    go_enter Try.func6, Try.ntmps6
    go_wp2_with fail
    rw [← HW0.out]
    go_ret
    exact ⟨_, rfl, by rw [HD.out]; exact row_none, hB0⟩
  · have q5 : (o == 34) = false := by simpa using h34
    rw [if_neg h34] at HD
    clear h34
    have hrow := Lib.hid (show RowR 1 intR (W0.alloc (.cells #[.int .i64 ((k : Int) + 1)] 3)) (.slice (some ⟨w.heap.size + 1, 0, none⟩) 1 1) [(k : Int) + 1] from by rw [← HS0.out]; exact row_cells1 (cell_new W0 _ _ (0, 0) 0 rfl) HII.out.1)
    go_enter Try.func6, Try.ntmps6
    go_wp2_with fail
    rw [← HW0.out]
    go_ret
    exact ⟨_, rfl, by rw [HD.out]; exact hrow.out, hB0.alloc hB0.size _⟩
end Go.Proofs.Ytnkmnmlhjanplaa
