/- Sets: made, trimmed, cut. -/
import Derived.Test.YtemihfcenmhieaaBitA
import Derived.Test.YtemihfcenmhieaaObj
import Derived.Test.YtemihfcenmhieaaKeep
import Derived.Test.YtemihfcenmhieaaHeap
import Derived.Test.YtemihfcenmhieaaMoreB
import Derived.LoopTactic
import Derived.StillTailTactics
namespace Go.Proofs.Ytemihfcenmhieaa
open Go.RowKit
set_option linter.unusedSimpArgs false
set_option linter.unusedVariables false
def uV (ws : List Nat) : Array Value := (ws.map fun (n : Nat) => Value.int .u64 (n : Int)).toArray
theorem uV_get {ws : List Nat} {k : Nat} (h : k < ws.length) : (uV ws)[k]? = some (.int .u64 (ws.getD k 0 : Nat)) := by simp [uV, List.getD, h]
theorem uV_set (ws : List Nat) (k n : Nat) : (uV ws).setIfInBounds k (.int .u64 (n : Int)) = uV (ws.set k n) := by
  apply Array.ext'
  simp [uV, List.map_set]
theorem uV_size (ws : List Nat) : (uV ws).size = ws.length := by simp [uV]
/-- words in a block of the call's own -/
structure FreshW (w w' : World) (g : Nat) (ws : List Nat) : Prop where
  base : w.heap.size ≤ g
  obj : w'.heap[g]? = some (.cells (uV ws) 49)
  below : Below w.heap.size w w'
theorem clampR_le (r : Int) : clampR r ≤ 65536 := by unfold clampR; split <;> (try split) <;> omega
theorem made_zero (m : Nat) : madeCells (Value.int .u64 0).cells m = uV (List.replicate m 0) := by
  apply Array.ext_getElem?
  intro i
  by_cases h : i < m
  · simp [madeCells, uV, Value.cells, h, Nat.mod_one]
  · simp [madeCells, uV, Value.cells, h]
set_option maxHeartbeats 2000000 in
theorem bits_New (r : Int) (w : World) : Calls Try.prog 23 #[.int .i64 r] w fun e w' => ∃ g, e = .returned (.agg #[.int .i64 (clampR r), .slice (some ⟨g, 0, none⟩) ((clampR r + 63) / 64) ((clampR r + 63) / 64)]) ∧ FreshW w w' g (List.replicate ((clampR r + 63) / 64) 0) := by
  obtain ⟨i, hi, hz, hsize, hby⟩ : ∃ i, Try.prog.info? 49 = some i ∧ i.zero = some (.int .u64 0) ∧ i.size = 1 ∧ i.bytes = 8 := ⟨(Try.prog.info? 49).get!, by kernel_rfl, by kernel_rfl, by kernel_rfl, by kernel_rfl⟩
  have hle := clampR_le r
  have hr : min (max r 0) 65536 = (clampR r : Int) := by unfold clampR; split <;> (try split) <;> omega
  obtain ⟨n, hn⟩ : ∃ n, clampR r = n := ⟨_, rfl⟩
  rw [hn] at hle hr ⊢
  clear hn
  have hmk := fun W => run_make W 33 49 i _ Try.underlying33 hi hz .i64 .i64 (((n + 63) / 64 : Nat) : Int) (((n + 63) / 64 : Nat) : Int) (by omega) (by omega) (by rw [hby]; omega) (by omega)
  rw [hsize, Nat.mul_one, made_zero, Int.toNat_natCast] at hmk
  have hd : ((n : Int) + 64 - 1) / 64 = (((n + 63) / 64 : Nat) : Int) := by omega
  generalize (n + 63) / 64 = m at *
  have fin : ∀ x, FreshW w ((w.alloc (.cells #[.int .i64 x, .slice (some ⟨w.heap.size + 1, 0, none⟩) m m] 35)).alloc (.cells (uV (List.replicate m 0)) 49)) (w.heap.size + 1) (List.replicate m 0) := fun x =>
    ⟨by omega, get_last (by simp), by (repeat' (first | (with_reducible exact Below.refl _ _) | (with_reducible assumption) | (with_reducible refine below_drewN ?_ _) | (with_reducible refine Below.alloc ?_ ?_ _) | (with_reducible refine Below.drew ?_) | (with_reducible refine Below.setCell ?_ ?_ _) | go_size))⟩
  have hmz : ∀ (z : Int), z = (m : Int) → ∀ W, Sem.run Try.prog (Instr.makeSlice 33 (Value.int .i64 z) (Value.int .i64 z)) W = Result.ok (Value.slice (some ⟨W.heap.size, 0, none⟩) m m) (W.alloc (.cells (uV (List.replicate m 0)) 49)) := by
    rintro z rfl W; exact hmk W
  clear hmk
  obtain ⟨Z, hZ⟩ : ∃ Z, uV (List.replicate m 0) = Z := ⟨_, rfl⟩
  rw [hZ] at hmz
  have HZ := Lib.hid hZ
  rw [hZ] at fin
  have HF := Lib.hid fin
  clear fin hZ hi hz hsize hby
  by_cases h0 : r < 0
  · have p1 : (0 < r) = False := eq_false (by omega)
    have p2 : (r < 0) = True := eq_true (by omega)
    have hm := hmz 0 (by omega)
    have HN := Lib.hid (show (n : Int) = 0 by omega)
    clear hmz hr hd h0
    go_enter Try.func23, Try.ntmps23
    go_wp2_with fail
    refine bodyPost_ret (by simp [results, Try.results23, go_sem, more_cell, more_size, more_frozen]; try rfl) rfl ?_
    exact ⟨w.heap.size + 1, by rw [HN.out], HF.out _⟩
  · by_cases h1 : 65536 < r
    · have p1 : (0 < r) = True := eq_true (by omega)
      have p2 : (65536 < r) = True := eq_true (by omega)
      have p3 : (r < 0) = False := eq_false (by omega)
      have hm := hmz 1024 (by omega)
      have HN := Lib.hid (show (n : Int) = 65536 by omega)
      clear hmz hr hd h0 h1
      go_enter Try.func23, Try.ntmps23
      go_wp2_with fail
      refine bodyPost_ret (by simp [results, Try.results23, go_sem, more_cell, more_size, more_frozen]; try rfl) rfl ?_
      exact ⟨w.heap.size + 1, by rw [HN.out], HF.out _⟩
    · obtain rfl : r = (n : Int) := by omega
      have p1 : ((n : Int) < 0) = False := eq_false (by omega)
      have p2 : (65536 < (n : Int)) = False := eq_false (by omega)
      have hm := hmz (((n : Int) + 64 - 1) / 64) (by omega)
      clear hmz hr hd h0 h1
      go_enter Try.func23, Try.ntmps23
      go_wp2_with fail
      refine bodyPost_ret (by simp [results, Try.results23, go_sem, more_cell, more_size, more_frozen]; try rfl) rfl ?_
      exact ⟨w.heap.size + 1, rfl, HF.out _⟩
/-- the last word's mask -/
theorem mask_u (k : Nat) (hk : k < 64) : IntKind.u64.wrap (IntKind.u64.wrap (2 ^ k) - 1) = ((2 ^ k - 1 : Nat) : Int) := by
  have h1 : 2 ^ k < 18446744073709551616 := Nat.pow_lt_pow_right (by decide) hk
  have h0 : 0 < 2 ^ k := Nat.pow_pos (by decide)
  have e : (2 ^ k : Int) = ((2 ^ k : Nat) : Int) := by simp
  rw [e, wrap_u _ h1]
  rw [show (((2 ^ k : Nat) : Int) - 1) = ((2 ^ k - 1 : Nat) : Int) by omega, wrap_u _ (by omega)]
theorem grown_obj {w w' : World} {g : Nat} (h : Below g w w') (hs : w.heap.size ≤ w'.heap.size) (ho : ∀ k, k < w.heap.size → k ≠ g → w'.heap[k]? = w.heap[k]?) : w.grownBy w' (some g) := ⟨h.os, h.tape, h.output, hs, fun k hk hne => ho k hk (fun e => hne (by rw [e]))⟩
set_option maxHeartbeats 2000000 in
theorem bits_trim (n g m : Nat) (ws : List Nat) (w : World) (hg : w.heap[g]? = some (.cells (uV ws) 49)) (hm : ws.length = m) (hn : m = (n + 63) / 64) (hn2 : n ≤ 65536) (hw : ∀ k, ws.getD k 0 < 18446744073709551616) :
    Calls Try.prog 27 #[.agg #[.int .i64 n, .slice (some ⟨g, 0, none⟩) m m]] w fun e w' => w'.heap[g]? = some (.cells (uV (trimW n ws)) 49) ∧ w.grownBy w' (some g) ∧ e = .returned (.tuple #[]) := by
  have hgl : g < w.heap.size := heap_lt hg
  obtain ⟨W, hW⟩ : ∃ W, W = w.alloc (.cells #[.int .i64 n, .slice (some ⟨g, 0, none⟩) m m] 35) := ⟨_, rfl⟩
  have hsz : W.heap.size = w.heap.size + 1 := by rw [hW]; simp
  have c0 : W.cell? ⟨w.heap.size, 0, none⟩ = some (.int .i64 n) := by rw [hW]; exact obj_cell (get_last rfl) rfl
  have c1 : W.cell? ⟨w.heap.size, 1, none⟩ = some (.slice (some ⟨g, 0, none⟩) m m) := by rw [hW]; exact obj_cell (get_last rfl) rfl
  have ho : W.heap[g]? = some (.cells (uV ws) 49) := by rw [hW, get_past hgl]; exact hg
  have HW := Lib.hid hW
  by_cases hz : n % 64 = 0
  · have p1 : (0 < (n : Int) % 64) = False := eq_false (by omega)
    have e1 : (n : Int) % 64 = 0 := by omega
    have HF := Lib.hid (show W.heap[g]? = some (.cells (uV (trimW n ws)) 49) from by unfold trimW; rw [if_pos hz]; exact ho)
    have HG := Lib.hid (show w.grownBy W (some g) from grown_obj (by rw [hW]; exact (Below.alloc (Below.refl _ _) (by omega) _)) (by omega) (fun k hk hne => by rw [hW, get_past hk]))
    clear hm hn hz hw hg hW
    go_enter Try.func27, Try.ntmps27
    go_wp2_with fail
    rw [← HW.out]
    go_end0
    exact ⟨HF.out, HG.out, rfl⟩
  · have p1 : (0 < (n : Int) % 64) = True := eq_true (by omega)
    have hml : m - 1 < ws.length := by omega
    have c2 : W.cell? ⟨g, m - 1, none⟩ = some (.int .u64 (ws.getD (m - 1) 0 : Nat)) := obj_cell ho (uV_get hml)
    have fz : W.frozen? ⟨g, m - 1, none⟩ = false := obj_frozen ho _
    have e1 : (n : Int) % 64 = ((n % 64 : Nat) : Int) := by omega
    have e2 : (m : Int) - 1 = ((m - 1 : Nat) : Int) := by omega
    obtain ⟨q, hq⟩ : ∃ q, m - 1 = q := ⟨_, rfl⟩
    obtain ⟨o, ho2⟩ : ∃ o, n % 64 = o := ⟨_, rfl⟩
    have hqm : (q : Int) < m := by omega
    have ho64 : o < 64 := by omega
    have p2 : (0 < (o : Int)) = True := eq_true (by omega)
    have p3 : (0 < o) = True := eq_true (by omega)
    have ho0 : ¬ o = 0 := by omega
    have hwq : IntKind.i64.wrap (q : Int) = (q : Int) := by rw [IntKind.wrap_i64]; omega
    have hmask := mask_u o ho64
    rw [hq] at c2 fz e2
    rw [ho2] at e1
    obtain ⟨x, hx⟩ : ∃ x, ws.getD q 0 = x := ⟨_, rfl⟩
    have hx64 := hw q
    rw [hx] at c2 hx64
    have hpow : 2 ^ o < 18446744073709551616 := Nat.pow_lt_pow_right (by decide) ho64
    have hand := and_u x (2 ^ o - 1) hx64 (by omega)
    have HX := Lib.hid hx
    have HQ := Lib.hid hq
    have HO := Lib.hid ho2
    have HM := Lib.hid hm
    have HN := Lib.hid hn
    clear hpow hx hq ho2 hm hn hz hw hg hml hW
    go_enter Try.func27, Try.ntmps27
    go_wp2_with fail
    rw [← HW.out]
    go_still_tail 13, (by kernel_rfl)
    change wpList _ _ _ _ _ W.drew
    have HV := Lib.hid (show (x : Int) % 2 ^ o = ((x &&& (2 ^ o - 1) : Nat) : Int) by rw [Nat.and_two_pow_sub_one_eq_mod]; simp)
    have fz : W.drew.frozen? ⟨g, q, none⟩ = false := fz
    have c2 : W.drew.cell? ⟨g, q, none⟩ = some (.int .u64 (x : Int)) := c2
    have HF := Lib.hid (show (W.drew.setCell ⟨g, q, none⟩ (.int .u64 ((x &&& (2 ^ o - 1) : Nat) : Int))).heap[g]? = some (.cells (uV (trimW n ws)) 49) from by
      rw [obj_self (show W.drew.heap[g]? = some (.cells (uV ws) 49) from ho), uV_set]
      unfold trimW
      rw [if_neg (by rw [HO.out]; exact ho0), HM.out, HQ.out, HX.out, HO.out])
    have hbG : Below g w (W.drew.setCell ⟨g, q, none⟩ (.int .u64 ((x &&& (2 ^ o - 1) : Nat) : Int))) := by
      rw [HW.out]
      exact ((((Below.refl g w).alloc (Nat.le_of_lt hgl) _).drew).setCell (Nat.le_refl _) _)
    have HG := Lib.hid (show w.grownBy (W.drew.setCell ⟨g, q, none⟩ (.int .u64 ((x &&& (2 ^ o - 1) : Nat) : Int))) (some g) from
      grown_obj hbG (by rw [World.size_setCell, drew_heap, hsz]; exact Nat.le_succ _) (fun k hk hne => by
        rw [get_set (show (⟨g, q, none⟩ : Addr).block ≠ k from fun e => hne e.symm), drew_heap, HW.out, get_past hk]))
    clear hbG
    go_wp2_with fail
    go_end0
    exact ⟨by rw [HV.out]; exact HF.out, by rw [HV.out]; exact HG.out, rfl⟩
/-- a set, as it lies in memory -/
def SetR (w : World) (v : Value) (x : List Bool) : Prop := ∃ (ws : List Nat) (a : Option Addr) (c : Nat), v = .agg #[.int .i64 x.length, .slice a ws.length c] ∧ Wds x ws ∧ x.length ≤ 65536 ∧ (0 < ws.length → ∃ b o, a = some ⟨b, o, none⟩ ∧ ws.length ≤ c ∧ c ≤ maxLen ∧ b < w.heap.size ∧ ∀ k, k < ws.length → w.cell? ⟨b, o + k, none⟩ = some (.int .u64 (ws.getD k 0 : Nat)))
theorem SetR.below {w w' : World} {v : Value} {x : List Bool} (h : SetR w v x) (hb : Below w.heap.size w w') : SetR w' v x := by
  obtain ⟨ws, a, c, h1, h2, h3, h4⟩ := h
  refine ⟨ws, a, c, h1, h2, h3, fun h0 => ?_⟩
  obtain ⟨b, o, e, l1, l2, l3, l4⟩ := h4 h0
  exact ⟨b, o, e, l1, l2, Nat.lt_of_lt_of_le l3 hb.size, fun k hk => (hb.cell (p := ⟨b, o + k, none⟩) l3).trans (l4 k hk)⟩
theorem FreshW.set {w w' : World} {g : Nat} {ws : List Nat} {x : List Bool} (h : FreshW w w' g ws) (hx : Wds x ws) (hn : x.length ≤ 65536) {m : Nat} (hm : ws.length = m) : SetR w' (.agg #[.int .i64 x.length, .slice (some ⟨g, 0, none⟩) m m]) x := by
  subst hm
  have := hx.1
  exact ⟨ws, _, _, rfl, hx, hn, fun h0 => ⟨g, 0, rfl, Nat.le_refl _, by unfold maxLen; omega, heap_lt h.obj, fun k hk => by rw [Nat.zero_add]; exact obj_cell h.obj (uV_get hk)⟩⟩
end Go.Proofs.Ytemihfcenmhieaa
