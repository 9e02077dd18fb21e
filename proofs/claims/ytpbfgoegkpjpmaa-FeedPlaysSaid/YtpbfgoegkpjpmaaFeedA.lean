/- Layer 51: a feed in memory: its channel, and whether it is shut. -/
import Derived.Test.YtpbfgoegkpjpmaaChecked
import Derived.Laws.LoneSync
import Derived.Conc.LoneSelect
import Derived.Test.YtpbfgoegkpjpmaaObj
import Derived.Test.YtpbfgoegkpjpmaaInts
import Derived.LoopTactic
import Derived.RegionTactic
import Derived.Below
namespace Go.Proofs.Ytpbfgoegkpjpmaa
open Go.RowKit Go.Conc
set_option linter.unusedSimpArgs false
set_option linter.unusedVariables false
theorem bool_Load (p : Nat) (x : Int) (w : World) (h : w.cell? ⟨p, 1, none⟩ = some (.int .u32 x)) :
    Calls Try.prog 16 #[.pointer (some ⟨p, 1, none⟩)] w fun e w' => e = .returned (.bool (x != 0)) ∧ w' = w := by
  have hl := run_call_load (P := Try.prog) Try.func19 (by kernel_rfl) (by kernel_rfl) (by kernel_rfl) .u32 (by kernel_rfl) h
  go_enter Try.func16, Try.ntmps16
  go_wp2_with fail
  go_ret
  exact ⟨rfl, rfl⟩
theorem b32_true (w : World) : Calls Try.prog 21 #[.bool true] w fun e w' => e = .returned (.int .u32 1) ∧ w' = w := by
  go_enter Try.func21, Try.ntmps21
  go_wp2_with fail
  go_ret
  exact ⟨rfl, rfl⟩
theorem b32_false (w : World) : Calls Try.prog 21 #[.bool false] w fun e w' => e = .returned (.int .u32 0) ∧ w' = w := by
  go_enter Try.func21, Try.ntmps21
  go_wp2_with fail
  go_ret
  exact ⟨rfl, rfl⟩
/-- a feed: its struct at p, its channel at c -/
structure FeedAt (w : World) (p c cap : Nat) (buf : Array Value) (x : Int) : Prop where
  obj : w.heap[p]? = some (.cells #[.chan (some c), .int .u32 x] 50)
  chan : ∃ s r, w.heap[c]? = some (.chan cap buf false s r false)
theorem run_len_chan {w : World} {c cap s r : Nat} {buf : Array Value} (hc : w.heap[c]? = some (.chan cap buf false s r false)) : (Builtin.len_ #[43] 3 #[.chan (some c)]).run Try.prog w = .ok (.int .i64 buf.size) w := by
  have hg : (getObj c).run Try.prog w = .ok (.chan cap buf false s r false) w := by simp [getObj, Sem.run, hc]
  simp [Builtin.len_, run_underlying Try.underlying43, hg]
  rfl
theorem feed_Len (p c cap : Nat) (buf : Array Value) (x : Int) (w : World) (h : FeedAt w p c cap buf x) : Calls Try.prog 14 #[.pointer (some ⟨p, 0, none⟩)] w fun e w' => e = .returned (.int .i64 buf.size) ∧ w' = w := by
  have c0 := obj_cell h.obj (i := 0) rfl
  obtain ⟨s, r, hc⟩ := h.chan
  have hl := run_len_chan hc
  go_enter Try.func14, Try.ntmps14
  go_wp2_with fail
  go_ret
  exact ⟨rfl, rfl⟩
theorem feed_Len_nil (w : World) : Calls Try.prog 14 #[.pointer none] w fun e w' => e = .returned (.int .i64 0) ∧ w' = w := by
  go_enter Try.func14, Try.ntmps14
  go_wp2_with fail
  go_ret
  exact ⟨rfl, rfl⟩
theorem feed_Over_nil (w : World) : Calls Try.prog 15 #[.pointer none] w fun e w' => e = .returned (.bool true) ∧ w' = w := by
  go_enter Try.func15, Try.ntmps15
  go_wp2_with fail
  go_ret
  exact ⟨rfl, rfl⟩
theorem feed_Shut_nil (w : World) : Calls Try.prog 13 #[.pointer none] w fun e w' => e = .returned (.bool false) ∧ w' = w := by
  go_enter Try.func13, Try.ntmps13
  go_wp2_with fail
  go_ret
  exact ⟨rfl, rfl⟩
theorem feed_Next_nil (w : World) : Calls Try.prog 10 #[.pointer none] w fun e w' => e = .returned (.tuple #[.agg #[.slice none 0 0, .int .i64 0], .bool false]) ∧ Below w.heap.size w w' := by
  go_enter Try.func10, Try.ntmps10
  go_wp2_with fail
  refine bodyPost_ret (by simp [results, Try.results10, go_sem, more_cell, more_size, more_frozen]; try rfl) rfl ?_
  exact ⟨rfl, by (repeat' (first | (with_reducible exact Below.refl _ _) | (with_reducible assumption) | (with_reducible refine below_drewN ?_ _) | (with_reducible refine Below.alloc ?_ ?_ _) | (with_reducible refine Below.drew ?_) | (with_reducible refine Below.setCell ?_ ?_ _) | go_size))⟩
theorem feed_Offer_nil (v : Value) (n : Int) (w : World) : Calls Try.prog 8 #[.pointer none, .agg #[v, .int .i64 n]] w fun e w' => e = .returned (.bool false) ∧ Below w.heap.size w w' := by
  go_enter Try.func8, Try.ntmps8
  go_wp2_with fail
  go_ret
  exact ⟨rfl, by (repeat' (first | (with_reducible exact Below.refl _ _) | (with_reducible assumption) | (with_reducible refine below_drewN ?_ _) | (with_reducible refine Below.alloc ?_ ?_ _) | (with_reducible refine Below.drew ?_) | (with_reducible refine Below.setCell ?_ ?_ _) | go_size))⟩
theorem feed_Over (p c cap : Nat) (buf : Array Value) (x : Int) (w : World) (h : FeedAt w p c cap buf x) : Calls Try.prog 15 #[.pointer (some ⟨p, 0, none⟩)] w fun e w' => e = .returned (.bool (x != 0 && ((buf.size : Int) == 0))) ∧ w' = w := by
  have hL := bool_Load p x w (obj_cell h.obj (i := 1) rfl)
  have hN := feed_Len p c cap buf x w h
  by_cases hx : x = 0
  · have hx' : (x != 0) = false := by simp [hx]
    rw [hx'] at hL ⊢
    go_enter Try.func15, Try.ntmps15
    go_wp2_with fail
    refine hL.mono ?_; rintro e w1 ⟨rfl, rfl⟩
    go_wp2_with fail
    go_ret
    exact ⟨rfl, rfl⟩
  · have hx' : (x != 0) = true := by simp [hx]
    rw [hx'] at hL ⊢
    go_enter Try.func15, Try.ntmps15
    go_wp2_with fail
    refine hL.mono ?_; rintro e w1 ⟨rfl, rfl⟩
    go_wp2_with fail
    refine hN.mono ?_; rintro e w2 ⟨rfl, rfl⟩
    go_wp2_with fail
    go_ret
    exact ⟨by simp, rfl⟩
theorem feed_New (n : Int) (w : World) (hn : I64 n) : Calls Try.prog 6 #[.int .i64 n] w fun e w' => ∃ p c, e = .returned (.pointer (some ⟨p, 0, none⟩)) ∧ w.heap.size ≤ p ∧ w.heap.size ≤ c ∧ FeedAt w' p c (min (max n 0) 1024).toNat #[] 0 ∧ Below w.heap.size w w' := by
  obtain ⟨i, hi, hb⟩ : ∃ i, Try.prog.info? 30 = some i ∧ i.bytes = 32 := ⟨(Try.prog.info? 30).get!, by kernel_rfl, by kernel_rfl⟩
  have hmk : ∀ (m : Nat), m ≤ 1024 → ∀ W, (Instr.makeChan 43 (.int .i64 (m : Int))).run Try.prog W = .ok (.chan (some W.heap.size)) (W.alloc (.chan m #[] false 0 0 false)) := by
    intro m h1 W
    simpa using run_makeChan (P := Try.prog) (w := W) Try.underlying43 hi .i64 m (by omega) (by rw [hb]; omega)
  by_cases p0 : n < 0
  · have p1 : (n < 0) = True := eq_true p0
    have p2 : (0 < n) = False := eq_false (by omega)
    have hm : (min (max n 0) 1024).toNat = 0 := by omega
    have hmk : ∀ W, (Instr.makeChan 43 (.int .i64 0)).run Try.prog W = .ok (.chan (some W.heap.size)) (W.alloc (.chan 0 #[] false 0 0 false)) := fun W => hmk 0 (by omega) W
    rw [hm]
    clear hm p0
    go_enter Try.func6, Try.ntmps6
    go_wp2_with fail
    go_ret
    exact ⟨_, _, rfl, by omega, Nat.le_refl _, ⟨get_last (by simp), 0, 0, (get_past (by simp)).trans (get_last rfl)⟩, by (repeat' (first | (with_reducible exact Below.refl _ _) | (with_reducible assumption) | (with_reducible refine below_drewN ?_ _) | (with_reducible refine Below.alloc ?_ ?_ _) | (with_reducible refine Below.drew ?_) | (with_reducible refine Below.setCell ?_ ?_ _) | go_size))⟩
  by_cases p9 : 1024 < n
  · have p1 : (n < 0) = False := eq_false p0
    have p3 : (1024 < n) = True := eq_true p9
    have hm : (min (max n 0) 1024).toNat = 1024 := by omega
    have hmk : ∀ W, (Instr.makeChan 43 (.int .i64 1024)).run Try.prog W = .ok (.chan (some W.heap.size)) (W.alloc (.chan 1024 #[] false 0 0 false)) := fun W => hmk 1024 (by omega) W
    rw [hm]
    clear hm p0 p9
    go_enter Try.func6, Try.ntmps6
    go_wp2_with fail
    go_ret
    exact ⟨_, _, rfl, by omega, Nat.le_refl _, ⟨get_last (by simp), 0, 0, (get_past (by simp)).trans (get_last rfl)⟩, by (repeat' (first | (with_reducible exact Below.refl _ _) | (with_reducible assumption) | (with_reducible refine below_drewN ?_ _) | (with_reducible refine Below.alloc ?_ ?_ _) | (with_reducible refine Below.drew ?_) | (with_reducible refine Below.setCell ?_ ?_ _) | go_size))⟩
  · obtain ⟨m, rfl⟩ : ∃ m : Nat, n = m := ⟨n.toNat, by omega⟩
    have hm : (min (max (m : Int) 0) 1024).toNat = m := by omega
    have hmk := hmk m (by omega)
    have p1 : ((m : Int) < 0) = False := eq_false p0
    have p3 : (1024 < (m : Int)) = False := eq_false p9
    rw [hm]
    clear hm p0 p9
    go_enter Try.func6, Try.ntmps6
    go_wp2_with fail
    go_ret
    exact ⟨_, _, rfl, by omega, Nat.le_refl _, ⟨get_last (by simp), 0, 0, (get_past (by simp)).trans (get_last rfl)⟩, by (repeat' (first | (with_reducible exact Below.refl _ _) | (with_reducible assumption) | (with_reducible refine below_drewN ?_ _) | (with_reducible refine Below.alloc ?_ ?_ _) | (with_reducible refine Below.drew ?_) | (with_reducible refine Below.setCell ?_ ?_ _) | go_size))⟩
end Go.Proofs.Ytpbfgoegkpjpmaa
