/- Contracts of trig (layer 10) and of its answer. -/
import Derived.Test.YtajgdfgemcpjgaaDoorMapBool
import Derived.Test.YtajgdfgemcpjgaaDoorRow
import Derived.WalkSpells
import Derived.WalkLawsBesides
import Derived.Deep.QuietTactic
import Derived.BigQuiet
namespace Go.Proofs.YtajgdfgemcpjgaaDoor
open Go.RowKit
def tgIs (k : Int) : Bool := decide (k = 7 ∨ k = 8)
theorem trig_Is (k : Int) (w : World) : Calls Tryd.prog 30 #[.int .i64 k] w fun e w' => e = .returned (.bool (tgIs k)) ∧ w = w' := by
  by_cases h7 : k = 7
  · subst h7; go_enter Tryd.func30, Tryd.ntmps30; go_wp2; go_ret; exact ⟨rfl, rfl⟩
  by_cases h8 : k = 8
  · subst h8; go_enter Tryd.func30, Tryd.ntmps30; go_wp2; go_ret; exact ⟨rfl, rfl⟩
  have e7 : ((k : Int) == 7) = false := by simpa using h7
  have e8 : ((k : Int) == 8) = false := by simpa using h8
  go_enter Tryd.func30, Tryd.ntmps30
  go_wp2
  go_ret
  exact ⟨by simp [tgIs, h7, h8], rfl⟩
def tg1 (k a c : Int) : Int := if k = 7 then (if a ≠ 0 ∧ c = 0 then 1 else 0) else (if c ≠ 0 ∧ a = 0 then 1 else 0)
def tg2 (a : Int) : Int := if a ≠ 0 then 1 else 0
theorem setCell_drewN (W : World) (q : Nat) (x : Addr) (v : Value) : (W.drewN q).setCell x v = (W.setCell x v).drewN q := by
  simp only [World.setCell, World.heap_drewN]
  split <;> rfl
def tgA (k a b c : Int) : Int := if tgIs k = true then tg1 k a c else b
def tgB (k a c : Int) : Int := if tgIs k = true then tg2 a else c
set_option maxHeartbeats 1000000 in
theorem trig_Step (k a b c d f g h i j l : Int) (w : World) : Calls Tryd.prog 31 #[.int .i64 k, .agg #[.int .i64 a, .int .i64 b, .int .i64 c, .int .i64 d, .int .i64 f, .int .i64 g, .int .i64 h, .int .i64 i, .int .i64 j, .int .i64 l]] w
    fun e w' => e = .returned (.agg #[.int .i64 a, .int .i64 (tgA k a b c), .int .i64 (tgB k a c), .int .i64 d, .int .i64 f, .int .i64 g, .int .i64 h, .int .i64 i, .int .i64 j, .int .i64 l]) ∧ Below w.heap.size w w' := by
  have hmm := @run_makeMap Tryd.prog
  have p1 : ∀ (W : World) (b : Nat) (n : Int), b = W.heap.size → (Instr.mapUpdate 58 (.map (some b)) (.bool true) (.int .i64 n)).run Tryd.prog (W.alloc (.map #[] 0)) = .ok () (W.alloc (.map #[mb true n 0] 1)) := fun W b n hb => by subst hb; exact run_put_first Tryd.underlying58 Tryd.underlying4 W n
  have p2 : ∀ (W : World) (b : Nat) (n m : Int), b = W.heap.size → (Instr.mapUpdate 58 (.map (some b)) (.bool false) (.int .i64 m)).run Tryd.prog (W.alloc (.map #[mb true n 0] 1)) = .ok () (W.alloc (.map #[mb true n 0, mb false m 1] 2)) := fun W b n m hb => by subst hb; exact run_put_second Tryd.underlying58 Tryd.underlying4 W n m
  have p3 : ∀ (W : World) (q b : Nat) (k : Bool), b = W.heap.size → (Instr.lookup 58 (.map (some b)) (.bool k) false).run Tryd.prog ((W.alloc (.map #[mb true 1 0, mb false 0 1] 2)).drewN q) = .ok (.int .i64 (if k then 1 else 0)) ((W.alloc (.map #[mb true 1 0, mb false 0 1] 2)).drewN q) := fun W q b k hb => by subst hb; exact run_ask Tryd.underlying58 Tryd.underlying4 ((W.alloc (.map #[mb true 1 0, mb false 0 1] 2)).drewN q) W.heap.size 1 0 (heap_alloc_new W _) k
  have p4 : ∀ (W : World) (q : Nat) (x : Addr) (v : Value), (W.drewN q).setCell x v = (W.setCell x v).drewN q := setCell_drewN
  by_cases hk : k = 7 ∨ k = 8
  · have hi := Lib.hid (show tgIs k = true by simp [tgIs, hk])
    have H1 := Lib.hid (show tgA k a b c = tg1 k a c by unfold tgA; rw [if_pos hi.out])
    have H2 := Lib.hid (show tgB k a c = tg2 a by unfold tgB; rw [if_pos hi.out])
    by_cases ha : a = 0
    all_goals by_cases hc : c = 0
    all_goals (first | (have ea : ((a : Int) != 0) = true := by simpa using ha) | (have ea : ((a : Int) != 0) = false := by simpa using ha))
    all_goals (first | (have ec : ((c : Int) != 0) = true := by simpa using hc) | (have ec : ((c : Int) != 0) = false := by simpa using hc))
    all_goals rcases hk with rfl | rfl
    all_goals
      have Ha := Lib.hid ha
      have Hc := Lib.hid hc
      clear ha hc
      go_enter Tryd.func31, Tryd.ntmps31
      go_wp2_with fail
      refine (trig_Is _ _).mono ?_; rintro e w' ⟨rfl, rfl⟩
      rw [hi.out]
      go_wp2_with fail
      go_quiet (fail)
      go_wp2_with fail
      go_returns
      exact ⟨by rw [H1.out, H2.out]; simp [tg1, tg2, Ha.out, Hc.out], by refine Below.trans ?_ (Below_drewN _ _ _); go_grown⟩
  · have hi := Lib.hid (show tgIs k = false by simp [tgIs, hk])
    have H1 := Lib.hid (show tgA k a b c = b by unfold tgA; rw [if_neg (by rw [hi.out]; simp)])
    have H2 := Lib.hid (show tgB k a c = c by unfold tgB; rw [if_neg (by rw [hi.out]; simp)])
    clear hk
    go_enter Tryd.func31, Tryd.ntmps31
    go_wp2_with fail
    refine (trig_Is _ _).mono ?_; rintro e w' ⟨rfl, rfl⟩
    rw [hi.out]
    go_wp2_with fail
    go_returns
    exact ⟨by rw [H1.out, H2.out], by go_grown⟩
set_option maxHeartbeats 1000000 in
theorem ref10_Step (k a b c d f g h i j l : Int) (w : World) : Calls Tryd.prog 34 #[.int .i64 k, .agg #[.int .i64 a, .int .i64 b, .int .i64 c, .int .i64 d, .int .i64 f, .int .i64 g, .int .i64 h, .int .i64 i, .int .i64 j, .int .i64 l]] w
    fun e w' => e = .returned (.agg #[.int .i64 a, .int .i64 (tgA k a b c), .int .i64 (tgB k a c), .int .i64 d, .int .i64 f, .int .i64 g, .int .i64 h, .int .i64 i, .int .i64 j, .int .i64 l]) ∧ Below w.heap.size w w' := by
  by_cases hk : k = 7 ∨ k = 8
  · have hi := Lib.hid (show tgIs k = true by simp [tgIs, hk])
    have H1 := Lib.hid (show tgA k a b c = tg1 k a c by unfold tgA; rw [if_pos hi.out])
    have H2 := Lib.hid (show tgB k a c = tg2 a by unfold tgB; rw [if_pos hi.out])
    by_cases ha : a = 0
    all_goals by_cases hc : c = 0
    all_goals (first | (have ea : ((a : Int) != 0) = true := by simpa using ha) | (have ea : ((a : Int) != 0) = false := by simpa using ha))
    all_goals (first | (have ec : ((c : Int) != 0) = true := by simpa using hc) | (have ec : ((c : Int) != 0) = false := by simpa using hc))
    all_goals (first | (have fa : ((a : Int) == 0) = false := by simpa using ha) | (have fa : ((a : Int) == 0) = true := by simpa using ha))
    all_goals (first | (have fc : ((c : Int) == 0) = false := by simpa using hc) | (have fc : ((c : Int) == 0) = true := by simpa using hc))
    all_goals rcases hk with rfl | rfl
    all_goals
      have Ha := Lib.hid ha
      have Hc := Lib.hid hc
      clear ha hc hi
      go_enter Tryd.func34, Tryd.ntmps34
      go_wp2_with fail
      go_returns
      exact ⟨by rw [H1.out, H2.out]; simp [tg1, tg2, Ha.out, Hc.out], by go_grown⟩
  · have hi := Lib.hid (show tgIs k = false by simp [tgIs, hk])
    have H1 := Lib.hid (show tgA k a b c = b by unfold tgA; rw [if_neg (by rw [hi.out]; simp)])
    have H2 := Lib.hid (show tgB k a c = c by unfold tgB; rw [if_neg (by rw [hi.out]; simp)])
    have e7 : ((k : Int) != 7) = true := by simp; omega
    have e8 : ((k : Int) != 8) = true := by simp; omega
    clear hk hi
    go_enter Tryd.func34, Tryd.ntmps34
    go_wp2_with fail
    go_returns
    exact ⟨by rw [H1.out, H2.out], by go_grown⟩
end Go.Proofs.YtajgdfgemcpjgaaDoor
