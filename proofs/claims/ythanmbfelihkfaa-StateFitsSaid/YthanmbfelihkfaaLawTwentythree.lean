/- Layer 23: the law StateWrites' walk. -/
import Derived.Test.YthanmbfelihkfaaStNewOne
namespace Go.Proofs.Ythanmbfelihkfaa
open Go.RowKit
set_option linter.unusedSimpArgs false
set_option linter.unusedVariables false
set_option maxHeartbeats 2000000 in
theorem law23_awake (w : World) : Calls Try.prog 8 #[] w fun e w' => e = .returned (.bool true) ∧ Below w.heap.size w w' := by
  have cp := @cell_past
  go_enter Try.func8, Try.ntmps8
  go_wp2_with fail
  refine (state_New_one w.heap.size _ (by simp) (by rw [cell_at rfl]; rfl) (by rw [cell_at rfl]; rfl) (by rw [cell_at rfl]; rfl) (by rw [cell_at rfl]; rfl) (by rw [cell_at rfl]; rfl)).mono ?_
  rintro e W1 ⟨p, r, b, rfl, ⟨a, n, rfl⟩, c0, c1, hb⟩
  have hp := World.block_lt_of_cell? W1 _ c0
  have hr := World.block_lt_of_cell? W1 _ c1
  have hp' : p < W1.heap.size := hp
  have hr' : r < W1.heap.size := hr
  have hB : Below w.heap.size w W1 := Below.trans (by (repeat' (first | (with_reducible exact Below.refl _ _) | (with_reducible assumption) | (with_reducible refine below_drewN ?_ _) | (with_reducible refine Below.alloc ?_ ?_ _) | (with_reducible refine Below.drew ?_) | (with_reducible refine Below.setCell ?_ ?_ _) | go_size))) (hb.mono (by simp))
  have hsz := hB.size
  clear hb hp hr
  go_wp2_with fail
  go_ret
  exact ⟨rfl, by (repeat' (first | (with_reducible exact Below.refl _ _) | (with_reducible assumption) | (with_reducible refine more_below ?_ ?_ _ _) | (with_reducible refine below_drewN ?_ _) | (with_reducible refine Below.alloc ?_ ?_ _) | (with_reducible refine Below.drew ?_) | (with_reducible refine Below.setCell ?_ ?_ _) | (simp only [World.size_alloc, World.size_setCell, World.size_drew, more_size, World.heap_drewN]; omega) | go_size))⟩
theorem setS_vars {s : St} {n m : Nat} {l : List Int} (hn : s.vars[n]? = some l) (x : Int) : (setS s n m x).vars = s.vars.set n (l.set m x) := by
  unfold setS; simp [List.getD, hn]
theorem setS_facts {s : St} {n m : Nat} {l : List Int} {z : Int} (hn : s.vars[n]? = some l) (hm : l[m]? = some z) (x : Int) :
    hasS (setS s n m x) n m = true ∧ readS (setS s n m x) n m = x ∧ writeS (setS s n m x) n m z = s ∧ shortS (setS s n m x) = shortS s := by
  have h1 := lt_of_get hn
  have h2 := lt_of_get hm
  have hv := setS_vars (m := m) hn x
  have hr : rowS (setS s n m x) n = l.set m x := by unfold rowS; rw [hv]; simp [List.getD, h1]
  have hh : hasS (setS s n m x) n m = true := by
    unfold hasS
    rw [hr, hv]
    apply decide_eq_true
    simp only [List.length_set]
    omega
  refine ⟨hh, ?_, ?_, ?_⟩
  · rw [readS_yes hh]; unfold valS; rw [hr]; simp [List.getD, h2]
  · rw [writeS_yes hh]
    have hn2 : (setS s n m x).vars[n]? = some (l.set m x) := by rw [hv]; simp [h1]
    have hv2 := setS_vars (s := setS s n m x) (m := m) hn2 z
    have e1 : (((n : Nat) : Int)).toNat = n := by omega
    have e2 : (((m : Nat) : Int)).toNat = m := by omega
    rw [e1, e2]
    have hvv : (setS (setS s n m x) n m z).vars = s.vars := by
      rw [hv2, hv, List.set_set, List.set_set]
      apply List.ext_getElem?
      intro i
      rw [List.getElem?_set]
      by_cases hi : n = i
      · subst hi
        rw [if_pos rfl, if_pos h1, hn]
        congr 1
        apply List.ext_getElem?
        intro j
        rw [List.getElem?_set]
        by_cases hj : m = j
        · subst hj; rw [if_pos rfl, if_pos h2, hm]
        · rw [if_neg hj]
      · rw [if_neg hi]
    have hb : (setS (setS s n m x) n m z).blocks = s.blocks := rfl
    have hnw : (setS (setS s n m x) n m z).now = s.now := rfl
    have hf : (setS (setS s n m x) n m z).fault = s.fault := rfl
    generalize setS (setS s n m x) n m z = q at *
    cases q; cases s
    simp only at hvv hb hnw hf
    subst hvv hb hnw hf
    rfl
  · unfold shortS
    rw [hv, show (setS s n m x).blocks = s.blocks from rfl]
    congr 1
    apply propext
    simp only [List.length_set]
    refine and_congr Iff.rfl (and_congr Iff.rfl ⟨fun h r hr => ?_, fun h r hr => ?_⟩)
    · obtain ⟨i, hi, rfl⟩ := List.getElem_of_mem hr
      by_cases hin : n = i
      · subst hin
        have := h (l.set m x) (by
          have : (s.vars.set n (l.set m x))[n]? = some (l.set m x) := by simp [h1]
          exact List.mem_of_getElem? this)
        rw [List.length_set] at this
        have e : s.vars[n] = l := by simpa [h1] using hn
        rw [e]; exact this
      · exact h s.vars[i] (by
          have : (s.vars.set n (l.set m x))[i]? = some s.vars[i] := by simp [hin, hi]
          exact List.mem_of_getElem? this)
    · rcases List.mem_or_eq_of_mem_set hr with hr | rfl
      · exact h r hr
      · rw [List.length_set]; exact h l (List.mem_of_getElem? hn)
end Go.Proofs.Ythanmbfelihkfaa
