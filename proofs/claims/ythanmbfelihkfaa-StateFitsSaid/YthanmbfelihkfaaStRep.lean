/- Layer 23: states as plain lists; the smallest functions on them. -/
import Derived.Test.YthanmbfelihkfaaInts
import Derived.Test.YthanmbfelihkfaaMoreB
import Derived.Test.YthanmbfelihkfaaRowTwo
import Derived.LoopTactic
import Derived.OwnWalk
import Derived.WalkKit
import Derived.WalkSpells
import Derived.WalkLawsBesides
import Derived.Deep.QuietTactic
import Derived.BigQuiet
import Derived.WalkSmall
import Derived.IntWalk
namespace Go.Proofs.Ythanmbfelihkfaa
open Go.RowKit
set_option linter.unusedSimpArgs false
set_option linter.unusedVariables false
def intsR : Rep (List Int) := sliceR 1 intR
theorem intsR_stable : Stable intsR := sliceR_stable intR_stable
/-- a function block's instance -/
def instR : Rep (List Int) := fun _ cs x => cs = x.map (Value.int .i64) ∧ x.length = 10 ∧ ∀ z ∈ x, I64 z
theorem instR_stable : Stable instR := fun _ _ _ _ h _ => h
structure St where
  vars : List (List Int)
  blocks : List (List Int)
  now : Int
  fault : Int
/-- a state, by its two slices -/
structure StAt (w : World) (v b : Value) (s : St) : Prop where
  vs : RowR 1 intsR w v s.vars
  bs : RowR 10 instR w b s.blocks
  n64 : I64 s.now
  f64 : I64 s.fault
theorem StAt.below {w w' : World} {v b : Value} {s : St} (h : StAt w v b s) (hb : Below w.heap.size w w') : StAt w' v b s :=
  ⟨h.vs.below intsR_stable hb, h.bs.below instR_stable hb, h.n64, h.f64⟩
/-- the rows of a list of lists -/
theorem rows_at {w : World} {a : Option Addr} {n cap : Nat} {L : List (List Int)} (hv : RowR 1 intsR w (.slice a n cap) L) {k : Nat} (hk : k < L.length) : ∃ b off, a = some ⟨b, off, none⟩ ∧ b < w.heap.size ∧ ∀ i l, L[i]? = some l → ∃ u, w.cell? ⟨b, off + i, none⟩ = some u ∧ RowR 1 intR w u l := by
  rcases hv with ⟨a, cap, h, rfl, _⟩ | ⟨b, off, cap, h1, _, _, _, h5, h6⟩
  · simp at hk
  · have e : a = some ⟨b, off, none⟩ := by injection h1
    refine ⟨b, off, e, h5, fun i l hl => ?_⟩
    obtain ⟨C, g1, g2, u, g3, g4⟩ := h6 i l hl
    subst g3
    exact ⟨u, by simpa using g2 0 u rfl, g4⟩
/-- whether a state's lists are short -/
def shortS (s : St) : Bool := decide (s.vars.length ≤ 100 ∧ s.blocks.length ≤ 100 ∧ ∀ l ∈ s.vars, l.length ≤ 100)
set_option maxHeartbeats 2000000 in
theorem law23_Short (v b : Value) (s : St) (w : World) (h : StAt w v b s) : Calls Try.prog 7 #[.agg #[v, b, .int .i64 s.now, .int .i64 s.fault]] w fun e w' => e = .returned (.bool (shortS s)) ∧ Below w.heap.size w w' := by
  have hvl := h.vs.len
  have hbl := h.bs.len
  have hv := h.vs
  obtain ⟨sa, ca, rfl⟩ := row_get h.vs
  obtain ⟨sb, cb, rfl⟩ := row_get h.bs
  have cp := @cell_past
  by_cases h1 : 100 < s.vars.length
  · have q1 : (100 < (s.vars.length : Int)) = True := eq_true (by omega)
    have hs := Lib.hid (show shortS s = false from decide_eq_false (by omega))
    go_enter Try.func7, Try.ntmps7
    go_wp2_with fail
    go_ret
    exact ⟨by rw [hs.out]; rfl, by (repeat' (first | (with_reducible exact Below.refl _ _) | (with_reducible assumption) | (with_reducible refine below_drewN ?_ _) | (with_reducible refine Below.alloc ?_ ?_ _) | (with_reducible refine Below.drew ?_) | (with_reducible refine Below.setCell ?_ ?_ _) | go_size))⟩
  have q1 : (100 < (s.vars.length : Int)) = False := eq_false (by omega)
  by_cases h2 : 100 < s.blocks.length
  · have q2 : (100 < (s.blocks.length : Int)) = True := eq_true (by omega)
    have hs := Lib.hid (show shortS s = false from decide_eq_false (by omega))
    go_enter Try.func7, Try.ntmps7
    go_wp2_with fail
    go_ret
    exact ⟨by rw [hs.out]; rfl, by (repeat' (first | (with_reducible exact Below.refl _ _) | (with_reducible assumption) | (with_reducible refine below_drewN ?_ _) | (with_reducible refine Below.alloc ?_ ?_ _) | (with_reducible refine Below.drew ?_) | (with_reducible refine Below.setCell ?_ ?_ _) | go_size))⟩
  have q2 : (100 < (s.blocks.length : Int)) = False := eq_false (by omega)
  have HY := Lib.hid (fun (hh : ∀ l ∈ s.vars, l.length ≤ 100) => show shortS s = true from decide_eq_true ⟨by omega, by omega, hh⟩)
  have HN := Lib.hid (fun (l : List Int) (hl : l ∈ s.vars) (hh : 100 < l.length) => show shortS s = false from decide_eq_false (fun g => absurd (g.2.2 l hl) (by omega)))
  generalize s.vars = L at *
  clear h h1 h2
  generalize s.blocks.length = NB at *
  obtain ⟨N, hN⟩ : ∃ N, L.length = N := ⟨_, rfl⟩
  rw [hN] at hv hvl q1 ⊢
  go_enter Try.func7, Try.ntmps7
  go_wp2_with fail
  go_loopw [3] (fun j wr => ∃ k : Nat, k ≤ N ∧ j = .int .i64 k ∧ Hid (∀ l ∈ L.take k, l.length ≤ 100) ∧ wr = w.alloc (.cells #[.slice sa N ca, .slice sb NB cb, .int .i64 s.now, .int .i64 s.fault] 31)) (fun j _ => N - (intOf j).toNat)
  case atStart => exact ⟨0, by omega, rfl, Lib.hid (by simp), rfl⟩
  case round =>
    obtain ⟨k, hk, rfl, hall, rfl⟩ := hrel
    by_cases hlt : k < N
    · obtain ⟨b, off, rfl, hbw, hc⟩ := rows_at hv (k := k) (by omega)
      obtain ⟨l, hx⟩ : ∃ l, L[k]? = some l := ⟨L[k]'(by omega), by simp [hN, hlt]⟩
      obtain ⟨u, c0, hu⟩ := hc k l hx
      obtain ⟨su, cu, rfl⟩ := row_get hu
      clear hc
      by_cases hl : 100 < l.length
      · have hs := Lib.hid (HN.out l (List.mem_of_getElem? hx) hl)
        have q3 : (100 < (l.length : Int)) = True := eq_true (by omega)
        clear hx hu hall
        generalize l.length = nl at *
        go_wp2_with fail
        go_ret
        exact ⟨by rw [hs.out]; rfl, by (repeat' (first | (with_reducible exact Below.refl _ _) | (with_reducible assumption) | (with_reducible refine below_drewN ?_ _) | (with_reducible refine Below.alloc ?_ ?_ _) | (with_reducible refine Below.drew ?_) | (with_reducible refine Below.setCell ?_ ?_ _) | go_size))⟩
      · have hs := Lib.hid (show ∀ m ∈ L.take (k + 1), m.length ≤ 100 by
          intro m hm
          rw [take_snoc hx] at hm
          rcases List.mem_append.1 hm with hm | hm
          · exact hall.out m hm
          · rw [List.mem_singleton.1 hm]; omega)
        have q3 : (100 < (l.length : Int)) = False := eq_false (by omega)
        clear hx hu hall
        generalize l.length = nl at *
        go_wp2_with fail
        go_roundw
        case rel => exact ⟨k + 1, by omega, by simp, hs, trivial⟩
        case measure => first | (simp [intOf]; done) | (simp [intOf]; omega)
    · obtain rfl : k = N := by omega
      have hs := Lib.hid (HY.out (by have := hall.out; rw [List.take_of_length_le (by omega)] at this; exact this))
      clear hall
      go_wp2_with fail
      go_ret
      exact ⟨by rw [hs.out]; rfl, by (repeat' (first | (with_reducible exact Below.refl _ _) | (with_reducible assumption) | (with_reducible refine below_drewN ?_ _) | (with_reducible refine Below.alloc ?_ ?_ _) | (with_reducible refine Below.drew ?_) | (with_reducible refine Below.setCell ?_ ?_ _) | go_size))⟩
end Go.Proofs.Ythanmbfelihkfaa
