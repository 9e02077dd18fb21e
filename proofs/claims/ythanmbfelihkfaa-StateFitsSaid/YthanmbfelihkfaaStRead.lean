/- Layer 23: whether a place is one, and what stands there. -/
import Derived.Test.YthanmbfelihkfaaStRep
namespace Go.Proofs.Ythanmbfelihkfaa
open Go.RowKit
set_option linter.unusedSimpArgs false
set_option linter.unusedVariables false
/-- the four cells of a state in memory -/
def C4 (W : World) (g : Nat) (x y z u : Value) : Prop := W.cell? ⟨g, 0, none⟩ = some x ∧ W.cell? ⟨g, 1, none⟩ = some y ∧ W.cell? ⟨g, 2, none⟩ = some z ∧ W.cell? ⟨g, 3, none⟩ = some u
theorem C4.new (W : World) (x y z u : Value) (t : TypeId) {W' : World} (h : Below (W.heap.size + 1) (W.alloc (.cells #[x, y, z, u] t)) W') : C4 W' W.heap.size x y z u :=
  ⟨(h.cell (by simp)).trans (by rw [cell_at (by simp)]; rfl), (h.cell (by simp)).trans (by rw [cell_at (by simp)]; rfl), (h.cell (by simp)).trans (by rw [cell_at (by simp)]; rfl), (h.cell (by simp)).trans (by rw [cell_at (by simp)]; rfl)⟩
theorem C4.keep {W W' : World} {g : Nat} {x y z u : Value} (c : C4 W g x y z u) (hb : g < W.heap.size) (h : Below W.heap.size W W') : C4 W' g x y z u :=
  ⟨(h.cell (p := ⟨g, 0, none⟩) hb).trans c.1, (h.cell (p := ⟨g, 1, none⟩) hb).trans c.2.1, (h.cell (p := ⟨g, 2, none⟩) hb).trans c.2.2.1, (h.cell (p := ⟨g, 3, none⟩) hb).trans c.2.2.2⟩
def rowS (s : St) (i : Int) : List Int := s.vars.getD i.toNat []
def hasS (s : St) (i k : Int) : Bool := decide (0 ≤ i ∧ i < s.vars.length ∧ 0 ≤ k ∧ k < (rowS s i).length)
def valS (s : St) (i k : Int) : Int := (rowS s i).getD k.toNat 0
def readS (s : St) (i k : Int) : Int := if hasS s i k then valS s i k else 0
theorem readS_yes {s : St} {i k : Int} (h : hasS s i k = true) : readS s i k = valS s i k := if_pos h
theorem readS_no {s : St} {i k : Int} (h : hasS s i k = false) : readS s i k = 0 := by unfold readS; rw [h]; exact if_neg (by decide)
set_option maxHeartbeats 2000000 in
theorem state_has (v b : Value) (s : St) (i k : Int) (w : World) (h : StAt w v b s) : Calls Try.prog 27 #[.agg #[v, b, .int .i64 s.now, .int .i64 s.fault], .int .i64 i, .int .i64 k] w fun e w' => e = .returned (.bool (hasS s i k)) ∧ Below w.heap.size w w' := by
  have hvl := h.vs.len
  have hv := h.vs
  obtain ⟨sa, ca, rfl⟩ := row_get h.vs
  have HD := Lib.hid (show hasS s i k = decide (0 ≤ i ∧ i < s.vars.length ∧ 0 ≤ k ∧ k < (rowS s i).length) from rfl)
  by_cases h1 : 0 ≤ i
  · by_cases h2 : i < s.vars.length
    · obtain ⟨n, rfl⟩ := Int.eq_ofNat_of_zero_le h1
      obtain ⟨bk, off, rfl, hbw, hc⟩ := rows_at hv (k := n) (by omega)
      obtain ⟨l, hx⟩ : ∃ l, s.vars[n]? = some l := ⟨s.vars[n]'(by omega), by simp [show n < s.vars.length by omega]⟩
      obtain ⟨u, c0, hu⟩ := hc n l hx
      have hll := hu.len
      obtain ⟨su, cu, rfl⟩ := row_get hu
      have hl : rowS s n = l := by unfold rowS; simp [List.getD, hx]
      rw [hl] at HD
      clear hc hx hu hl h hv
      by_cases h3 : 0 ≤ k
      · by_cases h4 : k < l.length
        · have hs := Lib.hid (HD.out.trans (decide_eq_true ⟨h1, h2, h3, h4⟩))
          generalize l.length = nl at *
          generalize s.vars.length = NL at *
          go_enter Try.func27, Try.ntmps27
          go_wp2_with fail
          go_ret
          exact ⟨by rw [hs.out]; rfl, by (repeat' (first | (with_reducible exact Below.refl _ _) | (with_reducible assumption) | (with_reducible refine below_drewN ?_ _) | (with_reducible refine Below.alloc ?_ ?_ _) | (with_reducible refine Below.drew ?_) | (with_reducible refine Below.setCell ?_ ?_ _) | go_size))⟩
        · have hs := Lib.hid (HD.out.trans (decide_eq_false (fun g => h4 g.2.2.2)))
          generalize l.length = nl at *
          generalize s.vars.length = NL at *
          go_enter Try.func27, Try.ntmps27
          go_wp2_with fail
          go_ret
          exact ⟨by rw [hs.out]; rfl, by (repeat' (first | (with_reducible exact Below.refl _ _) | (with_reducible assumption) | (with_reducible refine below_drewN ?_ _) | (with_reducible refine Below.alloc ?_ ?_ _) | (with_reducible refine Below.drew ?_) | (with_reducible refine Below.setCell ?_ ?_ _) | go_size))⟩
      · have hs := Lib.hid (HD.out.trans (decide_eq_false (fun g => h3 g.2.2.1)))
        generalize l.length = nl at *
        generalize s.vars.length = NL at *
        go_enter Try.func27, Try.ntmps27
        go_wp2_with fail
        go_ret
        exact ⟨by rw [hs.out]; rfl, by (repeat' (first | (with_reducible exact Below.refl _ _) | (with_reducible assumption) | (with_reducible refine below_drewN ?_ _) | (with_reducible refine Below.alloc ?_ ?_ _) | (with_reducible refine Below.drew ?_) | (with_reducible refine Below.setCell ?_ ?_ _) | go_size))⟩
    · have hs := Lib.hid (HD.out.trans (decide_eq_false (fun g => h2 g.2.1)))
      clear h hv
      generalize s.vars.length = NL at *
      go_enter Try.func27, Try.ntmps27
      go_wp2_with fail
      go_ret
      exact ⟨by rw [hs.out]; rfl, by (repeat' (first | (with_reducible exact Below.refl _ _) | (with_reducible assumption) | (with_reducible refine below_drewN ?_ _) | (with_reducible refine Below.alloc ?_ ?_ _) | (with_reducible refine Below.drew ?_) | (with_reducible refine Below.setCell ?_ ?_ _) | go_size))⟩
  · have hs := Lib.hid (HD.out.trans (decide_eq_false (fun g => h1 g.1)))
    clear h hv
    generalize s.vars.length = NL at *
    go_enter Try.func27, Try.ntmps27
    go_wp2_with fail
    go_ret
    exact ⟨by rw [hs.out]; rfl, by (repeat' (first | (with_reducible exact Below.refl _ _) | (with_reducible assumption) | (with_reducible refine below_drewN ?_ _) | (with_reducible refine Below.alloc ?_ ?_ _) | (with_reducible refine Below.drew ?_) | (with_reducible refine Below.setCell ?_ ?_ _) | go_size))⟩
theorem hasS_at {s : St} {i k : Int} (h : hasS s i k = true) : ∃ n m : Nat, i = n ∧ k = m ∧ ∃ l z, s.vars[n]? = some l ∧ l[m]? = some z ∧ valS s i k = z := by
  obtain ⟨h1, h2, h3, h4⟩ : 0 ≤ i ∧ i < s.vars.length ∧ 0 ≤ k ∧ k < (rowS s i).length := of_decide_eq_true h
  obtain ⟨n, rfl⟩ := Int.eq_ofNat_of_zero_le h1
  obtain ⟨m, rfl⟩ := Int.eq_ofNat_of_zero_le h3
  have hx : s.vars[n]? = some (s.vars[n]'(by omega)) := by simp [show n < s.vars.length by omega]
  have hl : rowS s n = s.vars[n]'(by omega) := by unfold rowS; simp [List.getD, hx]
  rw [hl] at h4
  refine ⟨n, m, rfl, rfl, _, (s.vars[n]'(by omega))[m]'(by omega), hx, by simp [show m < (s.vars[n]'(by omega)).length by omega], ?_⟩
  unfold valS
  rw [hl]
  simp [List.getD, show m < (s.vars[n]'(by omega)).length by omega]
set_option maxHeartbeats 2000000 in
theorem state_Read (v b : Value) (s : St) (i k : Int) (w : World) (h : StAt w v b s) : Calls Try.prog 17 #[.agg #[v, b, .int .i64 s.now, .int .i64 s.fault], .int .i64 i, .int .i64 k] w fun e w' => e = .returned (.tuple #[.int .i64 (readS s i k), .bool (hasS s i k)]) ∧ Below w.heap.size w w' := by
  have hH := fun W (hb : Below w.heap.size w W) => state_has v b s i k W (h.below hb)
  cases hh : hasS s i k
  · rw [hh] at hH
    have hr := Lib.hid (readS_no hh)
    go_enter Try.func17, Try.ntmps17
    go_wp2_with fail
    refine (hH _ (by (repeat' (first | (with_reducible exact Below.refl _ _) | (with_reducible assumption) | (with_reducible refine below_drewN ?_ _) | (with_reducible refine Below.alloc ?_ ?_ _) | (with_reducible refine Below.drew ?_) | (with_reducible refine Below.setCell ?_ ?_ _) | go_size)))).mono ?_; rintro e W1 ⟨rfl, hb1⟩
    have hB : Below w.heap.size w W1 := Below.trans (by (repeat' (first | (with_reducible exact Below.refl _ _) | (with_reducible assumption) | (with_reducible refine below_drewN ?_ _) | (with_reducible refine Below.alloc ?_ ?_ _) | (with_reducible refine Below.drew ?_) | (with_reducible refine Below.setCell ?_ ?_ _) | go_size))) (hb1.mono (by simp))
    go_wp2_with fail
    go_returns
    exact ⟨by rw [hr.out]; rfl, hB⟩
  · rw [hh] at hH
    have hr := Lib.hid (readS_yes hh)
    obtain ⟨n, m, rfl, rfl, l, z, hx, hy, hz⟩ := hasS_at hh
    rw [hz] at hr
    have hn : n < s.vars.length := by
      by_cases g : n < s.vars.length
      · exact g
      · rw [List.getElem?_eq_none (by omega)] at hx; cases hx
    have hm : m < l.length := by
      by_cases g : m < l.length
      · exact g
      · rw [List.getElem?_eq_none (by omega)] at hy; cases hy
    have hvl := h.vs.len
    have hv := h.vs
    obtain ⟨sa, ca, rfl⟩ := row_get h.vs
    obtain ⟨bk, off, rfl, hbw, hc⟩ := rows_at hv hn
    obtain ⟨u, c0, hu⟩ := hc n l hx
    have hll := hu.len
    obtain ⟨su, cu, rfl⟩ := row_get hu
    obtain ⟨bq, offq, rfl, hbq, hcq⟩ := ints_at hu hm
    obtain ⟨d0, _⟩ := hcq m z hy
    clear hc hcq hx hy hu hv hz hh
    generalize l.length = nl at *
    generalize hNL : s.vars.length = NL at *
    go_enter Try.func17, Try.ntmps17
    go_wp2_with fail
    refine (hH _ (by (repeat' (first | (with_reducible exact Below.refl _ _) | (with_reducible assumption) | (with_reducible refine below_drewN ?_ _) | (with_reducible refine Below.alloc ?_ ?_ _) | (with_reducible refine Below.drew ?_) | (with_reducible refine Below.setCell ?_ ?_ _) | go_size)))).mono ?_; rintro e W1 ⟨rfl, hb1⟩
    obtain ⟨k0, k1, k2, k3⟩ := C4.new w _ _ _ _ _ (by simpa using hb1)
    have hB : Below w.heap.size w W1 := Below.trans (by (repeat' (first | (with_reducible exact Below.refl _ _) | (with_reducible assumption) | (with_reducible refine below_drewN ?_ _) | (with_reducible refine Below.alloc ?_ ?_ _) | (with_reducible refine Below.drew ?_) | (with_reducible refine Below.setCell ?_ ?_ _) | go_size))) (hb1.mono (by simp))
    have c0 := (hB.cell (p := ⟨bk, off + n, none⟩) hbw).trans c0
    have d0 := (hB.cell (p := ⟨bq, offq + m, none⟩) hbq).trans d0
    clear hb1 h
    go_wp2_with fail
    go_returns
    exact ⟨by rw [hr.out]; rfl, hB⟩
end Go.Proofs.Ythanmbfelihkfaa
