/- Merged texts: ExL, ExD, ExTy, NnC, NnE, NnF, NnU, NnD. -/
import Derived.Test.YtknbomikiakpmaaDoorMg0
import Derived.Deep.CutRange
import Derived.Deep.Cut
import Derived.BigRegion
import Derived.BigQuiet
/- expr.leaf, single, double: types by one step. -/
namespace Go.Proofs.YtknbomikiakpmaaDoor
open Go.RowKit
set_option linter.unusedSimpArgs false
set_option linter.unusedVariables false
theorem expr_in (n : Int) (k : Nat) (w : World) : Calls Tryd.prog 67 #[.int .i64 n, .int .i64 k] w fun r w' => r = .returned (.bool (inb n k)) ∧ w = w' := by
  by_cases h : 0 ≤ n
  · have p1 : (0 ≤ n) = True := eq_true h
    have hs := Lib.hid (show inb n k = decide (n < (k : Int)) by unfold inb; simp [h])
    clear h
    go_enter Tryd.func67, Tryd.ntmps67
    go_wp2_with fail
    go_ret
    exact ⟨by rw [hs.out]; rfl, rfl⟩
  · have p1 : (0 ≤ n) = False := eq_false h
    have hs := Lib.hid (show inb n k = false by unfold inb; simp [h])
    clear h
    go_enter Tryd.func67, Tryd.ntmps67
    go_wp2_with fail
    go_ret
    exact ⟨by rw [hs.out]; rfl, rfl⟩
theorem cap_row {α : Type} {q : Nat} {R : Rep α} {w : World} {a : Option Addr} {n c k : Nat} {L : List α} (h : RowR q R w (.slice a n c) L) (hk : k < n) : n ≤ c ∧ c ≤ 9223372036854775807 := by
  rcases h with ⟨_, _, h, _⟩ | ⟨_, _, _, h, _, h1, h2, _⟩
  · injection h with _ h _; omega
  · injection h with _ h h'; subst h h'; exact ⟨h1, h2⟩
theorem inb_yes {n : Int} {k : Nat} (h : inb n k = true) : ∃ i : Nat, n = (i : Int) ∧ i < k := by
  have := of_decide_eq_true h
  exact ⟨n.toNat, by omega, by omega⟩
set_option maxHeartbeats 4000000 in
theorem expr_leaf (a b c d : Value) (s : Sc) (e : Ex) (v : Value) (w : World) (hs : ScAt w a b d s) (hv : ExV w v e) (hT : BTab w) : Calls Tryd.prog 59 #[.agg #[a, b, c, d], v] w fun r w' => r = .returned (.int .i64 (leafT s e)) ∧ Below w.heap.size w w' := by
  obtain ⟨op, t, n, m, l⟩ := e
  obtain ⟨sl, rfl, _, _⟩ := hv
  have HS := Lib.hid (fun W (h : Below w.heap.size w W) => hs.below h)
  have HT := Lib.hid (fun W (h : Below w.heap.size w W) => hT.below h)
  obtain ⟨sa, ca, rfl⟩ := row_get hs.vs
  obtain ⟨sb, cb, rfl⟩ := row_get hs.bs
  obtain ⟨sd, cd, rfl⟩ := row_get hs.ss
  obtain ⟨NV, hNV⟩ : ∃ N, s.vars.length = N := ⟨_, rfl⟩
  obtain ⟨NB, hNB⟩ : ∃ N, s.blocks.length = N := ⟨_, rfl⟩
  obtain ⟨NS, hNS⟩ : ∃ N, s.slots.length = N := ⟨_, rfl⟩
  have HNV := Lib.hid hNV
  have HNB := Lib.hid hNB
  have HNS := Lib.hid hNS
  have hlv := hs.vs.len
  have hlb := hs.bs.len
  have hls := hs.ss.len
  simp only at HS ⊢
  rw [hNV, hNB, hNS] at HS
  rw [hNV] at hlv ⊢
  rw [hNB] at hlb ⊢
  rw [hNS] at hls ⊢
  clear hs hT hNV hNB hNS
  by_cases h1 : op = 1
  · subst h1
    by_cases h2 : m = 0
    · subst h2
      cases hk : kIn t n
      · have hI := kind_In t n
        rw [hk] at hI
        have hres := Lib.hid (show leafT s ⟨1, t, n, 0, l⟩ = 0 by unfold leafT; simp [hk])
        clear hk
        go_enter Tryd.func59, Tryd.ntmps59
        go_wp2_with fail
        refine (hI _).mono ?_; rintro r w2 ⟨rfl, rfl⟩
        go_wp2_with fail
        go_ret
        exact ⟨by rw [hres.out]; rfl, by (repeat' (first | (with_reducible exact Below.refl _ _) | (with_reducible assumption) | (with_reducible refine below_drewN ?_ _) | (with_reducible refine Below.alloc ?_ ?_ _) | (with_reducible refine Below.drew ?_) | (with_reducible refine Below.setCell ?_ ?_ _) | go_size))⟩
      · have hI := kind_In t n
        rw [hk] at hI
        have hres := Lib.hid (show leafT s ⟨1, t, n, 0, l⟩ = t by unfold leafT; simp [hk])
        clear hk
        go_enter Tryd.func59, Tryd.ntmps59
        go_wp2_with fail
        refine (hI _).mono ?_; rintro r w2 ⟨rfl, rfl⟩
        go_wp2_with fail
        go_ret
        exact ⟨by rw [hres.out]; rfl, by (repeat' (first | (with_reducible exact Below.refl _ _) | (with_reducible assumption) | (with_reducible refine below_drewN ?_ _) | (with_reducible refine Below.alloc ?_ ?_ _) | (with_reducible refine Below.drew ?_) | (with_reducible refine Below.setCell ?_ ?_ _) | go_size))⟩
    · have e2 : (m == 0) = false := by simpa using h2
      by_cases h3 : t = 0
      · subst h3
        have hres := Lib.hid (show leafT s ⟨1, 0, n, m, l⟩ = 0 by unfold leafT; simp [h2])
        have hK := kind_Right 0
        rw [show kRight 0 = false from rfl] at hK
        clear h2
        go_enter Tryd.func59, Tryd.ntmps59
        go_wp2_with fail
        refine (hK _).mono ?_; rintro r w2 ⟨rfl, rfl⟩
        go_wp2_with fail
        go_ret
        exact ⟨by rw [hres.out]; rfl, by (repeat' (first | (with_reducible exact Below.refl _ _) | (with_reducible assumption) | (with_reducible refine below_drewN ?_ _) | (with_reducible refine Below.alloc ?_ ?_ _) | (with_reducible refine Below.drew ?_) | (with_reducible refine Below.setCell ?_ ?_ _) | go_size))⟩
      · have e3 : (t != 0) = true := by simpa using h3
        have hres := Lib.hid (show leafT s ⟨1, t, n, m, l⟩ = 0 by unfold leafT; simp [h2, h3])
        clear h2 h3
        go_enter Tryd.func59, Tryd.ntmps59
        go_wp2_with fail
        go_ret
        exact ⟨by rw [hres.out]; rfl, by (repeat' (first | (with_reducible exact Below.refl _ _) | (with_reducible assumption) | (with_reducible refine below_drewN ?_ _) | (with_reducible refine Below.alloc ?_ ?_ _) | (with_reducible refine Below.drew ?_) | (with_reducible refine Below.setCell ?_ ?_ _) | go_size))⟩
  by_cases h3 : t = 0
  case neg =>
    have e1 : (op == 1) = false := by simpa using h1
    have e3 : (t != 0) = true := by simpa using h3
    have hres := Lib.hid (show leafT s ⟨op, t, n, m, l⟩ = 0 by unfold leafT; simp [h1, h3])
    clear h1 h3
    go_enter Tryd.func59, Tryd.ntmps59
    go_wp2_with fail
    go_ret
    exact ⟨by rw [hres.out]; rfl, by (repeat' (first | (with_reducible exact Below.refl _ _) | (with_reducible assumption) | (with_reducible refine below_drewN ?_ _) | (with_reducible refine Below.alloc ?_ ?_ _) | (with_reducible refine Below.drew ?_) | (with_reducible refine Below.setCell ?_ ?_ _) | go_size))⟩
  subst h3
  have hK0 := kind_Right 0
  rw [show kRight 0 = false from rfl] at hK0
  have HW := Lib.hid (show ∀ W, W = (w.alloc (.cells #[.slice sa NV ca, .slice sb NB cb, c, .slice sd NS cd] 43)).alloc (.cells #[.int .i64 op, .int .i64 0, .int .i64 n, .int .i64 m, sl] 37) → Below w.heap.size w W ∧ W.heap[w.heap.size]? = some (.cells #[.slice sa NV ca, .slice sb NB cb, c, .slice sd NS cd] 43) ∧ W.heap[w.heap.size + 1]? = some (.cells #[.int .i64 op, .int .i64 0, .int .i64 n, .int .i64 m, sl] 37) from by
    rintro W rfl
    refine ⟨by (repeat' (first | (with_reducible exact Below.refl _ _) | (with_reducible assumption) | (with_reducible refine below_drewN ?_ _) | (with_reducible refine Below.alloc ?_ ?_ _) | (with_reducible refine Below.drew ?_) | (with_reducible refine Below.setCell ?_ ?_ _) | go_size)), ?_, get_last (by simp)⟩
    rw [get_past (by simp)]; exact get_last rfl)
  by_cases h2 : op = 2
  · subst h2
    by_cases h4 : m = 0
    case neg =>
      have e4 : (m == 0) = false := by simpa using h4
      have hres := Lib.hid (show leafT s ⟨2, 0, n, m, l⟩ = 0 by unfold leafT; simp [h4])
      clear h1 h4
      go_enter Tryd.func59, Tryd.ntmps59
      go_wp2_with fail
      refine (hK0 _).mono ?_; rintro r w2 ⟨rfl, rfl⟩
      go_wp2_with fail
      go_ret
      exact ⟨by rw [hres.out]; rfl, by (repeat' (first | (with_reducible exact Below.refl _ _) | (with_reducible assumption) | (with_reducible refine below_drewN ?_ _) | (with_reducible refine Below.alloc ?_ ?_ _) | (with_reducible refine Below.drew ?_) | (with_reducible refine Below.setCell ?_ ?_ _) | go_size))⟩
    subst h4
    have hI := expr_in n NV
    cases hin : inb n NV
    · rw [hin] at hI
      have hres := Lib.hid (show leafT s ⟨2, 0, n, 0, l⟩ = 0 by unfold leafT; simp [HNV.out, hin])
      clear hin h1
      go_enter Tryd.func59, Tryd.ntmps59
      go_wp2_with fail
      refine (hI _).mono ?_; rintro r w2 ⟨rfl, rfl⟩
      go_wp2_with fail
      refine (hK0 _).mono ?_; rintro r w2 ⟨rfl, rfl⟩
      go_wp2_with fail
      go_ret
      exact ⟨by rw [hres.out]; rfl, by (repeat' (first | (with_reducible exact Below.refl _ _) | (with_reducible assumption) | (with_reducible refine below_drewN ?_ _) | (with_reducible refine Below.alloc ?_ ?_ _) | (with_reducible refine Below.drew ?_) | (with_reducible refine Below.setCell ?_ ?_ _) | go_size))⟩
    rw [hin] at hI
    obtain ⟨k, rfl, hk⟩ := inb_yes hin
    obtain ⟨hbW, ho0, ho1⟩ := HW.out _ rfl
    obtain ⟨x, hx⟩ := get_some (L := s.vars) (n := k) (by rw [HNV.out]; exact hk)
    obtain ⟨b, off, rfl, hbw, hc⟩ := var_at (HS.out w (Below.refl _ _)).vs (k := k) (by rw [HNV.out]; exact hk)
    obtain ⟨_, d1, d2, _, _, _⟩ := hc k x hx
    have d1 := (hbW.cell (p := ⟨b, off + k * 5 + 1, none⟩) hbw).trans d1
    have d2 := (hbW.cell (p := ⟨b, off + k * 5 + 2, none⟩) hbw).trans d2
    have hxv : s.v (k : Int) = x := by unfold Sc.v; simp [List.getD, hx]
    have qk : (k : Int) < (NV : Int) := by omega
    have hcap := cap_row (HS.out w (Below.refl _ _)).vs hk
    by_cases h5 : x.n < 2
    · have e5 : (x.n < 2) = True := eq_true h5
      have hres := Lib.hid (show leafT s ⟨2, 0, (k : Int), 0, l⟩ = keepR x.t by unfold leafT; simp [HNV.out, hin, hxv, h5])
      have hK := kind_Right x.t
      clear hin h1 hc hx h5 hxv hk hbW ho0 ho1
      generalize x.n = xn at *
      generalize x.t = xt at *
      cases hkr : kRight xt
      · rw [hkr] at hK
        have hres := Lib.hid (show leafT s ⟨2, 0, (k : Int), 0, l⟩ = 0 by rw [hres.out]; unfold keepR; rw [hkr]; rfl)
        clear hkr
        go_enter Tryd.func59, Tryd.ntmps59
        go_wp2_with fail
        refine (hI _).mono ?_; rintro r w2 ⟨rfl, rfl⟩
        go_wp2_with fail
        refine (hK _).mono ?_; rintro r w2 ⟨rfl, rfl⟩
        go_wp2_with fail
        go_ret
        exact ⟨by rw [hres.out]; rfl, by (repeat' (first | (with_reducible exact Below.refl _ _) | (with_reducible assumption) | (with_reducible refine below_drewN ?_ _) | (with_reducible refine Below.alloc ?_ ?_ _) | (with_reducible refine Below.drew ?_) | (with_reducible refine Below.setCell ?_ ?_ _) | go_size))⟩
      · rw [hkr] at hK
        have hres := Lib.hid (show leafT s ⟨2, 0, (k : Int), 0, l⟩ = xt by rw [hres.out]; unfold keepR; rw [hkr]; rfl)
        clear hkr
        go_enter Tryd.func59, Tryd.ntmps59
        go_wp2_with fail
        refine (hI _).mono ?_; rintro r w2 ⟨rfl, rfl⟩
        go_wp2_with fail
        refine (hK _).mono ?_; rintro r w2 ⟨rfl, rfl⟩
        go_wp2_with fail
        go_ret
        exact ⟨by rw [hres.out]; rfl, by (repeat' (first | (with_reducible exact Below.refl _ _) | (with_reducible assumption) | (with_reducible refine below_drewN ?_ _) | (with_reducible refine Below.alloc ?_ ?_ _) | (with_reducible refine Below.drew ?_) | (with_reducible refine Below.setCell ?_ ?_ _) | go_size))⟩
    · have e5 : (x.n < 2) = False := eq_false h5
      have hres := Lib.hid (show leafT s ⟨2, 0, (k : Int), 0, l⟩ = 0 by unfold leafT; simp [HNV.out, hin, hxv, h5])
      clear hin h1 hc hx h5 hxv hk hbW ho0 ho1
      generalize x.n = xn at *
      go_enter Tryd.func59, Tryd.ntmps59
      go_wp2_with fail
      refine (hI _).mono ?_; rintro r w2 ⟨rfl, rfl⟩
      go_wp2_with fail
      refine (hK0 _).mono ?_; rintro r w2 ⟨rfl, rfl⟩
      go_wp2_with fail
      go_ret
      exact ⟨by rw [hres.out]; rfl, by (repeat' (first | (with_reducible exact Below.refl _ _) | (with_reducible assumption) | (with_reducible refine below_drewN ?_ _) | (with_reducible refine Below.alloc ?_ ?_ _) | (with_reducible refine Below.drew ?_) | (with_reducible refine Below.setCell ?_ ?_ _) | go_size))⟩
  by_cases h3 : op = 3
  · subst h3
    by_cases h4 : m = 0
    case neg =>
      have e4 : (m == 0) = false := by simpa using h4
      have hres := Lib.hid (show leafT s ⟨3, 0, n, m, l⟩ = 0 by unfold leafT; simp [h4])
      clear h1 h2 h4
      go_enter Tryd.func59, Tryd.ntmps59
      go_wp2_with fail
      refine (hK0 _).mono ?_; rintro r w2 ⟨rfl, rfl⟩
      go_wp2_with fail
      go_ret
      exact ⟨by rw [hres.out]; rfl, by (repeat' (first | (with_reducible exact Below.refl _ _) | (with_reducible assumption) | (with_reducible refine below_drewN ?_ _) | (with_reducible refine Below.alloc ?_ ?_ _) | (with_reducible refine Below.drew ?_) | (with_reducible refine Below.setCell ?_ ?_ _) | go_size))⟩
    subst h4
    have hI := expr_in n NS
    cases hin : inb n NS
    · rw [hin] at hI
      have hres := Lib.hid (show leafT s ⟨3, 0, n, 0, l⟩ = 0 by unfold leafT; simp [HNS.out, hin])
      clear hin h1 h2
      go_enter Tryd.func59, Tryd.ntmps59
      go_wp2_with fail
      refine (hI _).mono ?_; rintro r w2 ⟨rfl, rfl⟩
      go_wp2_with fail
      refine (hK0 _).mono ?_; rintro r w2 ⟨rfl, rfl⟩
      go_wp2_with fail
      go_ret
      exact ⟨by rw [hres.out]; rfl, by (repeat' (first | (with_reducible exact Below.refl _ _) | (with_reducible assumption) | (with_reducible refine below_drewN ?_ _) | (with_reducible refine Below.alloc ?_ ?_ _) | (with_reducible refine Below.drew ?_) | (with_reducible refine Below.setCell ?_ ?_ _) | go_size))⟩
    rw [hin] at hI
    obtain ⟨k, rfl, hk⟩ := inb_yes hin
    obtain ⟨hbW, ho0, ho1⟩ := HW.out _ rfl
    obtain ⟨x, hx⟩ := get_some (L := s.slots) (n := k) (by rw [HNS.out]; exact hk)
    obtain ⟨b, off, rfl, hbw, hc⟩ := ints_at (HS.out w (Below.refl _ _)).ss (k := k) (by rw [HNS.out]; exact hk)
    have d1 := (hc k x hx).1
    have d1 := (hbW.cell (p := ⟨b, off + k, none⟩) hbw).trans d1
    have hxv : s.s (k : Int) = x := by unfold Sc.s; simp [List.getD, hx]
    have qk : (k : Int) < (NS : Int) := by omega
    have hcap := cap_row (HS.out w (Below.refl _ _)).ss hk
    have hres := Lib.hid (show leafT s ⟨3, 0, (k : Int), 0, l⟩ = keepR x by unfold leafT; simp [HNS.out, hin, hxv])
    have hK := kind_Right x
    clear hin h1 h2 hc hx hxv hk hbW ho0 ho1
    cases hkr : kRight x
    · rw [hkr] at hK
      have hres := Lib.hid (show leafT s ⟨3, 0, (k : Int), 0, l⟩ = 0 by rw [hres.out]; unfold keepR; rw [hkr]; rfl)
      clear hkr
      go_enter Tryd.func59, Tryd.ntmps59
      go_wp2_with fail
      refine (hI _).mono ?_; rintro r w2 ⟨rfl, rfl⟩
      go_wp2_with fail
      refine (hK _).mono ?_; rintro r w2 ⟨rfl, rfl⟩
      go_wp2_with fail
      go_ret
      exact ⟨by rw [hres.out]; rfl, by (repeat' (first | (with_reducible exact Below.refl _ _) | (with_reducible assumption) | (with_reducible refine below_drewN ?_ _) | (with_reducible refine Below.alloc ?_ ?_ _) | (with_reducible refine Below.drew ?_) | (with_reducible refine Below.setCell ?_ ?_ _) | go_size))⟩
    · rw [hkr] at hK
      have hres := Lib.hid (show leafT s ⟨3, 0, (k : Int), 0, l⟩ = x by rw [hres.out]; unfold keepR; rw [hkr]; rfl)
      clear hkr
      go_enter Tryd.func59, Tryd.ntmps59
      go_wp2_with fail
      refine (hI _).mono ?_; rintro r w2 ⟨rfl, rfl⟩
      go_wp2_with fail
      refine (hK _).mono ?_; rintro r w2 ⟨rfl, rfl⟩
      go_wp2_with fail
      go_ret
      exact ⟨by rw [hres.out]; rfl, by (repeat' (first | (with_reducible exact Below.refl _ _) | (with_reducible assumption) | (with_reducible refine below_drewN ?_ _) | (with_reducible refine Below.alloc ?_ ?_ _) | (with_reducible refine Below.drew ?_) | (with_reducible refine Below.setCell ?_ ?_ _) | go_size))⟩
  by_cases h5 : op = 5
  · subst h5
    have hI := expr_in n NB
    cases hin : inb n NB
    · rw [hin] at hI
      have hres := Lib.hid (show leafT s ⟨5, 0, n, m, l⟩ = 0 by unfold leafT; simp [HNB.out, hin])
      clear hin h1 h2 h3
      go_enter Tryd.func59, Tryd.ntmps59
      go_wp2_with fail
      refine (hI _).mono ?_; rintro r w2 ⟨rfl, rfl⟩
      go_wp2_with fail
      refine (hK0 _).mono ?_; rintro r w2 ⟨rfl, rfl⟩
      go_wp2_with fail
      go_ret
      exact ⟨by rw [hres.out]; rfl, by (repeat' (first | (with_reducible exact Below.refl _ _) | (with_reducible assumption) | (with_reducible refine below_drewN ?_ _) | (with_reducible refine Below.alloc ?_ ?_ _) | (with_reducible refine Below.drew ?_) | (with_reducible refine Below.setCell ?_ ?_ _) | go_size))⟩
    rw [hin] at hI
    obtain ⟨k, rfl, hk⟩ := inb_yes hin
    obtain ⟨W0, hW0⟩ : ∃ W0, W0 = (w.alloc (.cells #[.slice sa NV ca, .slice sb NB cb, c, .slice sd NS cd] 43)).alloc (.cells #[.int .i64 5, .int .i64 0, .int .i64 (k : Int), .int .i64 m, sl] 37) := ⟨_, rfl⟩
    obtain ⟨hbW, ho0, ho1⟩ := HW.out W0 hW0
    obtain ⟨x, hx⟩ := get_some (L := s.blocks) (n := k) (by rw [HNB.out]; exact hk)
    obtain ⟨b, off, rfl, hbw, hc⟩ := blk_at (HS.out w (Below.refl _ _)).bs (k := k) (by rw [HNB.out]; exact hk)
    obtain ⟨_, d1, _⟩ := hc k x hx
    have d1 := (hbW.cell (p := ⟨b, off + k * 2 + 1, none⟩) hbw).trans d1
    have zb : b < W0.heap.size := Nat.lt_of_lt_of_le hbw hbW.size
    have hxv : s.b (k : Int) = x := by unfold Sc.b; simp [List.getD, hx]
    have qk : (k : Int) < (NB : Int) := by omega
    have hcap := cap_row (HS.out w (Below.refl _ _)).bs hk
    have c01 : W0.cell? ⟨w.heap.size, 1, none⟩ = some (.slice (some ⟨b, off, none⟩) NB cb) := obj_cell ho0 (i := 1) rfl
    have c12 : W0.cell? ⟨w.heap.size + 1, 2, none⟩ = some (.int .i64 (k : Int)) := obj_cell ho1 (i := 2) rfl
    have c13 : W0.cell? ⟨w.heap.size + 1, 3, none⟩ = some (.int .i64 m) := obj_cell ho1 (i := 3) rfl
    have z0 := heap_lt ho0
    have z1 := heap_lt ho1
    have hres := Lib.hid (show leafT s ⟨5, 0, (k : Int), m, l⟩ = keepR (fldT x.kind m) by unfold leafT; simp [HNB.out, hin, hxv])
    have HF := Lib.hid (fun W (h : Below W0.heap.size W0 W) => block_Field x.kind m W (HT.out W (hbW.trans (h.mono hbW.size))))
    generalize x.kind = xk at *
    generalize fldS xk m = fs at *
    generalize fldT xk m = T at *
    have hK := kind_Right T
    have HB0 := Lib.hid hbW
    have HW0 := Lib.hid hW0
    clear hin h1 h2 h3 hc hx hxv hk hbW ho0 ho1 hW0
    cases hkr : kRight T
    all_goals (
      rw [hkr] at hK
      have hres := Lib.hid (hres.out.trans (show keepR T = if kRight T then T else 0 from rfl))
      rw [hkr] at hres
      clear hkr
      go_enter Tryd.func59, Tryd.ntmps59
      go_wp2_with fail
      rw [← HW0.out]
      refine (hI _).mono ?_; rintro r w2 ⟨rfl, rfl⟩
      go_upto_region 13 with fail
      try rw [← HW0.out]
      have qq0 := fun wt (h : Below W0.heap.size W0 wt) => cellB h c01 z0
      have qq1 := fun wt (h : Below W0.heap.size W0 wt) => cellB h c12 z1
      have qq2 := fun wt (h : Below W0.heap.size W0 wt) => cellB h c13 z1
      have qq3 := fun wt (h : Below W0.heap.size W0 wt) => cellB h d1 zb
      refine wp_region_held_drew (S := (fun w' => Below W0.heap.size W0 w')) (by kernel_rfl) ?_ (fun hHeld => ?_)
      · (try dsimp only); first | assumption | exact Below.alloc hHeld hHeld.size _ | exact (Below.refl _ _).drew | exact Below.drew (Below.refl _ _) | exact Below_drewN _ _ _ | exact Below.refl _ _
      refine tk 0 (v := ?_) (hy := ?_) (h := ?_); rotate_left
      · intro _ _; go_simp <;> with_reducible rfl
      try simp only [pu, pa, pz, ps]
      refine tk 1 (v := ?_) (hy := ?_) (h := ?_); rotate_left
      · intro wt hSw; (try dsimp only at hSw); go_simp <;> with_reducible rfl
      try simp only [pu, pa, pz, ps]
      refine tk 2 (v := ?_) (hy := ?_) (h := ?_); rotate_left
      · intro _ _; go_simp <;> with_reducible rfl
      try simp only [pu, pa, pz, ps]
      refine tk 3 (v := ?_) (hy := ?_) (h := ?_); rotate_left
      · intro wt hSw; (try dsimp only at hSw); go_simp <;> with_reducible rfl
      try simp only [pu, pa, pz, ps]
      refine tk 4 (v := ?_) (hy := ?_) (h := ?_); rotate_left
      · intro _ _; go_simp <;> with_reducible rfl
      try simp only [pu, pa, pz, ps]
      refine tk 5 (v := ?_) (hy := ?_) (h := ?_); rotate_left
      · intro _ _; go_simp <;> with_reducible rfl
      try simp only [pu, pa, pz, ps]
      refine tk 6 (v := ?_) (hy := ?_) (h := ?_); rotate_left
      · intro wt hSw; (try dsimp only at hSw); go_simp <;> with_reducible rfl
      try simp only [pu, pa, pz, ps]
      refine tk 7 (v := ?_) (hy := ?_) (h := ?_); rotate_left
      · intro _ _; go_simp <;> with_reducible rfl
      try simp only [pu, pa, pz, ps]
      refine tk 8 (v := ?_) (hy := ?_) (h := ?_); rotate_left
      · intro wt hSw; (try dsimp only at hSw); go_simp <;> with_reducible rfl
      try simp only [pu, pa, pz, ps]
      refine wpAnyH_ready (rs := [9]) (by kernel_rfl) (by simp) ?_
      refine AllReadyH.cons (o := ⟨_, _, _, _, _, _⟩) rfl (fun K hK => ?_) AllReadyH.nil
      go_simp
      refine (HF.out _ hHeld).mono ?_; rintro r w2 ⟨rfl, hb⟩; have hHeld := hHeld.trans (hb.mono hHeld.size)
      go_wp2_with fail
      refine hK.out _ _ ?_ (fun hHeld => ?_)
      · (try dsimp only); first | assumption | exact Below.alloc hHeld hHeld.size _ | exact (Below.refl _ _).drew | exact Below.drew (Below.refl _ _) | exact Below_drewN _ _ _ | exact Below.refl _ _
      clear hK K
      try simp only [pu, pa, pz, ps]
      refine tk 10 (v := ?_) (hy := ?_) (h := ?_); rotate_left
      · intro _ _; go_simp <;> with_reducible rfl
      try simp only [pu, pa, pz, ps]
      refine tk 11 (v := ?_) (hy := ?_) (h := ?_); rotate_left
      · intro _ _; go_simp <;> with_reducible rfl
      try simp only [pu, pa, pz, ps]
      refine tk 12 (v := ?_) (hy := ?_) (h := ?_); rotate_left
      · intro _ _; go_simp <;> with_reducible rfl
      try simp only [pu, pa, pz, ps]
      refine tk 13 (v := ?_) (hy := ?_) (h := ?_); rotate_left
      · intro _ _; go_simp <;> with_reducible rfl
      try simp only [pu, pa, pz, ps]
      refine wpAnyH_done (by kernel_rfl) ?_ _
      have HHw := Lib.hid (HB0.out.trans (hHeld.mono HB0.out.size))
      clear hHeld
      go_wp2_with fail
      refine (hK _).mono ?_; rintro r w3 ⟨rfl, rfl⟩
      go_wp2_with fail
      go_ret
      exact ⟨by rw [hres.out]; rfl, HHw.out⟩)
  · have e1 : (op == 1) = false := by simpa using h1
    have e2 : (op == 2) = false := by simpa using h2
    have e3 : (op == 3) = false := by simpa using h3
    have e5 : (op == 5) = false := by simpa using h5
    have hres := Lib.hid (show leafT s ⟨op, 0, n, m, l⟩ = 0 by unfold leafT; simp [h1, h2, h3, h5])
    clear h1 h2 h3 h5
    go_enter Tryd.func59, Tryd.ntmps59
    go_wp2_with fail
    refine (hK0 _).mono ?_; rintro r w2 ⟨rfl, rfl⟩
    go_wp2_with fail
    go_ret
    exact ⟨by rw [hres.out]; rfl, by (repeat' (first | (with_reducible exact Below.refl _ _) | (with_reducible assumption) | (with_reducible refine below_drewN ?_ _) | (with_reducible refine Below.alloc ?_ ?_ _) | (with_reducible refine Below.drew ?_) | (with_reducible refine Below.setCell ?_ ?_ _) | go_size))⟩
end Go.Proofs.YtknbomikiakpmaaDoor
/- expr.double, expr.single. -/
namespace Go.Proofs.YtknbomikiakpmaaDoor
open Go.RowKit
set_option linter.unusedSimpArgs false
set_option linter.unusedVariables false
set_option maxHeartbeats 4000000 in
theorem expr_double (e : Ex) (v : Value) (a b : Int) (w : World) (hv : ExV w v e) (hg : AGoes w) : Calls Tryd.prog 61 #[v, .int .i64 a, .int .i64 b] w fun r w' => r = .returned (.int .i64 (doubleT e a b)) ∧ Below w.heap.size w w' := by
  obtain ⟨op, t, n, m, l⟩ := e
  obtain ⟨sl, rfl, _, _⟩ := hv
  have HG := Lib.hid (fun W (h : Below w.heap.size w W) => hg.below h)
  have hB := alu_Binary m
  have hR := Lib.hid (fun W (h : Below w.heap.size w W) => alu_Result m a W (HG.out W h))
  simp only at ⊢
  clear hg
  by_cases hm18 : m = 18
  · subst hm18
    have hm : True := trivial
    by_cases h7 : op = 7
    case neg =>
      have e7 : (op != 7) = true := by simpa using h7
      have hres := Lib.hid (show doubleT ⟨op, t, n, 18, l⟩ a b = 0 by unfold doubleT; simp [h7])
      go_enter Tryd.func61, Tryd.ntmps61
      go_wp2_with fail
      go_ret
      exact ⟨by rw [hres.out]; rfl, by (repeat' (first | (with_reducible exact Below.refl _ _) | (with_reducible assumption) | (with_reducible refine below_drewN ?_ _) | (with_reducible refine Below.alloc ?_ ?_ _) | (with_reducible refine Below.drew ?_) | (with_reducible refine Below.setCell ?_ ?_ _) | go_size))⟩
    subst h7
    by_cases h3 : t = 0
    case neg =>
      have e3 : (t != 0) = true := by simpa using h3
      have hres := Lib.hid (show doubleT ⟨7, t, n, 18, l⟩ a b = 0 by unfold doubleT; simp [h3])
      go_enter Tryd.func61, Tryd.ntmps61
      go_wp2_with fail
      go_ret
      exact ⟨by rw [hres.out]; rfl, by (repeat' (first | (with_reducible exact Below.refl _ _) | (with_reducible assumption) | (with_reducible refine below_drewN ?_ _) | (with_reducible refine Below.alloc ?_ ?_ _) | (with_reducible refine Below.drew ?_) | (with_reducible refine Below.setCell ?_ ?_ _) | go_size))⟩
    subst h3
    by_cases h4 : n = 0
    case neg =>
      have e4 : (n != 0) = true := by simpa using h4
      have hres := Lib.hid (show doubleT ⟨7, 0, n, 18, l⟩ a b = 0 by unfold doubleT; simp [h4])
      go_enter Tryd.func61, Tryd.ntmps61
      go_wp2_with fail
      go_ret
      exact ⟨by rw [hres.out]; rfl, by (repeat' (first | (with_reducible exact Below.refl _ _) | (with_reducible assumption) | (with_reducible refine below_drewN ?_ _) | (with_reducible refine Below.alloc ?_ ?_ _) | (with_reducible refine Below.drew ?_) | (with_reducible refine Below.setCell ?_ ?_ _) | go_size))⟩
    subst h4
    cases hb : aBinary 18
    · rw [hb] at hB
      have hres := Lib.hid (show doubleT ⟨7, 0, 0, 18, l⟩ a b = 0 by unfold doubleT; simp [hb])
      go_enter Tryd.func61, Tryd.ntmps61
      go_wp2_with fail
      refine (hB _).mono ?_; rintro r w2 ⟨rfl, rfl⟩
      go_wp2_with fail
      go_ret
      exact ⟨by rw [hres.out]; rfl, by (repeat' (first | (with_reducible exact Below.refl _ _) | (with_reducible assumption) | (with_reducible refine below_drewN ?_ _) | (with_reducible refine Below.alloc ?_ ?_ _) | (with_reducible refine Below.drew ?_) | (with_reducible refine Below.setCell ?_ ?_ _) | go_size))⟩
    · rw [hb] at hB
      by_cases hx : b = 2
      case neg =>
        have ex : (b != 2) = true := by simpa using hx
        have hres := Lib.hid (show doubleT ⟨7, 0, 0, 18, l⟩ a b = 0 by unfold doubleT; simp [hb, hx, hm])
        go_enter Tryd.func61, Tryd.ntmps61
        go_wp2_with fail
        refine (hB _).mono ?_; rintro r w2 ⟨rfl, rfl⟩
        go_wp2_with fail
        go_ret
        exact ⟨by rw [hres.out]; rfl, by (repeat' (first | (with_reducible exact Below.refl _ _) | (with_reducible assumption) | (with_reducible refine below_drewN ?_ _) | (with_reducible refine Below.alloc ?_ ?_ _) | (with_reducible refine Below.drew ?_) | (with_reducible refine Below.setCell ?_ ?_ _) | go_size))⟩
      subst hx
      have hres := Lib.hid (show doubleT ⟨7, 0, 0, 18, l⟩ a 2 = aResult 18 a by unfold doubleT; simp [hb, hm])
      generalize aResult 18 a = R at *
      go_enter Tryd.func61, Tryd.ntmps61
      go_wp2_with fail
      refine (hB _).mono ?_; rintro r w2 ⟨rfl, rfl⟩
      go_wp2_with fail
      refine (hR.out _ (by (repeat' (first | (with_reducible exact Below.refl _ _) | (with_reducible assumption) | (with_reducible refine below_drewN ?_ _) | (with_reducible refine Below.alloc ?_ ?_ _) | (with_reducible refine Below.drew ?_) | (with_reducible refine Below.setCell ?_ ?_ _) | go_size)))).mono ?_; rintro r w2 ⟨rfl, rfl⟩
      go_wp2_with fail
      go_ret
      exact ⟨by rw [hres.out]; rfl, by (repeat' (first | (with_reducible exact Below.refl _ _) | (with_reducible assumption) | (with_reducible refine below_drewN ?_ _) | (with_reducible refine Below.alloc ?_ ?_ _) | (with_reducible refine Below.drew ?_) | (with_reducible refine Below.setCell ?_ ?_ _) | go_size))⟩
  by_cases hm19 : m = 19
  · subst hm19
    have hm : True := trivial
    by_cases h7 : op = 7
    case neg =>
      have e7 : (op != 7) = true := by simpa using h7
      have hres := Lib.hid (show doubleT ⟨op, t, n, 19, l⟩ a b = 0 by unfold doubleT; simp [h7])
      go_enter Tryd.func61, Tryd.ntmps61
      go_wp2_with fail
      go_ret
      exact ⟨by rw [hres.out]; rfl, by (repeat' (first | (with_reducible exact Below.refl _ _) | (with_reducible assumption) | (with_reducible refine below_drewN ?_ _) | (with_reducible refine Below.alloc ?_ ?_ _) | (with_reducible refine Below.drew ?_) | (with_reducible refine Below.setCell ?_ ?_ _) | go_size))⟩
    subst h7
    by_cases h3 : t = 0
    case neg =>
      have e3 : (t != 0) = true := by simpa using h3
      have hres := Lib.hid (show doubleT ⟨7, t, n, 19, l⟩ a b = 0 by unfold doubleT; simp [h3])
      go_enter Tryd.func61, Tryd.ntmps61
      go_wp2_with fail
      go_ret
      exact ⟨by rw [hres.out]; rfl, by (repeat' (first | (with_reducible exact Below.refl _ _) | (with_reducible assumption) | (with_reducible refine below_drewN ?_ _) | (with_reducible refine Below.alloc ?_ ?_ _) | (with_reducible refine Below.drew ?_) | (with_reducible refine Below.setCell ?_ ?_ _) | go_size))⟩
    subst h3
    by_cases h4 : n = 0
    case neg =>
      have e4 : (n != 0) = true := by simpa using h4
      have hres := Lib.hid (show doubleT ⟨7, 0, n, 19, l⟩ a b = 0 by unfold doubleT; simp [h4])
      go_enter Tryd.func61, Tryd.ntmps61
      go_wp2_with fail
      go_ret
      exact ⟨by rw [hres.out]; rfl, by (repeat' (first | (with_reducible exact Below.refl _ _) | (with_reducible assumption) | (with_reducible refine below_drewN ?_ _) | (with_reducible refine Below.alloc ?_ ?_ _) | (with_reducible refine Below.drew ?_) | (with_reducible refine Below.setCell ?_ ?_ _) | go_size))⟩
    subst h4
    cases hb : aBinary 19
    · rw [hb] at hB
      have hres := Lib.hid (show doubleT ⟨7, 0, 0, 19, l⟩ a b = 0 by unfold doubleT; simp [hb])
      go_enter Tryd.func61, Tryd.ntmps61
      go_wp2_with fail
      refine (hB _).mono ?_; rintro r w2 ⟨rfl, rfl⟩
      go_wp2_with fail
      go_ret
      exact ⟨by rw [hres.out]; rfl, by (repeat' (first | (with_reducible exact Below.refl _ _) | (with_reducible assumption) | (with_reducible refine below_drewN ?_ _) | (with_reducible refine Below.alloc ?_ ?_ _) | (with_reducible refine Below.drew ?_) | (with_reducible refine Below.setCell ?_ ?_ _) | go_size))⟩
    · rw [hb] at hB
      by_cases hx : b = 2
      case neg =>
        have ex : (b != 2) = true := by simpa using hx
        have hres := Lib.hid (show doubleT ⟨7, 0, 0, 19, l⟩ a b = 0 by unfold doubleT; simp [hb, hx, hm])
        go_enter Tryd.func61, Tryd.ntmps61
        go_wp2_with fail
        refine (hB _).mono ?_; rintro r w2 ⟨rfl, rfl⟩
        go_wp2_with fail
        go_ret
        exact ⟨by rw [hres.out]; rfl, by (repeat' (first | (with_reducible exact Below.refl _ _) | (with_reducible assumption) | (with_reducible refine below_drewN ?_ _) | (with_reducible refine Below.alloc ?_ ?_ _) | (with_reducible refine Below.drew ?_) | (with_reducible refine Below.setCell ?_ ?_ _) | go_size))⟩
      subst hx
      have hres := Lib.hid (show doubleT ⟨7, 0, 0, 19, l⟩ a 2 = aResult 19 a by unfold doubleT; simp [hb, hm])
      generalize aResult 19 a = R at *
      go_enter Tryd.func61, Tryd.ntmps61
      go_wp2_with fail
      refine (hB _).mono ?_; rintro r w2 ⟨rfl, rfl⟩
      go_wp2_with fail
      refine (hR.out _ (by (repeat' (first | (with_reducible exact Below.refl _ _) | (with_reducible assumption) | (with_reducible refine below_drewN ?_ _) | (with_reducible refine Below.alloc ?_ ?_ _) | (with_reducible refine Below.drew ?_) | (with_reducible refine Below.setCell ?_ ?_ _) | go_size)))).mono ?_; rintro r w2 ⟨rfl, rfl⟩
      go_wp2_with fail
      go_ret
      exact ⟨by rw [hres.out]; rfl, by (repeat' (first | (with_reducible exact Below.refl _ _) | (with_reducible assumption) | (with_reducible refine below_drewN ?_ _) | (with_reducible refine Below.alloc ?_ ?_ _) | (with_reducible refine Below.drew ?_) | (with_reducible refine Below.setCell ?_ ?_ _) | go_size))⟩
  have hm : ¬ (m = 18 ∨ m = 19) := by rintro (h | h); exact hm18 h; exact hm19 h
  have e18 : (m == 18) = false := by simpa using hm18
  have e19 : (m == 19) = false := by simpa using hm19
  clear hm18 hm19
  by_cases h7 : op = 7
  case neg =>
    have e7 : (op != 7) = true := by simpa using h7
    have hres := Lib.hid (show doubleT ⟨op, t, n, m, l⟩ a b = 0 by unfold doubleT; simp [h7])
    go_enter Tryd.func61, Tryd.ntmps61
    go_wp2_with fail
    go_ret
    exact ⟨by rw [hres.out]; rfl, by (repeat' (first | (with_reducible exact Below.refl _ _) | (with_reducible assumption) | (with_reducible refine below_drewN ?_ _) | (with_reducible refine Below.alloc ?_ ?_ _) | (with_reducible refine Below.drew ?_) | (with_reducible refine Below.setCell ?_ ?_ _) | go_size))⟩
  subst h7
  by_cases h3 : t = 0
  case neg =>
    have e3 : (t != 0) = true := by simpa using h3
    have hres := Lib.hid (show doubleT ⟨7, t, n, m, l⟩ a b = 0 by unfold doubleT; simp [h3])
    go_enter Tryd.func61, Tryd.ntmps61
    go_wp2_with fail
    go_ret
    exact ⟨by rw [hres.out]; rfl, by (repeat' (first | (with_reducible exact Below.refl _ _) | (with_reducible assumption) | (with_reducible refine below_drewN ?_ _) | (with_reducible refine Below.alloc ?_ ?_ _) | (with_reducible refine Below.drew ?_) | (with_reducible refine Below.setCell ?_ ?_ _) | go_size))⟩
  subst h3
  by_cases h4 : n = 0
  case neg =>
    have e4 : (n != 0) = true := by simpa using h4
    have hres := Lib.hid (show doubleT ⟨7, 0, n, m, l⟩ a b = 0 by unfold doubleT; simp [h4])
    go_enter Tryd.func61, Tryd.ntmps61
    go_wp2_with fail
    go_ret
    exact ⟨by rw [hres.out]; rfl, by (repeat' (first | (with_reducible exact Below.refl _ _) | (with_reducible assumption) | (with_reducible refine below_drewN ?_ _) | (with_reducible refine Below.alloc ?_ ?_ _) | (with_reducible refine Below.drew ?_) | (with_reducible refine Below.setCell ?_ ?_ _) | go_size))⟩
  subst h4
  cases hb : aBinary m
  · rw [hb] at hB
    have hres := Lib.hid (show doubleT ⟨7, 0, 0, m, l⟩ a b = 0 by unfold doubleT; simp [hb])
    go_enter Tryd.func61, Tryd.ntmps61
    go_wp2_with fail
    refine (hB _).mono ?_; rintro r w2 ⟨rfl, rfl⟩
    go_wp2_with fail
    go_ret
    exact ⟨by rw [hres.out]; rfl, by (repeat' (first | (with_reducible exact Below.refl _ _) | (with_reducible assumption) | (with_reducible refine below_drewN ?_ _) | (with_reducible refine Below.alloc ?_ ?_ _) | (with_reducible refine Below.drew ?_) | (with_reducible refine Below.setCell ?_ ?_ _) | go_size))⟩
  · rw [hb] at hB
    by_cases hx : b = a
    case neg =>
      have ex : (b != a) = true := by simpa using hx
      have hres := Lib.hid (show doubleT ⟨7, 0, 0, m, l⟩ a b = 0 by unfold doubleT; simp [hb, hx, hm])
      go_enter Tryd.func61, Tryd.ntmps61
      go_wp2_with fail
      refine (hB _).mono ?_; rintro r w2 ⟨rfl, rfl⟩
      go_wp2_with fail
      go_ret
      exact ⟨by rw [hres.out]; rfl, by (repeat' (first | (with_reducible exact Below.refl _ _) | (with_reducible assumption) | (with_reducible refine below_drewN ?_ _) | (with_reducible refine Below.alloc ?_ ?_ _) | (with_reducible refine Below.drew ?_) | (with_reducible refine Below.setCell ?_ ?_ _) | go_size))⟩
    subst hx
    have hres := Lib.hid (show doubleT ⟨7, 0, 0, m, l⟩ b b = aResult m b by unfold doubleT; simp [hb, hm])
    generalize aResult m b = R at *
    go_enter Tryd.func61, Tryd.ntmps61
    go_wp2_with fail
    refine (hB _).mono ?_; rintro r w2 ⟨rfl, rfl⟩
    go_wp2_with fail
    refine (hR.out _ (by (repeat' (first | (with_reducible exact Below.refl _ _) | (with_reducible assumption) | (with_reducible refine below_drewN ?_ _) | (with_reducible refine Below.alloc ?_ ?_ _) | (with_reducible refine Below.drew ?_) | (with_reducible refine Below.setCell ?_ ?_ _) | go_size)))).mono ?_; rintro r w2 ⟨rfl, rfl⟩
    go_wp2_with fail
    go_ret
    exact ⟨by rw [hres.out]; rfl, by (repeat' (first | (with_reducible exact Below.refl _ _) | (with_reducible assumption) | (with_reducible refine below_drewN ?_ _) | (with_reducible refine Below.alloc ?_ ?_ _) | (with_reducible refine Below.drew ?_) | (with_reducible refine Below.setCell ?_ ?_ _) | go_size))⟩
set_option maxHeartbeats 4000000 in
theorem expr_single (a b c d : Value) (s : Sc) (e : Ex) (v : Value) (t1 : Int) (w : World) (hs : ScAt w a b d s) (hv : ExV w v e) (hg : AGoes w) : Calls Tryd.prog 60 #[.agg #[a, b, c, d], v, .int .i64 t1] w fun r w' => r = .returned (.int .i64 (singleT s e t1)) ∧ Below w.heap.size w w' := by
  obtain ⟨op, t, n, m, l⟩ := e
  obtain ⟨sl, rfl, _, _⟩ := hv
  have HS := Lib.hid (fun W (h : Below w.heap.size w W) => hs.below h)
  have HG := Lib.hid (fun W (h : Below w.heap.size w W) => hg.below h)
  have hK := kind_Right t
  have hR := Lib.hid (fun W (h : Below w.heap.size w W) => alu_Result m t1 W (HG.out W h))
  obtain ⟨sa, ca, rfl⟩ := row_get hs.vs
  obtain ⟨sb, cb, rfl⟩ := row_get hs.bs
  obtain ⟨sd, cd, rfl⟩ := row_get hs.ss
  obtain ⟨NV, hNV⟩ : ∃ N, s.vars.length = N := ⟨_, rfl⟩
  obtain ⟨NB, hNB⟩ : ∃ N, s.blocks.length = N := ⟨_, rfl⟩
  obtain ⟨NS, hNS⟩ : ∃ N, s.slots.length = N := ⟨_, rfl⟩
  have HNV := Lib.hid hNV
  have HNB := Lib.hid hNB
  have HNS := Lib.hid hNS
  have hlv := hs.vs.len
  simp only at HS ⊢
  rw [hNV, hNB, hNS] at HS
  rw [hNV] at hlv ⊢
  rw [hNB, hNS]
  clear hs hg hNV hNB hNS
  have hI := expr_in n NV
  by_cases h8 : op = 8
  · subst h8
    by_cases hn : n = 0
    case neg =>
      have en : (n == 0) = false := by simpa using hn
      by_cases h0 : t = 0
      · subst h0
        have hres := Lib.hid (show singleT s ⟨8, 0, n, m, l⟩ t1 = 0 by unfold singleT; simp [hn])
        go_enter Tryd.func60, Tryd.ntmps60
        go_wp2_with fail
        go_ret
        exact ⟨by rw [hres.out]; rfl, by (repeat' (first | (with_reducible exact Below.refl _ _) | (with_reducible assumption) | (with_reducible refine below_drewN ?_ _) | (with_reducible refine Below.alloc ?_ ?_ _) | (with_reducible refine Below.drew ?_) | (with_reducible refine Below.setCell ?_ ?_ _) | go_size))⟩
      · have e0 : (t != 0) = true := by simpa using h0
        have hres := Lib.hid (show singleT s ⟨8, t, n, m, l⟩ t1 = 0 by unfold singleT; simp [h0, hn])
        go_enter Tryd.func60, Tryd.ntmps60
        go_wp2_with fail
        go_ret
        exact ⟨by rw [hres.out]; rfl, by (repeat' (first | (with_reducible exact Below.refl _ _) | (with_reducible assumption) | (with_reducible refine below_drewN ?_ _) | (with_reducible refine Below.alloc ?_ ?_ _) | (with_reducible refine Below.drew ?_) | (with_reducible refine Below.setCell ?_ ?_ _) | go_size))⟩
    subst hn
    by_cases hm : m = 0
    case neg =>
      have em : (m == 0) = false := by simpa using hm
      by_cases h0 : t = 0
      · subst h0
        have hres := Lib.hid (show singleT s ⟨8, 0, 0, m, l⟩ t1 = 0 by unfold singleT; simp [hm])
        go_enter Tryd.func60, Tryd.ntmps60
        go_wp2_with fail
        go_ret
        exact ⟨by rw [hres.out]; rfl, by (repeat' (first | (with_reducible exact Below.refl _ _) | (with_reducible assumption) | (with_reducible refine below_drewN ?_ _) | (with_reducible refine Below.alloc ?_ ?_ _) | (with_reducible refine Below.drew ?_) | (with_reducible refine Below.setCell ?_ ?_ _) | go_size))⟩
      · have e0 : (t != 0) = true := by simpa using h0
        have hres := Lib.hid (show singleT s ⟨8, t, 0, m, l⟩ t1 = 0 by unfold singleT; simp [h0, hm])
        go_enter Tryd.func60, Tryd.ntmps60
        go_wp2_with fail
        go_ret
        exact ⟨by rw [hres.out]; rfl, by (repeat' (first | (with_reducible exact Below.refl _ _) | (with_reducible assumption) | (with_reducible refine below_drewN ?_ _) | (with_reducible refine Below.alloc ?_ ?_ _) | (with_reducible refine Below.drew ?_) | (with_reducible refine Below.setCell ?_ ?_ _) | go_size))⟩
    subst hm
    cases hk : kRight t
    · rw [hk] at hK
      by_cases h0 : t = 0
      · subst h0
        have hres := Lib.hid (show singleT s ⟨8, 0, 0, 0, l⟩ t1 = 0 by unfold singleT; simp [hk])
        go_enter Tryd.func60, Tryd.ntmps60
        go_wp2_with fail
        refine (hK _).mono ?_; rintro r w2 ⟨rfl, rfl⟩
        go_wp2_with fail
        go_ret
        exact ⟨by rw [hres.out]; rfl, by (repeat' (first | (with_reducible exact Below.refl _ _) | (with_reducible assumption) | (with_reducible refine below_drewN ?_ _) | (with_reducible refine Below.alloc ?_ ?_ _) | (with_reducible refine Below.drew ?_) | (with_reducible refine Below.setCell ?_ ?_ _) | go_size))⟩
      · have e0 : (t != 0) = true := by simpa using h0
        have hres := Lib.hid (show singleT s ⟨8, t, 0, 0, l⟩ t1 = 0 by unfold singleT; simp [h0, hk])
        go_enter Tryd.func60, Tryd.ntmps60
        go_wp2_with fail
        refine (hK _).mono ?_; rintro r w2 ⟨rfl, rfl⟩
        go_wp2_with fail
        go_ret
        exact ⟨by rw [hres.out]; rfl, by (repeat' (first | (with_reducible exact Below.refl _ _) | (with_reducible assumption) | (with_reducible refine below_drewN ?_ _) | (with_reducible refine Below.alloc ?_ ?_ _) | (with_reducible refine Below.drew ?_) | (with_reducible refine Below.setCell ?_ ?_ _) | go_size))⟩
    · rw [hk] at hK
      have hres := Lib.hid (show singleT s ⟨8, t, 0, 0, l⟩ t1 = t by unfold singleT; simp [hk])
      go_enter Tryd.func60, Tryd.ntmps60
      go_wp2_with fail
      refine (hK _).mono ?_; rintro r w2 ⟨rfl, rfl⟩
      go_wp2_with fail
      go_ret
      exact ⟨by rw [hres.out]; rfl, by (repeat' (first | (with_reducible exact Below.refl _ _) | (with_reducible assumption) | (with_reducible refine below_drewN ?_ _) | (with_reducible refine Below.alloc ?_ ?_ _) | (with_reducible refine Below.drew ?_) | (with_reducible refine Below.setCell ?_ ?_ _) | go_size))⟩
  have e8 : (op == 8) = false := by simpa using h8
  by_cases h0 : t = 0
  case neg =>
    have e0 : (t != 0) = true := by simpa using h0
    have hres := Lib.hid (show singleT s ⟨op, t, n, m, l⟩ t1 = 0 by unfold singleT; simp [h8, h0])
    go_enter Tryd.func60, Tryd.ntmps60
    go_wp2_with fail
    go_ret
    exact ⟨by rw [hres.out]; rfl, by (repeat' (first | (with_reducible exact Below.refl _ _) | (with_reducible assumption) | (with_reducible refine below_drewN ?_ _) | (with_reducible refine Below.alloc ?_ ?_ _) | (with_reducible refine Below.drew ?_) | (with_reducible refine Below.setCell ?_ ?_ _) | go_size))⟩
  subst h0
  by_cases h4 : op = 4
  · subst h4
    by_cases hm : m = 0
    case neg =>
      have ehm : (m == 0) = false := by simpa using hm
      have hres := Lib.hid (show singleT s ⟨4, 0, n, m, l⟩ t1 = 0 by unfold singleT; simp [hm])
      go_enter Tryd.func60, Tryd.ntmps60
      go_wp2_with fail
      go_ret
      exact ⟨by rw [hres.out]; rfl, by (repeat' (first | (with_reducible exact Below.refl _ _) | (with_reducible assumption) | (with_reducible refine below_drewN ?_ _) | (with_reducible refine Below.alloc ?_ ?_ _) | (with_reducible refine Below.drew ?_) | (with_reducible refine Below.setCell ?_ ?_ _) | go_size))⟩
    subst hm
    by_cases hy : t1 = 2
    case neg =>
      have ehy : (t1 == 2) = false := by simpa using hy
      have hres := Lib.hid (show singleT s ⟨4, 0, n, 0, l⟩ t1 = 0 by unfold singleT; simp [hy])
      go_enter Tryd.func60, Tryd.ntmps60
      go_wp2_with fail
      go_ret
      exact ⟨by rw [hres.out]; rfl, by (repeat' (first | (with_reducible exact Below.refl _ _) | (with_reducible assumption) | (with_reducible refine below_drewN ?_ _) | (with_reducible refine Below.alloc ?_ ?_ _) | (with_reducible refine Below.drew ?_) | (with_reducible refine Below.setCell ?_ ?_ _) | go_size))⟩
    subst hy
    cases hin : inb n NV
    · rw [hin] at hI
      have hres := Lib.hid (show singleT s ⟨4, 0, n, 0, l⟩ 2 = 0 by unfold singleT; simp [HNV.out, hin])
      go_enter Tryd.func60, Tryd.ntmps60
      go_wp2_with fail
      refine (hI _).mono ?_; rintro r w2 ⟨rfl, rfl⟩
      go_wp2_with fail
      go_ret
      exact ⟨by rw [hres.out]; rfl, by (repeat' (first | (with_reducible exact Below.refl _ _) | (with_reducible assumption) | (with_reducible refine below_drewN ?_ _) | (with_reducible refine Below.alloc ?_ ?_ _) | (with_reducible refine Below.drew ?_) | (with_reducible refine Below.setCell ?_ ?_ _) | go_size))⟩
    rw [hin] at hI
    have HW := Lib.hid (show ∀ W, W = (w.alloc (.cells #[.slice sa NV ca, .slice sb NB cb, c, .slice sd NS cd] 43)).alloc (.cells #[.int .i64 4, .int .i64 0, .int .i64 n, .int .i64 0, sl] 37) → Below w.heap.size w W from by
      rintro W rfl
      exact by (repeat' (first | (with_reducible exact Below.refl _ _) | (with_reducible assumption) | (with_reducible refine below_drewN ?_ _) | (with_reducible refine Below.alloc ?_ ?_ _) | (with_reducible refine Below.drew ?_) | (with_reducible refine Below.setCell ?_ ?_ _) | go_size)))
    obtain ⟨k, rfl, hk⟩ := inb_yes hin
    have hbW := HW.out _ rfl
    obtain ⟨x, hx⟩ := get_some (L := s.vars) (n := k) (by rw [HNV.out]; exact hk)
    obtain ⟨b, off, rfl, hbw, hc⟩ := var_at (HS.out w (Below.refl _ _)).vs (k := k) (by rw [HNV.out]; exact hk)
    obtain ⟨d0, d1, d2, d3, d4, _⟩ := hc k x hx
    have d0 := (hbW.cell (p := ⟨b, off + k * 5, none⟩) hbw).trans d0
    have d1 := (hbW.cell (p := ⟨b, off + k * 5 + 1, none⟩) hbw).trans d1
    have d2 := (hbW.cell (p := ⟨b, off + k * 5 + 2, none⟩) hbw).trans d2
    have d3 := (hbW.cell (p := ⟨b, off + k * 5 + 3, none⟩) hbw).trans d3
    have d4 := (hbW.cell (p := ⟨b, off + k * 5 + 4, none⟩) hbw).trans d4
    have hxv : s.v (k : Int) = x := by unfold Sc.v; simp [List.getD, hx]
    have qk : (k : Int) < (NV : Int) := by omega
    have hcap := cap_row (HS.out w (Below.refl _ _)).vs hk
    have hK := kind_Right x.t
    have HX := Lib.hid (show singleT s ⟨4, 0, (k : Int), 0, l⟩ 2 = if 2 ≤ x.n then keepR x.t else 0 by unfold singleT; simp [HNV.out, hin, hxv])
    clear hin hc hx hxv hk hbW
    generalize x.n = xn at *
    generalize x.t = xt at *
    generalize x.area = xa at *
    generalize x.init = xi at *
    generalize x.name = xm at *
    by_cases h2 : 2 ≤ xn
    · have e2 : (2 ≤ xn) = True := eq_true h2
      have e2' : (xn < 2) = False := eq_false (by omega)
      cases hkr : kRight xt
      · rw [hkr] at hK
        have hres := Lib.hid (show singleT s ⟨4, 0, (k : Int), 0, l⟩ 2 = 0 by rw [HX.out]; simp [h2, keepR, hkr])
        clear hkr h2
        go_enter Tryd.func60, Tryd.ntmps60
        go_wp2_with fail
        refine (hI _).mono ?_; rintro r w2 ⟨rfl, rfl⟩
        go_wp2_with fail
        refine (hK _).mono ?_; rintro r w2 ⟨rfl, rfl⟩
        go_wp2_with fail
        go_ret
        exact ⟨by rw [hres.out]; rfl, by (repeat' (first | (with_reducible exact Below.refl _ _) | (with_reducible assumption) | (with_reducible refine below_drewN ?_ _) | (with_reducible refine Below.alloc ?_ ?_ _) | (with_reducible refine Below.drew ?_) | (with_reducible refine Below.setCell ?_ ?_ _) | go_size))⟩
      · rw [hkr] at hK
        have hres := Lib.hid (show singleT s ⟨4, 0, (k : Int), 0, l⟩ 2 = xt by rw [HX.out]; simp [h2, keepR, hkr])
        clear hkr h2
        go_enter Tryd.func60, Tryd.ntmps60
        go_wp2_with fail
        refine (hI _).mono ?_; rintro r w2 ⟨rfl, rfl⟩
        go_wp2_with fail
        refine (hK _).mono ?_; rintro r w2 ⟨rfl, rfl⟩
        go_wp2_with fail
        go_ret
        exact ⟨by rw [hres.out]; rfl, by (repeat' (first | (with_reducible exact Below.refl _ _) | (with_reducible assumption) | (with_reducible refine below_drewN ?_ _) | (with_reducible refine Below.alloc ?_ ?_ _) | (with_reducible refine Below.drew ?_) | (with_reducible refine Below.setCell ?_ ?_ _) | go_size))⟩
    · have e2 : (2 ≤ xn) = False := eq_false h2
      have e2' : (xn < 2) = True := eq_true (by omega)
      have hres := Lib.hid (show singleT s ⟨4, 0, (k : Int), 0, l⟩ 2 = 0 by rw [HX.out]; simp [h2])
      clear h2
      go_enter Tryd.func60, Tryd.ntmps60
      go_wp2_with fail
      refine (hI _).mono ?_; rintro r w2 ⟨rfl, rfl⟩
      go_wp2_with fail
      go_ret
      exact ⟨by rw [hres.out]; rfl, by (repeat' (first | (with_reducible exact Below.refl _ _) | (with_reducible assumption) | (with_reducible refine below_drewN ?_ _) | (with_reducible refine Below.alloc ?_ ?_ _) | (with_reducible refine Below.drew ?_) | (with_reducible refine Below.setCell ?_ ?_ _) | go_size))⟩
  have e4 : (op == 4) = false := by simpa using h4
  by_cases h6 : op = 6
  case neg =>
    have eh6 : (op == 6) = false := by simpa using h6
    have hres := Lib.hid (show singleT s ⟨op, 0, n, m, l⟩ t1 = 0 by unfold singleT; simp [h8, h4, h6])
    go_enter Tryd.func60, Tryd.ntmps60
    go_wp2_with fail
    go_ret
    exact ⟨by rw [hres.out]; rfl, by (repeat' (first | (with_reducible exact Below.refl _ _) | (with_reducible assumption) | (with_reducible refine below_drewN ?_ _) | (with_reducible refine Below.alloc ?_ ?_ _) | (with_reducible refine Below.drew ?_) | (with_reducible refine Below.setCell ?_ ?_ _) | go_size))⟩
  subst h6
  by_cases hn : n = 0
  case neg =>
    have ehn : (n == 0) = false := by simpa using hn
    have hres := Lib.hid (show singleT s ⟨6, 0, n, m, l⟩ t1 = 0 by unfold singleT; simp [hn])
    go_enter Tryd.func60, Tryd.ntmps60
    go_wp2_with fail
    go_ret
    exact ⟨by rw [hres.out]; rfl, by (repeat' (first | (with_reducible exact Below.refl _ _) | (with_reducible assumption) | (with_reducible refine below_drewN ?_ _) | (with_reducible refine Below.alloc ?_ ?_ _) | (with_reducible refine Below.drew ?_) | (with_reducible refine Below.setCell ?_ ?_ _) | go_size))⟩
  subst hn
  by_cases hm13 : m = 13
  · subst hm13
    generalize hRR : aResult 13 t1 = R at *
    have hres := Lib.hid (show singleT s ⟨6, 0, 0, 13, l⟩ t1 = R by unfold singleT; simp [hRR])
    go_enter Tryd.func60, Tryd.ntmps60
    go_wp2_with fail
    refine (hR.out _ (by (repeat' (first | (with_reducible exact Below.refl _ _) | (with_reducible assumption) | (with_reducible refine below_drewN ?_ _) | (with_reducible refine Below.alloc ?_ ?_ _) | (with_reducible refine Below.drew ?_) | (with_reducible refine Below.setCell ?_ ?_ _) | go_size)))).mono ?_; rintro r w2 ⟨rfl, rfl⟩
    go_wp2_with fail
    go_ret
    exact ⟨by rw [hres.out]; rfl, by (repeat' (first | (with_reducible exact Below.refl _ _) | (with_reducible assumption) | (with_reducible refine below_drewN ?_ _) | (with_reducible refine Below.alloc ?_ ?_ _) | (with_reducible refine Below.drew ?_) | (with_reducible refine Below.setCell ?_ ?_ _) | go_size))⟩
  have em13 : (m == 13) = false := by simpa using hm13
  by_cases hm17 : m = 17
  · subst hm17
    generalize hRR : aResult 17 t1 = R at *
    have hres := Lib.hid (show singleT s ⟨6, 0, 0, 17, l⟩ t1 = R by unfold singleT; simp [hRR])
    go_enter Tryd.func60, Tryd.ntmps60
    go_wp2_with fail
    refine (hR.out _ (by (repeat' (first | (with_reducible exact Below.refl _ _) | (with_reducible assumption) | (with_reducible refine below_drewN ?_ _) | (with_reducible refine Below.alloc ?_ ?_ _) | (with_reducible refine Below.drew ?_) | (with_reducible refine Below.setCell ?_ ?_ _) | go_size)))).mono ?_; rintro r w2 ⟨rfl, rfl⟩
    go_wp2_with fail
    go_ret
    exact ⟨by rw [hres.out]; rfl, by (repeat' (first | (with_reducible exact Below.refl _ _) | (with_reducible assumption) | (with_reducible refine below_drewN ?_ _) | (with_reducible refine Below.alloc ?_ ?_ _) | (with_reducible refine Below.drew ?_) | (with_reducible refine Below.setCell ?_ ?_ _) | go_size))⟩
  have em17 : (m == 17) = false := by simpa using hm17
  have hres := Lib.hid (show singleT s ⟨6, 0, 0, m, l⟩ t1 = 0 by unfold singleT; simp [hm13, hm17])
  go_enter Tryd.func60, Tryd.ntmps60
  go_wp2_with fail
  go_ret
  exact ⟨by rw [hres.out]; rfl, by (repeat' (first | (with_reducible exact Below.refl _ _) | (with_reducible assumption) | (with_reducible refine below_drewN ?_ _) | (with_reducible refine Below.alloc ?_ ?_ _) | (with_reducible refine Below.drew ?_) | (with_reducible refine Below.setCell ?_ ?_ _) | go_size))⟩
end Go.Proofs.YtknbomikiakpmaaDoor

/- expr.Type. -/
namespace Go.Proofs.YtknbomikiakpmaaDoor
open Go.RowKit
set_option linter.unusedSimpArgs false
set_option linter.unusedVariables false
def typeM (s : Sc) (e : Ex) : List Int → Int
  | [] => leafT s e
  | [a] => singleT s e a
  | [a, b] => doubleT e a b
  | _ => 0
theorem typeF_m (s : Sc) (e : Ex) (ts : List Int) : typeF s e ts = if ts.any (· == 0) then 0 else typeM s e ts := by
  unfold typeF typeM
  rfl
theorem any_zero_yes {L : List Int} {k : Nat} (h : L[k]? = some 0) : L.any (· == 0) = true := List.any_eq_true.2 ⟨0, List.mem_of_getElem? h, rfl⟩
set_option maxHeartbeats 4000000 in
theorem type_1 (p : Nat) (a b c d : Value) (s : Sc) (e : Ex) (v u : Value) (L : List Int) (w : World) (hs : ScAt w a b d s) (hv : ExV w v e) (hg : AGoes w) (hT : BTab w) (hu : RowR 1 intR w u L)
    (c0 : w.cell? ⟨p, 0, none⟩ = some a) (c1 : w.cell? ⟨p, 1, none⟩ = some b) (c2 : w.cell? ⟨p, 2, none⟩ = some c) (c3 : w.cell? ⟨p, 3, none⟩ = some d) :
    Calls Tryd.prog 58 #[v, u, .pointer (some ⟨p, 0, none⟩)] w fun r w' => r = .returned (.int .i64 (typeF s e L)) ∧ Below w.heap.size w w' := by
  have HLf := Lib.hid (fun W (h : Below w.heap.size w W) => expr_leaf a b c d s e v W (hs.below h) (hv.below h) (hT.below h))
  have HSg := Lib.hid (fun t W (h : Below w.heap.size w W) => expr_single a b c d s e v t W (hs.below h) (hv.below h) (hg.below h))
  have HDb := Lib.hid (fun t t' W (h : Below w.heap.size w W) => expr_double e v t t' W (hv.below h) (hg.below h))
  have HTy := Lib.hid (typeF_m s e L)
  generalize typeF s e L = R at *
  obtain ⟨sl, rfl, _, _⟩ := hv
  have HU := Lib.hid (fun W (h : Below w.heap.size w W) => hu.below intR_stable h)
  obtain ⟨sa, sc, rfl⟩ := row_get hu
  have hlen63 := hu.len
  obtain ⟨N, hN⟩ : ∃ N, L.length = N := ⟨_, rfl⟩
  have HN := Lib.hid hN
  rw [hN] at HU hlen63 ⊢
  have z0 := World.block_lt_of_cell? _ _ c0
  obtain ⟨W0, hW0⟩ : ∃ W0, W0 = w.alloc (.cells #[.int .i64 e.op, .int .i64 e.t, .int .i64 e.n, .int .i64 e.m, sl] 37) := ⟨_, rfl⟩
  have hbW : Below w.heap.size w W0 := by rw [hW0]; exact by (repeat' (first | (with_reducible exact Below.refl _ _) | (with_reducible assumption) | (with_reducible refine below_drewN ?_ _) | (with_reducible refine Below.alloc ?_ ?_ _) | (with_reducible refine Below.drew ?_) | (with_reducible refine Below.setCell ?_ ?_ _) | go_size))
  have c0 := (hbW.cell (p := ⟨p, 0, none⟩) z0).trans c0
  have c1 := (hbW.cell (p := ⟨p, 1, none⟩) z0).trans c1
  have c2 := (hbW.cell (p := ⟨p, 2, none⟩) z0).trans c2
  have c3 := (hbW.cell (p := ⟨p, 3, none⟩) z0).trans c3
  have z0 : p < W0.heap.size := Nat.lt_of_lt_of_le z0 hbW.size
  have oE : W0.heap[w.heap.size]? = some (.cells #[.int .i64 e.op, .int .i64 e.t, .int .i64 e.n, .int .i64 e.m, sl] 37) := by rw [hW0]; exact get_last rfl
  have zE := heap_lt oE
  have e0 : W0.cell? ⟨w.heap.size, 0, none⟩ = some (.int .i64 e.op) := obj_cell oE (i := 0) rfl
  have e1 : W0.cell? ⟨w.heap.size, 1, none⟩ = some (.int .i64 e.t) := obj_cell oE (i := 1) rfl
  have e2 : W0.cell? ⟨w.heap.size, 2, none⟩ = some (.int .i64 e.n) := obj_cell oE (i := 2) rfl
  have e3 : W0.cell? ⟨w.heap.size, 3, none⟩ = some (.int .i64 e.m) := obj_cell oE (i := 3) rfl
  have e4 : W0.cell? ⟨w.heap.size, 4, none⟩ = some sl := obj_cell oE (i := 4) rfl
  have HB0 := Lib.hid hbW
  have HW0 := Lib.hid hW0
  generalize e.op = o1 at *
  generalize e.t = o2 at *
  generalize e.n = o3 at *
  generalize e.m = o4 at *
  clear hu hN hs hT hg hW0 hbW oE
  go_enter Tryd.func58, Tryd.ntmps58
  go_wp2_with fail
  rw [← HW0.out]
  go_loopw [10] (fun jj wr => ∃ k : Nat, k ≤ N ∧ jj = .int .i64 k ∧ Hid (∀ i, i < k → ∀ x, L[i]? = some x → (x == 0) = false) ∧ wr = W0) (fun jj _ => N - (intOf jj).toNat)
  case atStart => exact ⟨0, by omega, rfl, Lib.hid (fun i h => by omega), rfl⟩
  case round =>
    obtain ⟨k, hk, rfl, hall, hwr⟩ := hrel
    have hwr := hwr.symm
    subst hwr
    by_cases hlt : k < N
    · have qk : ((k : Int) < (N : Int)) = True := eq_true (by omega)
      have qk' : (k < N) = True := eq_true hlt
      have hU := HU.out _ HB0.out
      obtain ⟨x, hx⟩ := get_some (L := L) (n := k) (by rw [HN.out]; exact hlt)
      obtain ⟨b1, off, rfl, hbw, hc⟩ := ints_at hU (k := k) (by rw [HN.out]; exact hlt)
      have hc := (hc k x hx).1
      have HLT := Lib.hid hlt
      have hk63 : k ≤ 9223372036854775806 := by omega
      by_cases hx0 : x = 0
      · subst hx0
        have hR := Lib.hid (show R = 0 by rw [HTy.out, any_zero_yes hx]; rfl)
        clear hx hU hlt
        go_wp2_with fail
        go_ret
        exact ⟨by rw [hR.out]; rfl, HB0.out⟩
      · have hxe : (x == 0) = false := by simpa using hx0
        have hs := Lib.hid (show ∀ i, i < k + 1 → ∀ x, L[i]? = some x → (x == 0) = false from fun i hi y hy => by
          rcases (show i < k ∨ i = k by omega) with h | rfl
          · exact hall.out i h y hy
          · rw [hx] at hy; obtain rfl := Option.some.inj hy; exact hxe)
        clear hx hU hlt hx0
        go_wp2_with fail
        go_roundw
        case rel => exact ⟨k + 1, by have := HLT.out; omega, by simp, hs, by first | rfl | trivial⟩
        case measure => have := HLT.out; first | (simp [intOf]; done) | (simp [intOf]; omega)
    · obtain rfl : k = N := by omega
      have qk : ((k : Int) < (k : Int)) = False := eq_false (by omega)
      have qk' : (k < k) = False := eq_false (by omega)
      have hany : L.any (· == 0) = false := List.any_eq_false.2 (fun x hx => by
        obtain ⟨i, hi, rfl⟩ := List.getElem_of_mem hx
        have := hall.out i (by rw [← HN.out]; exact hi) L[i] (List.getElem?_eq_getElem hi)
        rw [this]; simp)
      have HTy := Lib.hid (show R = typeM s e L by rw [HTy.out, hany]; rfl)
      have hU := HU.out _ HB0.out
      clear hall hlt hany hlen63 HU
      by_cases n0 : k = 0
      · subst n0
        obtain rfl : L = [] := List.length_eq_zero_iff.1 HN.out
        have hR := Lib.hid (show R = leafT s e from HTy.out)
        clear hU
        go_wp2_with fail
        refine (HLf.out _ HB0.out).mono ?_; rintro r w2 ⟨rfl, hb2⟩
        have HBE := Lib.hid (HB0.out.trans (hb2.mono HB0.out.size))
        clear hb2
        go_wp2_with fail
        go_ret
        exact ⟨by rw [hR.out]; rfl, HBE.out⟩
      have n0e : ((k : Int) == 0) = false := by simpa using n0
      by_cases n1 : k = 1
      · subst n1
        obtain ⟨x, rfl⟩ : ∃ x, L = [x] := List.length_eq_one_iff.1 HN.out
        have hR := Lib.hid (show R = singleT s e x from HTy.out)
        obtain ⟨b1, off, rfl, hbw, hc⟩ := ints_at hU (k := 0) (by simp)
        have hc : W0.cell? ⟨b1, off, none⟩ = some (.int .i64 x) := (hc 0 x rfl).1
        have hcap := cap_row hU (k := 0) (by omega)
        have HS1 := Lib.hid (fun W (h : Below W0.heap.size W0 W) => HSg.out x W (HB0.out.trans (h.mono HB0.out.size)))
        clear hU
        go_upto_region 11 with fail
        have qq0 := fun wt (h : Below W0.heap.size W0 wt) => cellB h c0 z0
        have qq1 := fun wt (h : Below W0.heap.size W0 wt) => cellB h c1 z0
        have qq2 := fun wt (h : Below W0.heap.size W0 wt) => cellB h c2 z0
        have qq3 := fun wt (h : Below W0.heap.size W0 wt) => cellB h c3 z0
        have qq4 := fun wt (h : Below W0.heap.size W0 wt) => cellB h e0 zE
        have qq5 := fun wt (h : Below W0.heap.size W0 wt) => cellB h e1 zE
        have qq6 := fun wt (h : Below W0.heap.size W0 wt) => cellB h e2 zE
        have qq7 := fun wt (h : Below W0.heap.size W0 wt) => cellB h e3 zE
        have qq8 := fun wt (h : Below W0.heap.size W0 wt) => cellB h e4 zE
        have qq9 := fun wt (h : Below W0.heap.size W0 wt) => cellB h hc hbw
        refine wp_region_held_drew (S := (fun w' => Below W0.heap.size W0 w')) (by kernel_rfl) ?_ (fun hHeld => ?_)
        · (try dsimp only); first | assumption | exact Below.alloc hHeld hHeld.size _ | exact (Below.refl _ _).drew | exact Below.drew (Below.refl _ _) | exact Below_drewN _ _ _ | exact Below.refl _ _
        refine tk 0 (v := ?_) (hy := ?_) (h := ?_); rotate_left
        · intro wt hSw; (try dsimp only at hSw); go_simp <;> with_reducible rfl
        try simp only [pu, pa, pz, ps]
        refine tk 1 (v := ?_) (hy := ?_) (h := ?_); rotate_left
        · intro wt hSw; (try dsimp only at hSw); go_simp <;> with_reducible rfl
        try simp only [pu, pa, pz, ps]
        refine tk 2 (v := ?_) (hy := ?_) (h := ?_); rotate_left
        · intro _ _; go_simp <;> with_reducible rfl
        try simp only [pu, pa, pz, ps]
        refine tk 3 (v := ?_) (hy := ?_) (h := ?_); rotate_left
        · intro _ _; go_simp <;> with_reducible rfl
        try simp only [pu, pa, pz, ps]
        refine tk 4 (v := ?_) (hy := ?_) (h := ?_); rotate_left
        · intro wt hSw; (try dsimp only at hSw); go_simp <;> with_reducible rfl
        try simp only [pu, pa, pz, ps]
        refine wpAnyH_ready (rs := [5]) (by kernel_rfl) (by simp) ?_
        refine AllReadyH.cons (o := ⟨_, _, _, _, _, _⟩) rfl (fun K hK => ?_) AllReadyH.nil
        go_simp
        refine (HS1.out _ hHeld).mono ?_; rintro r w2 ⟨rfl, hb⟩; have hHeld := hHeld.trans (hb.mono hHeld.size)
        go_wp2_with fail
        refine hK.out _ _ ?_ (fun hHeld => ?_)
        · (try dsimp only); first | assumption | exact Below.alloc hHeld hHeld.size _ | exact (Below.refl _ _).drew | exact Below.drew (Below.refl _ _) | exact Below_drewN _ _ _ | exact Below.refl _ _
        clear hK K
        try simp only [pu, pa, pz, ps]
        refine tk 6 (v := ?_) (hy := ?_) (h := ?_); rotate_left
        · intro _ _; go_simp <;> with_reducible rfl
        try simp only [pu, pa, pz, ps]
        refine wpAnyH_done (by kernel_rfl) ?_ _
        have HHw := Lib.hid (HB0.out.trans (hHeld.mono HB0.out.size))
        clear hHeld
        go_wp2_with fail
        go_ret
        exact ⟨by rw [hR.out]; rfl, HHw.out⟩
      have n1e : ((k : Int) == 1) = false := by have : ¬ ((k : Int) = 1) := by omega
                                                simpa using this
      by_cases n2 : k = 2
      · subst n2
        obtain ⟨x, y, rfl⟩ : ∃ x y, L = [x, y] := by
          have h := HN.out
          match L, h with
          | [x, y], _ => exact ⟨x, y, rfl⟩
        have hR := Lib.hid (show R = doubleT e x y from HTy.out)
        obtain ⟨b1, off, rfl, hbw, hcc⟩ := ints_at hU (k := 0) (by simp)
        have hc0 : W0.cell? ⟨b1, off, none⟩ = some (.int .i64 x) := (hcc 0 x rfl).1
        have hc1 : W0.cell? ⟨b1, off + 1, none⟩ = some (.int .i64 y) := (hcc 1 y rfl).1
        have hcap := cap_row hU (k := 0) (by omega)
        have HS1 := Lib.hid (fun W (h : Below W0.heap.size W0 W) => HDb.out x y W (HB0.out.trans (h.mono HB0.out.size)))
        clear hU hcc
        go_upto_region 13 with fail
        have qq0 := fun wt (h : Below W0.heap.size W0 wt) => cellB h e0 zE
        have qq1 := fun wt (h : Below W0.heap.size W0 wt) => cellB h e1 zE
        have qq2 := fun wt (h : Below W0.heap.size W0 wt) => cellB h e2 zE
        have qq3 := fun wt (h : Below W0.heap.size W0 wt) => cellB h e3 zE
        have qq4 := fun wt (h : Below W0.heap.size W0 wt) => cellB h e4 zE
        have qq5 := fun wt (h : Below W0.heap.size W0 wt) => cellB h hc0 hbw
        have qq6 := fun wt (h : Below W0.heap.size W0 wt) => cellB h hc1 hbw
        refine wp_region_held_drew (S := (fun w' => Below W0.heap.size W0 w')) (by kernel_rfl) ?_ (fun hHeld => ?_)
        · (try dsimp only); first | assumption | exact Below.alloc hHeld hHeld.size _ | exact (Below.refl _ _).drew | exact Below.drew (Below.refl _ _) | exact Below_drewN _ _ _ | exact Below.refl _ _
        refine tk 0 (v := ?_) (hy := ?_) (h := ?_); rotate_left
        · intro wt hSw; (try dsimp only at hSw); go_simp <;> with_reducible rfl
        try simp only [pu, pa, pz, ps]
        refine tk 1 (v := ?_) (hy := ?_) (h := ?_); rotate_left
        · intro _ _; go_simp <;> with_reducible rfl
        try simp only [pu, pa, pz, ps]
        refine tk 2 (v := ?_) (hy := ?_) (h := ?_); rotate_left
        · intro _ _; go_simp <;> with_reducible rfl
        try simp only [pu, pa, pz, ps]
        refine tk 3 (v := ?_) (hy := ?_) (h := ?_); rotate_left
        · intro wt hSw; (try dsimp only at hSw); go_simp <;> with_reducible rfl
        try simp only [pu, pa, pz, ps]
        refine tk 4 (v := ?_) (hy := ?_) (h := ?_); rotate_left
        · intro _ _; go_simp <;> with_reducible rfl
        try simp only [pu, pa, pz, ps]
        refine tk 5 (v := ?_) (hy := ?_) (h := ?_); rotate_left
        · intro _ _; go_simp <;> with_reducible rfl
        try simp only [pu, pa, pz, ps]
        refine tk 6 (v := ?_) (hy := ?_) (h := ?_); rotate_left
        · intro wt hSw; (try dsimp only at hSw); go_simp <;> with_reducible rfl
        try simp only [pu, pa, pz, ps]
        refine wpAnyH_ready (rs := [7]) (by kernel_rfl) (by simp) ?_
        refine AllReadyH.cons (o := ⟨_, _, _, _, _, _⟩) rfl (fun K hK => ?_) AllReadyH.nil
        go_simp
        refine (HS1.out _ hHeld).mono ?_; rintro r w2 ⟨rfl, hb⟩; have hHeld := hHeld.trans (hb.mono hHeld.size)
        go_wp2_with fail
        refine hK.out _ _ ?_ (fun hHeld => ?_)
        · (try dsimp only); first | assumption | exact Below.alloc hHeld hHeld.size _ | exact (Below.refl _ _).drew | exact Below.drew (Below.refl _ _) | exact Below_drewN _ _ _ | exact Below.refl _ _
        clear hK K
        try simp only [pu, pa, pz, ps]
        refine tk 8 (v := ?_) (hy := ?_) (h := ?_); rotate_left
        · intro _ _; go_simp <;> with_reducible rfl
        try simp only [pu, pa, pz, ps]
        refine wpAnyH_done (by kernel_rfl) ?_ _
        have HHw := Lib.hid (HB0.out.trans (hHeld.mono HB0.out.size))
        clear hHeld
        go_wp2_with fail
        go_ret
        exact ⟨by rw [hR.out]; rfl, HHw.out⟩
      have n2e : ((k : Int) == 2) = false := by have : ¬ ((k : Int) = 2) := by omega
                                                simpa using this
      have hR := Lib.hid (show R = 0 by
        rw [HTy.out]
        have h := HN.out
        match L, h with
        | [], h => simp at h; omega
        | [x], h => simp at h; omega
        | [x, y], h => simp at h; omega
        | x :: y :: z :: r, _ => rfl)
      clear hU n0 n1 n2
      go_wp2_with fail
      go_ret
      exact ⟨by rw [hR.out]; rfl, HB0.out⟩
set_option maxHeartbeats 4000000 in
theorem expr_Type (a b c d : Value) (s : Sc) (e : Ex) (he : SmallE 300 e) (v : Value) (w : World) (hs : ScAt w a b d s) (hv : ExV w v e) (hg : AGoes w) (hT : BTab w) :
    Calls Tryd.prog 37 #[.agg #[a, b, c, d], v] w fun r w' => r = .returned (.int .i64 (typeE s e)) ∧ Below w.heap.size w w' := by
  have hmf : ∀ (fn : Fn) (first cap : Array Value) (w : World), (Instr.makeFunc fn first cap).run Tryd.prog w = .ok (.func fn first cap) w := fun _ _ _ _ => rfl
  obtain ⟨sl, rfl, hi, hr⟩ := id hv
  obtain ⟨W1, hW1⟩ : ∃ W1, W1 = (w.alloc (.cells #[a, b, c, d] 43)).alloc (.cells #[.int .i64 e.op, .int .i64 e.t, .int .i64 e.n, .int .i64 e.m, sl] 37) := ⟨_, rfl⟩
  have hb : Below w.heap.size w W1 := by rw [hW1]; exact by (repeat' (first | (with_reducible exact Below.refl _ _) | (with_reducible assumption) | (with_reducible refine below_drewN ?_ _) | (with_reducible refine Below.alloc ?_ ?_ _) | (with_reducible refine Below.drew ?_) | (with_reducible refine Below.setCell ?_ ?_ _) | go_size))
  have oS : W1.heap[w.heap.size]? = some (.cells #[a, b, c, d] 43) := by rw [hW1]; exact (get_past (by simp)).trans (get_last rfl)
  have zS := heap_lt oS
  have HF := Lib.hid (fold_int 58 #[.pointer (some ⟨w.heap.size, 0, none⟩)] (typeF s) (SmallE 300) W1 (fun _ _ => rfl) (fun e h => h.within)
    (fun e h => by have := typeE_le s e; unfold typeE at this; unfold I64; omega) (fun e h => h.len)
    (fun W hW e v u hg' hv' hu => type_1 w.heap.size a b c d s e v u _ W (hs.below (hb.trans (hW.mono hb.size))) hv' (hg.below (hb.trans (hW.mono hb.size))) (hT.below (hb.trans (hW.mono hb.size))) hu
      ((hW.cell (p := ⟨w.heap.size, 0, none⟩) zS).trans (obj_cell oS (i := 0) rfl)) ((hW.cell (p := ⟨w.heap.size, 1, none⟩) zS).trans (obj_cell oS (i := 1) rfl)) ((hW.cell (p := ⟨w.heap.size, 2, none⟩) zS).trans (obj_cell oS (i := 2) rfl)) ((hW.cell (p := ⟨w.heap.size, 3, none⟩) zS).trans (obj_cell oS (i := 3) rfl))) e he W1 _ (Below.refl _ _) (hv.below hb))
  have HW1 := Lib.hid hW1
  have HB := Lib.hid hb
  clear hW1 hv hi hr hs hg hT oS zS hb
  generalize hTy : foldE (typeF s) e = R at *
  have HTy := Lib.hid (show typeE s e = R from hTy)
  clear hTy
  generalize e.op = o1 at *
  generalize e.t = o2 at *
  generalize e.n = o3 at *
  generalize e.m = o4 at *
  go_enter Tryd.func37, Tryd.ntmps37
  go_wp2_with fail
  rw [← HW1.out]
  refine HF.out.mono ?_; rintro r w2 ⟨rfl, hb⟩
  rw [← HTy.out]
  have HBE := Lib.hid (HB.out.trans (hb.mono HB.out.size))
  clear hb
  go_wp2_with fail
  go_ret
  exact ⟨rfl, HBE.out⟩
end Go.Proofs.YtknbomikiakpmaaDoor
/- Layer 43: nnf's small functions: not, both, junction, parity, Leaf. -/
namespace Go.Proofs.YtknbomikiakpmaaDoor
open Go.RowKit
open NN
set_option linter.unusedSimpArgs false
set_option linter.unusedVariables false
theorem nnf_not (e : Ex) (w : World) (v : Value) (hv : ExV w v e) : Calls Tryd.prog 39 #[v] w fun r w' => r = .returned (.bool (notB e)) ∧ Below w.heap.size w w' := by
  obtain ⟨op, t, n, m, l⟩ := e
  obtain ⟨s, rfl, hr, hrow⟩ := hv
  simp only at hrow ⊢
  have hl := hrow.len
  obtain ⟨sa, sc, rfl⟩ := row_get hrow
  obtain ⟨N, hN⟩ : ∃ N, l.length = N := ⟨_, rfl⟩
  have HN := Lib.hid hN
  rw [hN] at hl ⊢
  have HD := Lib.hid (show notB ⟨op, t, n, m, l⟩ = (op == 6 && m == 17 && t == 0 && n == 0 && l.length == 1) from rfl)
  rw [hN] at HD
  generalize notB ⟨op, t, n, m, l⟩ = Z at *
  clear hrow hr hN
  by_cases c0 : op = 6
  case neg =>
    have q0 : (op == 6) = false := beq_eq_false_iff_ne.2 c0
    have HZ := Lib.hid (show Z = false by rw [HD.out]; simp [c0])
    clear c0
    go_enter Tryd.func39, Tryd.ntmps39
    go_wp2_with fail
    go_ret
    exact ⟨by rw [HZ.out]; rfl, by (repeat' (first | (with_reducible exact Below.refl _ _) | (with_reducible assumption) | (with_reducible refine below_drewN ?_ _) | (with_reducible refine Below.alloc ?_ ?_ _) | (with_reducible refine Below.drew ?_) | (with_reducible refine Below.setCell ?_ ?_ _) | go_size))⟩
  subst c0
  by_cases c1 : m = 17
  case neg =>
    have q1 : (m == 17) = false := beq_eq_false_iff_ne.2 c1
    have HZ := Lib.hid (show Z = false by rw [HD.out]; simp [c1])
    clear c1
    go_enter Tryd.func39, Tryd.ntmps39
    go_wp2_with fail
    go_ret
    exact ⟨by rw [HZ.out]; rfl, by (repeat' (first | (with_reducible exact Below.refl _ _) | (with_reducible assumption) | (with_reducible refine below_drewN ?_ _) | (with_reducible refine Below.alloc ?_ ?_ _) | (with_reducible refine Below.drew ?_) | (with_reducible refine Below.setCell ?_ ?_ _) | go_size))⟩
  subst c1
  by_cases c2 : t = 0
  case neg =>
    have q2 : (t == 0) = false := beq_eq_false_iff_ne.2 c2
    have HZ := Lib.hid (show Z = false by rw [HD.out]; simp [c2])
    clear c2
    go_enter Tryd.func39, Tryd.ntmps39
    go_wp2_with fail
    go_ret
    exact ⟨by rw [HZ.out]; rfl, by (repeat' (first | (with_reducible exact Below.refl _ _) | (with_reducible assumption) | (with_reducible refine below_drewN ?_ _) | (with_reducible refine Below.alloc ?_ ?_ _) | (with_reducible refine Below.drew ?_) | (with_reducible refine Below.setCell ?_ ?_ _) | go_size))⟩
  subst c2
  by_cases c3 : n = 0
  case neg =>
    have q3 : (n == 0) = false := beq_eq_false_iff_ne.2 c3
    have HZ := Lib.hid (show Z = false by rw [HD.out]; simp [c3])
    clear c3
    go_enter Tryd.func39, Tryd.ntmps39
    go_wp2_with fail
    go_ret
    exact ⟨by rw [HZ.out]; rfl, by (repeat' (first | (with_reducible exact Below.refl _ _) | (with_reducible assumption) | (with_reducible refine below_drewN ?_ _) | (with_reducible refine Below.alloc ?_ ?_ _) | (with_reducible refine Below.drew ?_) | (with_reducible refine Below.setCell ?_ ?_ _) | go_size))⟩
  subst c3
  by_cases c4 : N = 1
  case neg =>
    have q4 : ((N : Int) == 1) = false := beq_eq_false_iff_ne.2 (by omega)
    have q4' : (N == 1) = false := beq_eq_false_iff_ne.2 c4
    have HZ := Lib.hid (show Z = false by rw [HD.out]; simp [c4])
    clear c4
    go_enter Tryd.func39, Tryd.ntmps39
    go_wp2_with fail
    go_ret
    exact ⟨by rw [HZ.out]; rfl, by (repeat' (first | (with_reducible exact Below.refl _ _) | (with_reducible assumption) | (with_reducible refine below_drewN ?_ _) | (with_reducible refine Below.alloc ?_ ?_ _) | (with_reducible refine Below.drew ?_) | (with_reducible refine Below.setCell ?_ ?_ _) | go_size))⟩
  subst c4
  have HZ := Lib.hid (show Z = true by rw [HD.out]; rfl)
  go_enter Tryd.func39, Tryd.ntmps39
  go_wp2_with fail
  go_ret
  exact ⟨by rw [HZ.out]; rfl, by (repeat' (first | (with_reducible exact Below.refl _ _) | (with_reducible assumption) | (with_reducible refine below_drewN ?_ _) | (with_reducible refine Below.alloc ?_ ?_ _) | (with_reducible refine Below.drew ?_) | (with_reducible refine Below.setCell ?_ ?_ _) | go_size))⟩
theorem nnf_both (e : Ex) (w : World) (v : Value) (hv : ExV w v e) : Calls Tryd.prog 40 #[v] w fun r w' => r = .returned (.bool (bothB e)) ∧ Below w.heap.size w w' := by
  obtain ⟨op, t, n, m, l⟩ := e
  obtain ⟨s, rfl, hr, hrow⟩ := hv
  simp only at hrow ⊢
  have hl := hrow.len
  obtain ⟨sa, sc, rfl⟩ := row_get hrow
  obtain ⟨N, hN⟩ : ∃ N, l.length = N := ⟨_, rfl⟩
  have HN := Lib.hid hN
  rw [hN] at hl ⊢
  have HD := Lib.hid (show bothB ⟨op, t, n, m, l⟩ = (op == 7 && t == 0 && n == 0 && l.length == 2) from rfl)
  rw [hN] at HD
  generalize bothB ⟨op, t, n, m, l⟩ = Z at *
  clear hrow hr hN
  by_cases c0 : op = 7
  case neg =>
    have q0 : (op == 7) = false := beq_eq_false_iff_ne.2 c0
    have HZ := Lib.hid (show Z = false by rw [HD.out]; simp [c0])
    clear c0
    go_enter Tryd.func40, Tryd.ntmps40
    go_wp2_with fail
    go_ret
    exact ⟨by rw [HZ.out]; rfl, by (repeat' (first | (with_reducible exact Below.refl _ _) | (with_reducible assumption) | (with_reducible refine below_drewN ?_ _) | (with_reducible refine Below.alloc ?_ ?_ _) | (with_reducible refine Below.drew ?_) | (with_reducible refine Below.setCell ?_ ?_ _) | go_size))⟩
  subst c0
  by_cases c1 : t = 0
  case neg =>
    have q1 : (t == 0) = false := beq_eq_false_iff_ne.2 c1
    have HZ := Lib.hid (show Z = false by rw [HD.out]; simp [c1])
    clear c1
    go_enter Tryd.func40, Tryd.ntmps40
    go_wp2_with fail
    go_ret
    exact ⟨by rw [HZ.out]; rfl, by (repeat' (first | (with_reducible exact Below.refl _ _) | (with_reducible assumption) | (with_reducible refine below_drewN ?_ _) | (with_reducible refine Below.alloc ?_ ?_ _) | (with_reducible refine Below.drew ?_) | (with_reducible refine Below.setCell ?_ ?_ _) | go_size))⟩
  subst c1
  by_cases c2 : n = 0
  case neg =>
    have q2 : (n == 0) = false := beq_eq_false_iff_ne.2 c2
    have HZ := Lib.hid (show Z = false by rw [HD.out]; simp [c2])
    clear c2
    go_enter Tryd.func40, Tryd.ntmps40
    go_wp2_with fail
    go_ret
    exact ⟨by rw [HZ.out]; rfl, by (repeat' (first | (with_reducible exact Below.refl _ _) | (with_reducible assumption) | (with_reducible refine below_drewN ?_ _) | (with_reducible refine Below.alloc ?_ ?_ _) | (with_reducible refine Below.drew ?_) | (with_reducible refine Below.setCell ?_ ?_ _) | go_size))⟩
  subst c2
  by_cases c3 : N = 2
  case neg =>
    have q3 : ((N : Int) == 2) = false := beq_eq_false_iff_ne.2 (by omega)
    have q3' : (N == 2) = false := beq_eq_false_iff_ne.2 c3
    have HZ := Lib.hid (show Z = false by rw [HD.out]; simp [c3])
    clear c3
    go_enter Tryd.func40, Tryd.ntmps40
    go_wp2_with fail
    go_ret
    exact ⟨by rw [HZ.out]; rfl, by (repeat' (first | (with_reducible exact Below.refl _ _) | (with_reducible assumption) | (with_reducible refine below_drewN ?_ _) | (with_reducible refine Below.alloc ?_ ?_ _) | (with_reducible refine Below.drew ?_) | (with_reducible refine Below.setCell ?_ ?_ _) | go_size))⟩
  subst c3
  have HZ := Lib.hid (show Z = true by rw [HD.out]; rfl)
  go_enter Tryd.func40, Tryd.ntmps40
  go_wp2_with fail
  go_ret
  exact ⟨by rw [HZ.out]; rfl, by (repeat' (first | (with_reducible exact Below.refl _ _) | (with_reducible assumption) | (with_reducible refine below_drewN ?_ _) | (with_reducible refine Below.alloc ?_ ?_ _) | (with_reducible refine Below.drew ?_) | (with_reducible refine Below.setCell ?_ ?_ _) | go_size))⟩
theorem nnf_junction (m : Int) (w : World) : Calls Tryd.prog 41 #[.int .i64 m] w fun r w' => r = .returned (.bool (jun m)) ∧ w' = w := by
  by_cases c0 : m = 14
  · subst c0
    go_enter Tryd.func41, Tryd.ntmps41
    go_wp2_with fail
    go_ret
    exact ⟨rfl, rfl⟩
  have q0 : (m == 14) = false := beq_eq_false_iff_ne.2 c0
  by_cases c1 : m = 15
  · subst c1
    go_enter Tryd.func41, Tryd.ntmps41
    go_wp2_with fail
    go_ret
    exact ⟨rfl, rfl⟩
  have q1 : (m == 15) = false := beq_eq_false_iff_ne.2 c1
  have HZ := Lib.hid (show jun m = false by unfold jun; simp [c0, c1])
  clear c0 c1
  go_enter Tryd.func41, Tryd.ntmps41
  go_wp2_with fail
  go_ret
  exact ⟨by rw [HZ.out]; rfl, rfl⟩
theorem nnf_parity (m : Int) (w : World) : Calls Tryd.prog 43 #[.int .i64 m] w fun r w' => r = .returned (.bool (par m)) ∧ w' = w := by
  by_cases c0 : m = 16
  · subst c0
    go_enter Tryd.func43, Tryd.ntmps43
    go_wp2_with fail
    go_ret
    exact ⟨rfl, rfl⟩
  have q0 : (m == 16) = false := beq_eq_false_iff_ne.2 c0
  by_cases c1 : m = 20
  · subst c1
    go_enter Tryd.func43, Tryd.ntmps43
    go_wp2_with fail
    go_ret
    exact ⟨rfl, rfl⟩
  have q1 : (m == 20) = false := beq_eq_false_iff_ne.2 c1
  by_cases c2 : m = 21
  · subst c2
    go_enter Tryd.func43, Tryd.ntmps43
    go_wp2_with fail
    go_ret
    exact ⟨rfl, rfl⟩
  have q2 : (m == 21) = false := beq_eq_false_iff_ne.2 c2
  have HZ := Lib.hid (show par m = false by unfold par; simp [c0, c1, c2])
  clear c0 c1 c2
  go_enter Tryd.func43, Tryd.ntmps43
  go_wp2_with fail
  go_ret
  exact ⟨by rw [HZ.out]; rfl, rfl⟩
set_option maxHeartbeats 4000000 in
theorem nnf_Leaf (a b c d : Value) (s : Sc) (e : Ex) (he : SmallE 300 e) (w : World) (v : Value) (hs : ScAt w a b d s) (hv : ExV w v e) (hg : AGoes w) (hT : BTab w) :
    Calls Tryd.prog 10 #[.agg #[a, b, c, d], v] w fun r w' => r = .returned (.bool (leafB s e)) ∧ Below w.heap.size w w' := by
  have HT := Lib.hid (fun W (hb : Below w.heap.size w W) => expr_Type a b c d s e he v W (hs.below hb) (hv.below hb) (hg.below hb) (hT.below hb))
  have HD := Lib.hid (show leafB s e = (e.l.isEmpty && typeE s e == 1) from rfl)
  generalize leafB s e = Z at *
  generalize typeE s e = ty at *
  obtain ⟨op, t, n, m, l⟩ := e
  obtain ⟨sl, rfl, hr, hrow⟩ := hv
  simp only at hrow HD ⊢
  obtain ⟨sa, sc, rfl⟩ := row_get hrow
  clear hs hg hT hrow hr he
  cases l with
  | cons x l =>
    have HZ := Lib.hid (show Z = false by rw [HD.out]; rfl)
    obtain ⟨N, hN⟩ : ∃ N, (x :: l).length = N + 1 := ⟨l.length, by simp⟩
    rw [hN] at HT ⊢
    have q1 : (((N + 1 : Nat) : Int) == 0) = false := beq_eq_false_iff_ne.2 (by omega)
    have q2 : ((N : Int) + 1 == 0) = false := beq_eq_false_iff_ne.2 (by omega)
    have q3 : (N + 1 == 0) = false := rfl
    clear hN
    go_enter Tryd.func10, Tryd.ntmps10
    go_wp2_with fail
    go_ret
    exact ⟨by rw [HZ.out]; rfl, by (repeat' (first | (with_reducible exact Below.refl _ _) | (with_reducible assumption) | (with_reducible refine below_drewN ?_ _) | (with_reducible refine Below.alloc ?_ ?_ _) | (with_reducible refine Below.drew ?_) | (with_reducible refine Below.setCell ?_ ?_ _) | go_size))⟩
  | nil =>
    by_cases h1 : ty = 1
    · have HZ := Lib.hid (show Z = true by rw [HD.out, h1]; rfl)
      subst h1
      go_enter Tryd.func10, Tryd.ntmps10
      go_wp2_with fail
      refine (HT.out _ (by (repeat' (first | (with_reducible exact Below.refl _ _) | (with_reducible assumption) | (with_reducible refine below_drewN ?_ _) | (with_reducible refine Below.alloc ?_ ?_ _) | (with_reducible refine Below.drew ?_) | (with_reducible refine Below.setCell ?_ ?_ _) | go_size)))).mono ?_; rintro e w1 ⟨rfl, hb1⟩
      go_wp2_with fail
      go_ret
      exact ⟨by rw [HZ.out]; rfl, Below.trans (by (repeat' (first | (with_reducible exact Below.refl _ _) | (with_reducible assumption) | (with_reducible refine below_drewN ?_ _) | (with_reducible refine Below.alloc ?_ ?_ _) | (with_reducible refine Below.drew ?_) | (with_reducible refine Below.setCell ?_ ?_ _) | go_size))) (hb1.mono (by simp; omega))⟩
    · have HZ := Lib.hid (show Z = false by rw [HD.out]; simp [h1])
      have q1 : (ty == 1) = false := beq_eq_false_iff_ne.2 h1
      clear h1
      go_enter Tryd.func10, Tryd.ntmps10
      go_wp2_with fail
      refine (HT.out _ (by (repeat' (first | (with_reducible exact Below.refl _ _) | (with_reducible assumption) | (with_reducible refine below_drewN ?_ _) | (with_reducible refine Below.alloc ?_ ?_ _) | (with_reducible refine Below.drew ?_) | (with_reducible refine Below.setCell ?_ ?_ _) | go_size)))).mono ?_; rintro e w1 ⟨rfl, hb1⟩
      go_wp2_with fail
      go_ret
      exact ⟨by rw [HZ.out]; rfl, Below.trans (by (repeat' (first | (with_reducible exact Below.refl _ _) | (with_reducible assumption) | (with_reducible refine below_drewN ?_ _) | (with_reducible refine Below.alloc ?_ ?_ _) | (with_reducible refine Below.drew ?_) | (with_reducible refine Below.setCell ?_ ?_ _) | go_size))) (hb1.mono (by simp; omega))⟩
end Go.Proofs.YtknbomikiakpmaaDoor

/- Layer 43: nnf.Count. -/
namespace Go.Proofs.YtknbomikiakpmaaDoor
open Go.RowKit
open NN
set_option linter.unusedSimpArgs false
set_option linter.unusedVariables false
set_option maxRecDepth 100000 in
set_option maxHeartbeats 8000000 in
theorem nnf_Count (a b c d : Value) (s : Sc) (e : Ex) : ∀ (w : World) (v : Value), SmallE 300 e → ScAt w a b d s → ExV w v e → AGoes w → BTab w →
    Calls Tryd.prog 14 #[.agg #[a, b, c, d], v] w fun r w' => r = .returned (.int .i64 (cntE s e)) ∧ Below w.heap.size w w' := by
  induction e using Ex.ind with
  | h op t n m l ih =>
    intro w v he hs hv hg hT
    have HNot := Lib.hid (fun W (hb : Below w.heap.size w W) => nnf_not _ W v (hv.below hb))
    have HBoth := Lib.hid (fun W (hb : Below w.heap.size w W) => nnf_both _ W v (hv.below hb))
    have HLeaf := Lib.hid (fun W (hb : Below w.heap.size w W) => nnf_Leaf a b c d s _ he W v (hs.below hb) (hv.below hb) (hg.below hb) (hT.below hb))
    have HIH := Lib.hid (fun x (hx : x ∈ l) W u (hb : Below w.heap.size w W) (hu : ExV W u x) => ih x hx W u (he.within x hx) (hs.below hb) hu (hg.below hb) (hT.below hb))
    have HLf := Lib.hid (fun x (hx : x ∈ l) W u (hb : Below w.heap.size w W) (hu : ExV W u x) => nnf_Leaf a b c d s x (he.within x hx) W u (hs.below hb) hu (hg.below hb) (hT.below hb))
    obtain ⟨sl, rfl, hr, hrow⟩ := hv
    simp only at hrow
    obtain ⟨sa, sc, rfl⟩ := row_get hrow
    have HRow := Lib.hid hrow
    obtain ⟨W0, hW0⟩ : ∃ W0, W0 = (w.alloc (.cells #[a, b, c, d] 43)).alloc (.cells #[.int .i64 op, .int .i64 t, .int .i64 n, .int .i64 m, .slice sa l.length sc] 37) := ⟨_, rfl⟩
    obtain ⟨k1, k2, k3, k4⟩ := boxed2 w [a, b, c, d] [.int .i64 op, .int .i64 t, .int .i64 n, .int .i64 m, .slice sa l.length sc] 43 37 (W' := W0) (by rw [hW0]; exact Below.refl _ _)
    have HW0 := Lib.hid hW0
    have K1 := Lib.hid k1
    have K2 := Lib.hid k2
    have z1 : w.heap.size < W0.heap.size := by omega
    have mixed : Tryd.prog.follows .mixedOrders = true := by kernel_rfl
    clear k1 k2 hW0 hr hrow ih hs hg hT he
    simp only at HNot HBoth HLeaf
    cases hn : notB ⟨op, t, n, m, l⟩ with
    | true =>
      rw [hn] at HNot
      obtain ⟨x, hx⟩ := notB_is hn
      injection hx with e1 e2 e3 e4 e5
      subst e1 e2 e3 e4 e5
      rw [cntE_un]
      obtain ⟨bx, ox, ss, sn, sc2, rfl, hbx, q1, q2, d0, d1, d2, d3, d4, dV⟩ := ex_at HRow.out (k := 0) (x := x) rfl
      have hl1 : ([x] : List Ex).length = 1 := rfl
      rw [hl1] at HW0 K2 HNot ⊢
      clear hl1
      have HDV := Lib.hid dV
      have HI := Lib.hid (HIH.out x (by simp))
      generalize cntE s x = Z at *
      clear dV hn HIH HLf HBoth HLeaf HRow q1 q2
      go_enter Tryd.func14, Tryd.ntmps14
      go_wp2_with fail
      refine (HNot.out _ (by (repeat' (first | (with_reducible exact Below.refl _ _) | (with_reducible assumption) | (with_reducible refine below_drewN ?_ _) | (with_reducible refine Below.alloc ?_ ?_ _) | (with_reducible refine Below.drew ?_) | (with_reducible refine Below.setCell ?_ ?_ _) | go_size)))).mono ?_; rintro e w1 ⟨rfl, hb1⟩
      rw [← HW0.out] at hb1
      have hbw := k4.trans (hb1.mono k4.size)
      have HBw := Lib.hid hbw
      have y1 : w.heap.size < w1.heap.size := Nat.lt_of_lt_of_le z1 hb1.size
      have y2 : w.heap.size + 1 < w1.heap.size := Nat.lt_of_lt_of_le k3 hb1.size
      have yb : bx < w1.heap.size := Nat.lt_of_lt_of_le hbx hbw.size
      have e00 := (K1.out.keep z1 hb1) 0 _ rfl
      have e01 := (K1.out.keep z1 hb1) 1 _ rfl
      have e02 := (K1.out.keep z1 hb1) 2 _ rfl
      have e03 := (K1.out.keep z1 hb1) 3 _ rfl
      have e24 := (K2.out.keep k3 hb1) 4 _ rfl
      have c0 : w1.cell? ⟨bx, ox, none⟩ = some (.int .i64 x.op) := (hbw.cell (p := ⟨bx, ox, none⟩) hbx).trans (by simpa using d0)
      have c1 : w1.cell? ⟨bx, ox + 1, none⟩ = some (.int .i64 x.t) := (hbw.cell (p := ⟨bx, ox + 1, none⟩) hbx).trans (by simpa using d1)
      have c2 : w1.cell? ⟨bx, ox + 2, none⟩ = some (.int .i64 x.n) := (hbw.cell (p := ⟨bx, ox + 2, none⟩) hbx).trans (by simpa using d2)
      have c3 : w1.cell? ⟨bx, ox + 3, none⟩ = some (.int .i64 x.m) := (hbw.cell (p := ⟨bx, ox + 3, none⟩) hbx).trans (by simpa using d3)
      have c4 : w1.cell? ⟨bx, ox + 4, none⟩ = some (.slice ss sn sc2) := (hbw.cell (p := ⟨bx, ox + 4, none⟩) hbx).trans (by simpa using d4)
      have HV1 := Lib.hid (fun W (hb : Below w1.heap.size w1 W) => (HDV.out.below hbw).below hb)
      clear d0 d1 d2 d3 d4 hb1
      obtain ⟨xop, xt, xn, xm, xl⟩ := x
      simp only at c0 c1 c2 c3 HV1
      go_wp2_with fail
      have qq0 := fun wt (h : Below w1.heap.size w1 wt) => cellB h e00 y1
      have qq1 := fun wt (h : Below w1.heap.size w1 wt) => cellB h e01 y1
      have qq2 := fun wt (h : Below w1.heap.size w1 wt) => cellB h e02 y1
      have qq3 := fun wt (h : Below w1.heap.size w1 wt) => cellB h e03 y1
      have qq4 := fun wt (h : Below w1.heap.size w1 wt) => cellB h e24 y2
      have qq5 := fun wt (h : Below w1.heap.size w1 wt) => cellB h c0 yb
      have qq6 := fun wt (h : Below w1.heap.size w1 wt) => cellB h c1 yb
      have qq7 := fun wt (h : Below w1.heap.size w1 wt) => cellB h c2 yb
      have qq8 := fun wt (h : Below w1.heap.size w1 wt) => cellB h c3 yb
      have qq9 := fun wt (h : Below w1.heap.size w1 wt) => cellB h c4 yb
      refine wp_region_held_drew (S := (fun w' => Below w1.heap.size w1 w')) (by kernel_rfl) ?_ (fun hHeld => ?_)
      · (try dsimp only); first | assumption | exact Below.alloc hHeld hHeld.size _ | exact (Below.refl _ _).drew | exact Below.drew (Below.refl _ _) | exact Below_drewN _ _ _ | exact Below.refl _ _
      refine tk 0 (v := ?_) (hy := ?_) (h := ?_); rotate_left
      · intro wt hSw; (try dsimp only at hSw); go_simp <;> with_reducible rfl
      try simp only [pu, pa, pz, ps]
      refine tk 1 (v := ?_) (hy := ?_) (h := ?_); rotate_left
      · intro _ _; go_simp <;> with_reducible rfl
      try simp only [pu, pa, pz, ps]
      refine tk 2 (v := ?_) (hy := ?_) (h := ?_); rotate_left
      · intro wt hSw; (try dsimp only at hSw); go_simp <;> with_reducible rfl
      try simp only [pu, pa, pz, ps]
      refine tk 3 (v := ?_) (hy := ?_) (h := ?_); rotate_left
      · intro _ _; go_simp <;> with_reducible rfl
      try simp only [pu, pa, pz, ps]
      refine tk 4 (v := ?_) (hy := ?_) (h := ?_); rotate_left
      · intro wt hSw; (try dsimp only at hSw); go_simp <;> with_reducible rfl
      try simp only [pu, pa, pz, ps]
      refine wpAnyH_ready (rs := [5]) (by kernel_rfl) (by simp) ?_
      refine AllReadyH.cons (o := ⟨_, _, _, _, _, _⟩) rfl (fun K hK => ?_) AllReadyH.nil
      go_simp
      refine (HI.out _ _ (HBw.out.trans (hHeld.mono HBw.out.size)) (HV1.out _ hHeld)).mono ?_; rintro e v1 ⟨rfl, hb2⟩; have hHeld := hHeld.trans (hb2.mono hHeld.size); clear hb2
      go_wp2_with fail
      refine hK.out _ _ ?_ (fun hHeld => ?_)
      · (try dsimp only); first | assumption | exact Below.alloc hHeld hHeld.size _ | exact (Below.refl _ _).drew | exact Below.drew (Below.refl _ _) | exact Below_drewN _ _ _ | exact Below.refl _ _
      clear hK K
      try simp only [pu, pa, pz, ps]
      refine tk 6 (v := ?_) (hy := ?_) (h := ?_); rotate_left
      · intro _ _; go_simp <;> with_reducible rfl
      try simp only [pu, pa, pz, ps]
      refine wpAnyH_done (by kernel_rfl) ?_ _
      have HBn := Lib.hid (HBw.out.trans (hHeld.mono HBw.out.size))
      go_wp2_with fail
      go_ret
      exact ⟨rfl, HBn.out⟩
    | false =>
      rw [hn] at HNot
      have HJ := Lib.hid (fun W => nnf_junction m W)
      have HP := Lib.hid (fun W => nnf_parity m W)
      cases hb : bothB ⟨op, t, n, m, l⟩ with
      | false =>
        rw [hb] at HBoth
        rw [cntE_leaf s _ hn (by rw [hb]; rfl)]
        generalize leafB s ⟨op, t, n, m, l⟩ = zl at *
        generalize l.length = N at *
        clear hn hb HIH HLf HRow HJ HP
        go_enter Tryd.func14, Tryd.ntmps14
        go_wp2_with fail
        refine (HNot.out _ (by (repeat' (first | (with_reducible exact Below.refl _ _) | (with_reducible assumption) | (with_reducible refine below_drewN ?_ _) | (with_reducible refine Below.alloc ?_ ?_ _) | (with_reducible refine Below.drew ?_) | (with_reducible refine Below.setCell ?_ ?_ _) | go_size)))).mono ?_; rintro e w1 ⟨rfl, hb1⟩
        rw [← HW0.out] at hb1
        have hbw := k4.trans (hb1.mono k4.size)
        have e20 := (K2.out.keep k3 hb1) 0 _ rfl
        have e21 := (K2.out.keep k3 hb1) 1 _ rfl
        have e22 := (K2.out.keep k3 hb1) 2 _ rfl
        have e23 := (K2.out.keep k3 hb1) 3 _ rfl
        have e24 := (K2.out.keep k3 hb1) 4 _ rfl
        go_wp2_with fail
        refine (HBoth.out _ hbw).mono ?_; rintro e w2 ⟨rfl, hb2⟩
        have hb2 := hb1.trans (hb2.mono hb1.size)
        have hbw2 := k4.trans (hb2.mono k4.size)
        clear e20 e21 e22 e23 e24 hb1 hbw
        have e20 := (K2.out.keep k3 hb2) 0 _ rfl
        have e21 := (K2.out.keep k3 hb2) 1 _ rfl
        have e22 := (K2.out.keep k3 hb2) 2 _ rfl
        have e23 := (K2.out.keep k3 hb2) 3 _ rfl
        have e24 := (K2.out.keep k3 hb2) 4 _ rfl
        have e00 := (K1.out.keep z1 hb2) 0 _ rfl
        have e01 := (K1.out.keep z1 hb2) 1 _ rfl
        have e02 := (K1.out.keep z1 hb2) 2 _ rfl
        have e03 := (K1.out.keep z1 hb2) 3 _ rfl
        cases zl with
        | true =>
          go_wp2_with fail
          refine (HLeaf.out _ hbw2).mono ?_; rintro e w3 ⟨rfl, hb3⟩
          go_wp2_with fail
          go_ret
          exact ⟨rfl, hbw2.trans (hb3.mono hbw2.size)⟩
        | false =>
          go_wp2_with fail
          refine (HLeaf.out _ hbw2).mono ?_; rintro e w3 ⟨rfl, hb3⟩
          go_wp2_with fail
          go_ret
          exact ⟨rfl, hbw2.trans (hb3.mono hbw2.size)⟩
      | true =>
        rw [hb] at HBoth
        cases hjp : (jun m || par m) with
        | false =>
          rw [cntE_leaf s _ hn (by rw [hb]; exact hjp)]
          obtain ⟨hj, hp⟩ : jun m = false ∧ par m = false := by simpa using hjp
          rw [hj] at HJ
          rw [hp] at HP
          generalize leafB s ⟨op, t, n, m, l⟩ = zl at *
          generalize l.length = N at *
          clear hn hb HIH HLf HRow hjp hj hp
          go_enter Tryd.func14, Tryd.ntmps14
          go_wp2_with fail
          refine (HNot.out _ (by (repeat' (first | (with_reducible exact Below.refl _ _) | (with_reducible assumption) | (with_reducible refine below_drewN ?_ _) | (with_reducible refine Below.alloc ?_ ?_ _) | (with_reducible refine Below.drew ?_) | (with_reducible refine Below.setCell ?_ ?_ _) | go_size)))).mono ?_; rintro e w1 ⟨rfl, hb1⟩
          rw [← HW0.out] at hb1
          have hbw := k4.trans (hb1.mono k4.size)
          have e20 := (K2.out.keep k3 hb1) 0 _ rfl
          have e21 := (K2.out.keep k3 hb1) 1 _ rfl
          have e22 := (K2.out.keep k3 hb1) 2 _ rfl
          have e23 := (K2.out.keep k3 hb1) 3 _ rfl
          have e24 := (K2.out.keep k3 hb1) 4 _ rfl
          go_wp2_with fail
          refine (HBoth.out _ hbw).mono ?_; rintro e w2 ⟨rfl, hb2⟩
          have hb2 := hb1.trans (hb2.mono hb1.size)
          have hbw2 := k4.trans (hb2.mono k4.size)
          clear e20 e21 e22 e23 e24 hb1 hbw
          have e20 := (K2.out.keep k3 hb2) 0 _ rfl
          have e21 := (K2.out.keep k3 hb2) 1 _ rfl
          have e22 := (K2.out.keep k3 hb2) 2 _ rfl
          have e23 := (K2.out.keep k3 hb2) 3 _ rfl
          have e24 := (K2.out.keep k3 hb2) 4 _ rfl
          have e00 := (K1.out.keep z1 hb2) 0 _ rfl
          have e01 := (K1.out.keep z1 hb2) 1 _ rfl
          have e02 := (K1.out.keep z1 hb2) 2 _ rfl
          have e03 := (K1.out.keep z1 hb2) 3 _ rfl
          go_wp2_with fail
          refine (HJ.out _).mono ?_; rintro e v1 ⟨rfl, rfl⟩
          go_wp2_with fail
          refine (HP.out _).mono ?_; rintro e v2 ⟨rfl, rfl⟩
          cases zl with
          | true =>
            go_wp2_with fail
            refine (HLeaf.out _ hbw2).mono ?_; rintro e w3 ⟨rfl, hb3⟩
            go_wp2_with fail
            go_ret
            exact ⟨rfl, hbw2.trans (hb3.mono hbw2.size)⟩
          | false =>
            go_wp2_with fail
            refine (HLeaf.out _ hbw2).mono ?_; rintro e w3 ⟨rfl, hb3⟩
            go_wp2_with fail
            go_ret
            exact ⟨rfl, hbw2.trans (hb3.mono hbw2.size)⟩
        | true =>
          obtain ⟨m', x, y, hx⟩ := bothB_is hb
          injection hx with e1 e2 e3 e4 e5
          subst e1 e2 e3 e4 e5
          rw [cntE_bin s m x y hjp]
          obtain ⟨bx, ox, ss, sn, sc2, rfl, hbx, _, _, d0, d1, d2, d3, d4, dV⟩ := ex_at HRow.out (k := 0) (x := x) rfl
          obtain ⟨_, _, ss', sn', sc2', hh, _, _, _, d5, d6, d7, d8, d9, dV'⟩ := ex_at HRow.out (k := 1) (x := y) rfl
          obtain ⟨rfl, rfl⟩ : bx = _ ∧ ox = _ := by injection hh with hh; injection hh with h1 h2; exact ⟨h1, h2⟩
          have hl2 : ([x, y] : List Ex).length = 2 := rfl
          rw [hl2] at HW0 K2 HNot HBoth ⊢
          clear hl2
          have HDV := Lib.hid (And.intro dV dV')
          have HX := Lib.hid (HIH.out x (by simp))
          have HY := Lib.hid (HIH.out y (by simp))
          have HJ := Lib.hid (fun W => nnf_junction m W)
          have HBx := Lib.hid (cnt_told s x).1
          have HBy := Lib.hid (cnt_told s y).1
          generalize cntE s x = zx at *
          generalize cntE s y = zy at *
          have HCF := Lib.hid (show cntF m zx zy = (if (if par m = true then (zx + zy) * 2 else zx + zy) < 25 then (if par m = true then (zx + zy) * 2 else zx + zy) else 25) from rfl)
          generalize cntF m zx zy = Z at *
          generalize par m = zp at *
          generalize jun m = zj at *
          clear dV dV' hn hb hh HIH HLf HLeaf HRow
          go_enter Tryd.func14, Tryd.ntmps14
          go_wp2_with fail
          refine (HNot.out _ (by (repeat' (first | (with_reducible exact Below.refl _ _) | (with_reducible assumption) | (with_reducible refine below_drewN ?_ _) | (with_reducible refine Below.alloc ?_ ?_ _) | (with_reducible refine Below.drew ?_) | (with_reducible refine Below.setCell ?_ ?_ _) | go_size)))).mono ?_; rintro e w1 ⟨rfl, hb1⟩
          rw [← HW0.out] at hb1
          have hbw := k4.trans (hb1.mono k4.size)
          have e20 := (K2.out.keep k3 hb1) 0 _ rfl
          have e21 := (K2.out.keep k3 hb1) 1 _ rfl
          have e22 := (K2.out.keep k3 hb1) 2 _ rfl
          have e23 := (K2.out.keep k3 hb1) 3 _ rfl
          have e24 := (K2.out.keep k3 hb1) 4 _ rfl
          go_wp2_with fail
          refine (HBoth.out _ hbw).mono ?_; rintro e w2 ⟨rfl, hb2⟩
          have hb2 := hb1.trans (hb2.mono hb1.size)
          have hbw2 := k4.trans (hb2.mono k4.size)
          have HBw := Lib.hid hbw2
          clear e20 e21 e22 e23 e24 hb1 hbw
          have y1 : w.heap.size < w2.heap.size := Nat.lt_of_lt_of_le z1 hb2.size
          have y2 : w.heap.size + 1 < w2.heap.size := Nat.lt_of_lt_of_le k3 hb2.size
          have yb : bx < w2.heap.size := Nat.lt_of_lt_of_le hbx hbw2.size
          have e00 := (K1.out.keep z1 hb2) 0 _ rfl
          have e01 := (K1.out.keep z1 hb2) 1 _ rfl
          have e02 := (K1.out.keep z1 hb2) 2 _ rfl
          have e03 := (K1.out.keep z1 hb2) 3 _ rfl
          have e20 := (K2.out.keep k3 hb2) 0 _ rfl
          have e21 := (K2.out.keep k3 hb2) 1 _ rfl
          have e22 := (K2.out.keep k3 hb2) 2 _ rfl
          have e23 := (K2.out.keep k3 hb2) 3 _ rfl
          have e24 := (K2.out.keep k3 hb2) 4 _ rfl
          have c0 : w2.cell? ⟨bx, ox, none⟩ = some (.int .i64 x.op) := (hbw2.cell (p := ⟨bx, ox, none⟩) hbx).trans (by simpa using d0)
          have c1 : w2.cell? ⟨bx, ox + 1, none⟩ = some (.int .i64 x.t) := (hbw2.cell (p := ⟨bx, ox + 1, none⟩) hbx).trans (by simpa using d1)
          have c2 : w2.cell? ⟨bx, ox + 2, none⟩ = some (.int .i64 x.n) := (hbw2.cell (p := ⟨bx, ox + 2, none⟩) hbx).trans (by simpa using d2)
          have c3 : w2.cell? ⟨bx, ox + 3, none⟩ = some (.int .i64 x.m) := (hbw2.cell (p := ⟨bx, ox + 3, none⟩) hbx).trans (by simpa using d3)
          have c4 : w2.cell? ⟨bx, ox + 4, none⟩ = some (.slice ss sn sc2) := (hbw2.cell (p := ⟨bx, ox + 4, none⟩) hbx).trans (by simpa using d4)
          have c5 : w2.cell? ⟨bx, ox + 5, none⟩ = some (.int .i64 y.op) := (hbw2.cell (p := ⟨bx, ox + 5, none⟩) hbx).trans (by simpa using d5)
          have c6 : w2.cell? ⟨bx, ox + 5 + 1, none⟩ = some (.int .i64 y.t) := (hbw2.cell (p := ⟨bx, ox + 5 + 1, none⟩) hbx).trans (by simpa using d6)
          have c7 : w2.cell? ⟨bx, ox + 5 + 2, none⟩ = some (.int .i64 y.n) := (hbw2.cell (p := ⟨bx, ox + 5 + 2, none⟩) hbx).trans (by simpa using d7)
          have c8 : w2.cell? ⟨bx, ox + 5 + 3, none⟩ = some (.int .i64 y.m) := (hbw2.cell (p := ⟨bx, ox + 5 + 3, none⟩) hbx).trans (by simpa using d8)
          have c9 : w2.cell? ⟨bx, ox + 5 + 4, none⟩ = some (.slice ss' sn' sc2') := (hbw2.cell (p := ⟨bx, ox + 5 + 4, none⟩) hbx).trans (by simpa using d9)
          have HVx := Lib.hid (fun W (hb : Below w2.heap.size w2 W) => (HDV.out.1.below hbw2).below hb)
          have HVy := Lib.hid (fun W (hb : Below w2.heap.size w2 W) => (HDV.out.2.below hbw2).below hb)
          clear d0 d1 d2 d3 d4 d5 d6 d7 d8 d9 hb2 hbw2
          obtain ⟨xop, xt, xn, xm, xl⟩ := x
          obtain ⟨yop, yt, yn, ym, yl⟩ := y
          simp only at c0 c1 c2 c3 c5 c6 c7 c8 HVx HVy
          cases zj with
          | true =>
           cases zp with
           | true =>
            obtain ⟨bx1, bx2⟩ := HBx.out
            obtain ⟨by1, by2⟩ := HBy.out
            go_wp2_with fail
            refine (HJ.out _).mono ?_; rintro e v1 ⟨rfl, hv1⟩; rw [hv1]; clear hv1
            go_wp2_with fail
            have qq0 := fun wt (h : Below w2.heap.size w2 wt) => cellB h e00 y1
            have qq1 := fun wt (h : Below w2.heap.size w2 wt) => cellB h e01 y1
            have qq2 := fun wt (h : Below w2.heap.size w2 wt) => cellB h e02 y1
            have qq3 := fun wt (h : Below w2.heap.size w2 wt) => cellB h e03 y1
            have qq4 := fun wt (h : Below w2.heap.size w2 wt) => cellB h e24 y2
            have qq5 := fun wt (h : Below w2.heap.size w2 wt) => cellB h c0 yb
            have qq6 := fun wt (h : Below w2.heap.size w2 wt) => cellB h c1 yb
            have qq7 := fun wt (h : Below w2.heap.size w2 wt) => cellB h c2 yb
            have qq8 := fun wt (h : Below w2.heap.size w2 wt) => cellB h c3 yb
            have qq9 := fun wt (h : Below w2.heap.size w2 wt) => cellB h c4 yb
            have qq10 := fun wt (h : Below w2.heap.size w2 wt) => cellB h c5 yb
            have qq11 := fun wt (h : Below w2.heap.size w2 wt) => cellB h c6 yb
            have qq12 := fun wt (h : Below w2.heap.size w2 wt) => cellB h c7 yb
            have qq13 := fun wt (h : Below w2.heap.size w2 wt) => cellB h c8 yb
            have qq14 := fun wt (h : Below w2.heap.size w2 wt) => cellB h c9 yb
            refine wp_region_held_drew (S := (fun w' => Below w2.heap.size w2 w')) (by kernel_rfl) ?_ (fun hHeld => ?_)
            · (try dsimp only); first | assumption | exact Below.alloc hHeld hHeld.size _ | exact (Below.refl _ _).drew | exact Below.drew (Below.refl _ _) | exact Below_drewN _ _ _ | exact Below.refl _ _
            refine tk 0 (v := ?_) (hy := ?_) (h := ?_); rotate_left
            · intro wt hSw; (try dsimp only at hSw); go_simp <;> with_reducible rfl
            try simp only [pu, pa, pz, ps]
            refine tk 1 (v := ?_) (hy := ?_) (h := ?_); rotate_left
            · intro _ _; go_simp <;> with_reducible rfl
            try simp only [pu, pa, pz, ps]
            refine tk 2 (v := ?_) (hy := ?_) (h := ?_); rotate_left
            · intro wt hSw; (try dsimp only at hSw); go_simp <;> with_reducible rfl
            try simp only [pu, pa, pz, ps]
            refine tk 3 (v := ?_) (hy := ?_) (h := ?_); rotate_left
            · intro _ _; go_simp <;> with_reducible rfl
            try simp only [pu, pa, pz, ps]
            refine tk 4 (v := ?_) (hy := ?_) (h := ?_); rotate_left
            · intro wt hSw; (try dsimp only at hSw); go_simp <;> with_reducible rfl
            try simp only [pu, pa, pz, ps]
            refine tk 6 (v := ?_) (hy := ?_) (h := ?_); rotate_left
            · intro wt hSw; (try dsimp only at hSw); go_simp <;> with_reducible rfl
            try simp only [pu, pa, pz, ps]
            refine tk 7 (v := ?_) (hy := ?_) (h := ?_); rotate_left
            · intro _ _; go_simp <;> with_reducible rfl
            try simp only [pu, pa, pz, ps]
            refine tk 8 (v := ?_) (hy := ?_) (h := ?_); rotate_left
            · intro wt hSw; (try dsimp only at hSw); go_simp <;> with_reducible rfl
            try simp only [pu, pa, pz, ps]
            refine tk 9 (v := ?_) (hy := ?_) (h := ?_); rotate_left
            · intro _ _; go_simp <;> with_reducible rfl
            try simp only [pu, pa, pz, ps]
            refine tk 10 (v := ?_) (hy := ?_) (h := ?_); rotate_left
            · intro wt hSw; (try dsimp only at hSw); go_simp <;> with_reducible rfl
            try simp only [pu, pa, pz, ps]
            refine wpAnyH_ready (rs := [5]) (by kernel_rfl) (by simp) ?_
            refine AllReadyH.cons (o := ⟨_, _, _, _, _, _⟩) rfl (fun K hK => ?_) AllReadyH.nil
            go_simp
            refine (HX.out _ _ (HBw.out.trans (hHeld.mono HBw.out.size)) (HVx.out _ hHeld)).mono ?_; rintro e v2 ⟨rfl, hb2⟩; have hHeld := hHeld.trans (hb2.mono hHeld.size); clear hb2
            go_wp2_with fail
            refine hK.out _ _ ?_ (fun hHeld => ?_)
            · (try dsimp only); first | assumption | exact Below.alloc hHeld hHeld.size _ | exact (Below.refl _ _).drew | exact Below.drew (Below.refl _ _) | exact Below_drewN _ _ _ | exact Below.refl _ _
            clear hK K
            try simp only [pu, pa, pz, ps]
            refine wpAnyH_ready (rs := [11]) (by kernel_rfl) (by simp) ?_
            refine AllReadyH.cons (o := ⟨_, _, _, _, _, _⟩) rfl (fun K hK => ?_) AllReadyH.nil
            go_simp
            refine (HY.out _ _ (HBw.out.trans (hHeld.mono HBw.out.size)) (HVy.out _ hHeld)).mono ?_; rintro e v3 ⟨rfl, hb3⟩; have hHeld := hHeld.trans (hb3.mono hHeld.size); clear hb3
            go_wp2_with fail
            refine hK.out _ _ ?_ (fun hHeld => ?_)
            · (try dsimp only); first | assumption | exact Below.alloc hHeld hHeld.size _ | exact (Below.refl _ _).drew | exact Below.drew (Below.refl _ _) | exact Below_drewN _ _ _ | exact Below.refl _ _
            clear hK K
            try simp only [pu, pa, pz, ps]
            refine tk 12 (v := ?_) (hy := ?_) (h := ?_); rotate_left
            · intro _ _; go_simp <;> with_reducible rfl
            try simp only [pu, pa, pz, ps]
            refine tk 13 (v := ?_) (hy := ?_) (h := ?_); rotate_left
            · intro _ _; go_simp <;> with_reducible rfl
            try simp only [pu, pa, pz, ps]
            refine wpAnyH_done (by kernel_rfl) ?_ _
            have HBn := Lib.hid (HBw.out.trans (hHeld.mono HBw.out.size))
            have E23 := cellB hHeld e23 y2
            go_wp2_with fail
            refine (HP.out _).mono ?_; rintro e v5 ⟨rfl, rfl⟩
            go_wp2_with fail
            all_goals
              go_ret
              refine ⟨?_, HBn.out⟩
              rw [HCF.out]
              first | (simp; done) | (simp; intro h; omega) | (simp; omega) | (split <;> simp <;> omega)
           | false =>
            obtain ⟨bx1, bx2⟩ := HBx.out
            obtain ⟨by1, by2⟩ := HBy.out
            go_wp2_with fail
            refine (HJ.out _).mono ?_; rintro e v1 ⟨rfl, hv1⟩; rw [hv1]; clear hv1
            go_wp2_with fail
            have qq0 := fun wt (h : Below w2.heap.size w2 wt) => cellB h e00 y1
            have qq1 := fun wt (h : Below w2.heap.size w2 wt) => cellB h e01 y1
            have qq2 := fun wt (h : Below w2.heap.size w2 wt) => cellB h e02 y1
            have qq3 := fun wt (h : Below w2.heap.size w2 wt) => cellB h e03 y1
            have qq4 := fun wt (h : Below w2.heap.size w2 wt) => cellB h e24 y2
            have qq5 := fun wt (h : Below w2.heap.size w2 wt) => cellB h c0 yb
            have qq6 := fun wt (h : Below w2.heap.size w2 wt) => cellB h c1 yb
            have qq7 := fun wt (h : Below w2.heap.size w2 wt) => cellB h c2 yb
            have qq8 := fun wt (h : Below w2.heap.size w2 wt) => cellB h c3 yb
            have qq9 := fun wt (h : Below w2.heap.size w2 wt) => cellB h c4 yb
            have qq10 := fun wt (h : Below w2.heap.size w2 wt) => cellB h c5 yb
            have qq11 := fun wt (h : Below w2.heap.size w2 wt) => cellB h c6 yb
            have qq12 := fun wt (h : Below w2.heap.size w2 wt) => cellB h c7 yb
            have qq13 := fun wt (h : Below w2.heap.size w2 wt) => cellB h c8 yb
            have qq14 := fun wt (h : Below w2.heap.size w2 wt) => cellB h c9 yb
            refine wp_region_held_drew (S := (fun w' => Below w2.heap.size w2 w')) (by kernel_rfl) ?_ (fun hHeld => ?_)
            · (try dsimp only); first | assumption | exact Below.alloc hHeld hHeld.size _ | exact (Below.refl _ _).drew | exact Below.drew (Below.refl _ _) | exact Below_drewN _ _ _ | exact Below.refl _ _
            refine tk 0 (v := ?_) (hy := ?_) (h := ?_); rotate_left
            · intro wt hSw; (try dsimp only at hSw); go_simp <;> with_reducible rfl
            try simp only [pu, pa, pz, ps]
            refine tk 1 (v := ?_) (hy := ?_) (h := ?_); rotate_left
            · intro _ _; go_simp <;> with_reducible rfl
            try simp only [pu, pa, pz, ps]
            refine tk 2 (v := ?_) (hy := ?_) (h := ?_); rotate_left
            · intro wt hSw; (try dsimp only at hSw); go_simp <;> with_reducible rfl
            try simp only [pu, pa, pz, ps]
            refine tk 3 (v := ?_) (hy := ?_) (h := ?_); rotate_left
            · intro _ _; go_simp <;> with_reducible rfl
            try simp only [pu, pa, pz, ps]
            refine tk 4 (v := ?_) (hy := ?_) (h := ?_); rotate_left
            · intro wt hSw; (try dsimp only at hSw); go_simp <;> with_reducible rfl
            try simp only [pu, pa, pz, ps]
            refine tk 6 (v := ?_) (hy := ?_) (h := ?_); rotate_left
            · intro wt hSw; (try dsimp only at hSw); go_simp <;> with_reducible rfl
            try simp only [pu, pa, pz, ps]
            refine tk 7 (v := ?_) (hy := ?_) (h := ?_); rotate_left
            · intro _ _; go_simp <;> with_reducible rfl
            try simp only [pu, pa, pz, ps]
            refine tk 8 (v := ?_) (hy := ?_) (h := ?_); rotate_left
            · intro wt hSw; (try dsimp only at hSw); go_simp <;> with_reducible rfl
            try simp only [pu, pa, pz, ps]
            refine tk 9 (v := ?_) (hy := ?_) (h := ?_); rotate_left
            · intro _ _; go_simp <;> with_reducible rfl
            try simp only [pu, pa, pz, ps]
            refine tk 10 (v := ?_) (hy := ?_) (h := ?_); rotate_left
            · intro wt hSw; (try dsimp only at hSw); go_simp <;> with_reducible rfl
            try simp only [pu, pa, pz, ps]
            refine wpAnyH_ready (rs := [5]) (by kernel_rfl) (by simp) ?_
            refine AllReadyH.cons (o := ⟨_, _, _, _, _, _⟩) rfl (fun K hK => ?_) AllReadyH.nil
            go_simp
            refine (HX.out _ _ (HBw.out.trans (hHeld.mono HBw.out.size)) (HVx.out _ hHeld)).mono ?_; rintro e v2 ⟨rfl, hb2⟩; have hHeld := hHeld.trans (hb2.mono hHeld.size); clear hb2
            go_wp2_with fail
            refine hK.out _ _ ?_ (fun hHeld => ?_)
            · (try dsimp only); first | assumption | exact Below.alloc hHeld hHeld.size _ | exact (Below.refl _ _).drew | exact Below.drew (Below.refl _ _) | exact Below_drewN _ _ _ | exact Below.refl _ _
            clear hK K
            try simp only [pu, pa, pz, ps]
            refine wpAnyH_ready (rs := [11]) (by kernel_rfl) (by simp) ?_
            refine AllReadyH.cons (o := ⟨_, _, _, _, _, _⟩) rfl (fun K hK => ?_) AllReadyH.nil
            go_simp
            refine (HY.out _ _ (HBw.out.trans (hHeld.mono HBw.out.size)) (HVy.out _ hHeld)).mono ?_; rintro e v3 ⟨rfl, hb3⟩; have hHeld := hHeld.trans (hb3.mono hHeld.size); clear hb3
            go_wp2_with fail
            refine hK.out _ _ ?_ (fun hHeld => ?_)
            · (try dsimp only); first | assumption | exact Below.alloc hHeld hHeld.size _ | exact (Below.refl _ _).drew | exact Below.drew (Below.refl _ _) | exact Below_drewN _ _ _ | exact Below.refl _ _
            clear hK K
            try simp only [pu, pa, pz, ps]
            refine tk 12 (v := ?_) (hy := ?_) (h := ?_); rotate_left
            · intro _ _; go_simp <;> with_reducible rfl
            try simp only [pu, pa, pz, ps]
            refine tk 13 (v := ?_) (hy := ?_) (h := ?_); rotate_left
            · intro _ _; go_simp <;> with_reducible rfl
            try simp only [pu, pa, pz, ps]
            refine wpAnyH_done (by kernel_rfl) ?_ _
            have HBn := Lib.hid (HBw.out.trans (hHeld.mono HBw.out.size))
            have E23 := cellB hHeld e23 y2
            go_wp2_with fail
            refine (HP.out _).mono ?_; rintro e v5 ⟨rfl, rfl⟩
            go_wp2_with fail
            all_goals
              go_ret
              refine ⟨?_, HBn.out⟩
              rw [HCF.out]
              first | (simp; done) | (simp; intro h; omega) | (simp; omega) | (split <;> simp <;> omega)
          | false =>
           cases zp with
           | true =>
            obtain ⟨bx1, bx2⟩ := HBx.out
            obtain ⟨by1, by2⟩ := HBy.out
            go_wp2_with fail
            refine (HJ.out _).mono ?_; rintro e v1 ⟨rfl, hv1⟩; rw [hv1]; clear hv1
            go_wp2_with fail
            refine (HP.out _).mono ?_; rintro e v4 ⟨rfl, hv4⟩; rw [hv4]; clear hv4
            go_wp2_with fail
            have qq0 := fun wt (h : Below w2.heap.size w2 wt) => cellB h e00 y1
            have qq1 := fun wt (h : Below w2.heap.size w2 wt) => cellB h e01 y1
            have qq2 := fun wt (h : Below w2.heap.size w2 wt) => cellB h e02 y1
            have qq3 := fun wt (h : Below w2.heap.size w2 wt) => cellB h e03 y1
            have qq4 := fun wt (h : Below w2.heap.size w2 wt) => cellB h e24 y2
            have qq5 := fun wt (h : Below w2.heap.size w2 wt) => cellB h c0 yb
            have qq6 := fun wt (h : Below w2.heap.size w2 wt) => cellB h c1 yb
            have qq7 := fun wt (h : Below w2.heap.size w2 wt) => cellB h c2 yb
            have qq8 := fun wt (h : Below w2.heap.size w2 wt) => cellB h c3 yb
            have qq9 := fun wt (h : Below w2.heap.size w2 wt) => cellB h c4 yb
            have qq10 := fun wt (h : Below w2.heap.size w2 wt) => cellB h c5 yb
            have qq11 := fun wt (h : Below w2.heap.size w2 wt) => cellB h c6 yb
            have qq12 := fun wt (h : Below w2.heap.size w2 wt) => cellB h c7 yb
            have qq13 := fun wt (h : Below w2.heap.size w2 wt) => cellB h c8 yb
            have qq14 := fun wt (h : Below w2.heap.size w2 wt) => cellB h c9 yb
            refine wp_region_held_drew (S := (fun w' => Below w2.heap.size w2 w')) (by kernel_rfl) ?_ (fun hHeld => ?_)
            · (try dsimp only); first | assumption | exact Below.alloc hHeld hHeld.size _ | exact (Below.refl _ _).drew | exact Below.drew (Below.refl _ _) | exact Below_drewN _ _ _ | exact Below.refl _ _
            refine tk 0 (v := ?_) (hy := ?_) (h := ?_); rotate_left
            · intro wt hSw; (try dsimp only at hSw); go_simp <;> with_reducible rfl
            try simp only [pu, pa, pz, ps]
            refine tk 1 (v := ?_) (hy := ?_) (h := ?_); rotate_left
            · intro _ _; go_simp <;> with_reducible rfl
            try simp only [pu, pa, pz, ps]
            refine tk 2 (v := ?_) (hy := ?_) (h := ?_); rotate_left
            · intro wt hSw; (try dsimp only at hSw); go_simp <;> with_reducible rfl
            try simp only [pu, pa, pz, ps]
            refine tk 3 (v := ?_) (hy := ?_) (h := ?_); rotate_left
            · intro _ _; go_simp <;> with_reducible rfl
            try simp only [pu, pa, pz, ps]
            refine tk 4 (v := ?_) (hy := ?_) (h := ?_); rotate_left
            · intro wt hSw; (try dsimp only at hSw); go_simp <;> with_reducible rfl
            try simp only [pu, pa, pz, ps]
            refine tk 6 (v := ?_) (hy := ?_) (h := ?_); rotate_left
            · intro wt hSw; (try dsimp only at hSw); go_simp <;> with_reducible rfl
            try simp only [pu, pa, pz, ps]
            refine tk 7 (v := ?_) (hy := ?_) (h := ?_); rotate_left
            · intro _ _; go_simp <;> with_reducible rfl
            try simp only [pu, pa, pz, ps]
            refine tk 8 (v := ?_) (hy := ?_) (h := ?_); rotate_left
            · intro wt hSw; (try dsimp only at hSw); go_simp <;> with_reducible rfl
            try simp only [pu, pa, pz, ps]
            refine tk 9 (v := ?_) (hy := ?_) (h := ?_); rotate_left
            · intro _ _; go_simp <;> with_reducible rfl
            try simp only [pu, pa, pz, ps]
            refine tk 10 (v := ?_) (hy := ?_) (h := ?_); rotate_left
            · intro wt hSw; (try dsimp only at hSw); go_simp <;> with_reducible rfl
            try simp only [pu, pa, pz, ps]
            refine wpAnyH_ready (rs := [5]) (by kernel_rfl) (by simp) ?_
            refine AllReadyH.cons (o := ⟨_, _, _, _, _, _⟩) rfl (fun K hK => ?_) AllReadyH.nil
            go_simp
            refine (HX.out _ _ (HBw.out.trans (hHeld.mono HBw.out.size)) (HVx.out _ hHeld)).mono ?_; rintro e v2 ⟨rfl, hb2⟩; have hHeld := hHeld.trans (hb2.mono hHeld.size); clear hb2
            go_wp2_with fail
            refine hK.out _ _ ?_ (fun hHeld => ?_)
            · (try dsimp only); first | assumption | exact Below.alloc hHeld hHeld.size _ | exact (Below.refl _ _).drew | exact Below.drew (Below.refl _ _) | exact Below_drewN _ _ _ | exact Below.refl _ _
            clear hK K
            try simp only [pu, pa, pz, ps]
            refine wpAnyH_ready (rs := [11]) (by kernel_rfl) (by simp) ?_
            refine AllReadyH.cons (o := ⟨_, _, _, _, _, _⟩) rfl (fun K hK => ?_) AllReadyH.nil
            go_simp
            refine (HY.out _ _ (HBw.out.trans (hHeld.mono HBw.out.size)) (HVy.out _ hHeld)).mono ?_; rintro e v3 ⟨rfl, hb3⟩; have hHeld := hHeld.trans (hb3.mono hHeld.size); clear hb3
            go_wp2_with fail
            refine hK.out _ _ ?_ (fun hHeld => ?_)
            · (try dsimp only); first | assumption | exact Below.alloc hHeld hHeld.size _ | exact (Below.refl _ _).drew | exact Below.drew (Below.refl _ _) | exact Below_drewN _ _ _ | exact Below.refl _ _
            clear hK K
            try simp only [pu, pa, pz, ps]
            refine tk 12 (v := ?_) (hy := ?_) (h := ?_); rotate_left
            · intro _ _; go_simp <;> with_reducible rfl
            try simp only [pu, pa, pz, ps]
            refine tk 13 (v := ?_) (hy := ?_) (h := ?_); rotate_left
            · intro _ _; go_simp <;> with_reducible rfl
            try simp only [pu, pa, pz, ps]
            refine wpAnyH_done (by kernel_rfl) ?_ _
            have HBn := Lib.hid (HBw.out.trans (hHeld.mono HBw.out.size))
            have E23 := cellB hHeld e23 y2
            go_wp2_with fail
            refine (HP.out _).mono ?_; rintro e v5 ⟨rfl, rfl⟩
            go_wp2_with fail
            all_goals
              go_ret
              refine ⟨?_, HBn.out⟩
              rw [HCF.out]
              first | (simp; done) | (simp; intro h; omega) | (simp; omega) | (split <;> simp <;> omega)
           | false => cases hjp
end Go.Proofs.YtknbomikiakpmaaDoor
/- Layer 43: nnf.bin, literal, other: expressions that are made. -/
namespace Go.Proofs.YtknbomikiakpmaaDoor
open Go.RowKit
open NN
set_option linter.unusedSimpArgs false
set_option linter.unusedVariables false
/-- an expression's cells -/
def exC (o t n m : Int) (s : Value) : List Value := [.int .i64 o, .int .i64 t, .int .i64 n, .int .i64 m, s]
theorem row_ex1 {W : World} {b : Nat} {ty : TypeId} {C : List Value} {x : Ex} (h : W.heap[b]? = some (.cells C.toArray ty)) (hl : C.length = 5) (hx : exR W C x) : RowR 5 exR W (.slice (some ⟨b, 0, none⟩) 1 1) [x] := by
  refine Or.inr ⟨b, 0, 1, rfl, by simp, by simp, by unfold maxLen; decide, ?_, fun i y hy => ?_⟩
  · rcases Nat.lt_or_ge b W.heap.size with h1 | h1
    · exact h1
    · rw [Array.getElem?_eq_none h1] at h; cases h
  · have hi : i = 0 := by
      have := lt_of_get hy
      simp at this
      exact this
    subst hi
    obtain rfl : x = y := by simpa using hy
    exact ⟨C, hl, fun j u hu => obj_cell h (by rw [List.getElem?_toArray]; simpa using hu), hx⟩
theorem row_ex2 {W : World} {b : Nat} {ty : TypeId} {C D : List Value} {x y : Ex} (h : W.heap[b]? = some (.cells (C ++ D).toArray ty)) (hl : C.length = 5) (hl2 : D.length = 5) (hx : exR W C x) (hy : exR W D y) : RowR 5 exR W (.slice (some ⟨b, 0, none⟩) 2 2) [x, y] := by
  refine Or.inr ⟨b, 0, 2, rfl, by simp, by simp, by unfold maxLen; decide, ?_, fun i z hz => ?_⟩
  · rcases Nat.lt_or_ge b W.heap.size with h1 | h1
    · exact h1
    · rw [Array.getElem?_eq_none h1] at h; cases h
  · have hi : i < 2 := by simpa using lt_of_get hz
    match i, hi, hz with
    | 0, _, hz =>
      obtain rfl : x = z := by simpa using hz
      refine ⟨C, hl, fun j u hu => obj_cell h ?_, hx⟩
      rw [List.getElem?_toArray, List.getElem?_append_left (by have := lt_of_get hu; omega)]
      simpa using hu
    | 1, _, hz =>
      obtain rfl : y = z := by simpa using hz
      refine ⟨D, hl2, fun j u hu => obj_cell h ?_, hy⟩
      rw [List.getElem?_toArray, List.getElem?_append_right (by omega)]
      rw [show 0 + 1 * 5 + j - C.length = j by omega]
      exact hu
theorem exR_of {w : World} {o t n m : Int} {s : Value} {e : Ex} (h : ExV w (.agg #[.int .i64 o, .int .i64 t, .int .i64 n, .int .i64 m, s]) e) : exR w (exC o t n m s) e := by
  obtain ⟨s', h1, h2, h3⟩ := h
  injection h1 with h1
  have h1 := congrArg Array.toList h1
  simp only [List.cons.injEq, and_true] at h1
  obtain ⟨a1, a2, a3, a4, a5⟩ := h1
  exact exR_eq.2 ⟨s', by unfold exC; rw [a1, a2, a3, a4, a5], h2, h3⟩
theorem exV_lit {w : World} {o t n m : Int} {s : Value} {l : List Ex} (hI : I64 o ∧ I64 t ∧ I64 n ∧ I64 m) (h : RowR 5 exR w s l) : ExV w (.agg #[.int .i64 o, .int .i64 t, .int .i64 n, .int .i64 m, s]) ⟨o, t, n, m, l⟩ := ⟨s, rfl, hI, h⟩
theorem ex_form {w : World} {v : Value} {e : Ex} (h : ExV w v e) : ∃ a k c, v = .agg #[.int .i64 e.op, .int .i64 e.t, .int .i64 e.n, .int .i64 e.m, .slice a k c] := by
  obtain ⟨s, rfl, _, hr⟩ := h
  obtain ⟨a, c, rfl⟩ := row_get hr
  exact ⟨a, _, c, rfl⟩
theorem nnf_other (m : Int) (w : World) : Calls Tryd.prog 47 #[.int .i64 m] w fun r w' => r = .returned (.int .i64 (other m)) ∧ w' = w := by
  by_cases c : m = 14
  · subst c
    go_enter Tryd.func47, Tryd.ntmps47
    go_wp2_with fail
    go_ret
    exact ⟨rfl, rfl⟩
  · have q : (m == 14) = false := beq_eq_false_iff_ne.2 c
    have HZ := Lib.hid (show other m = 14 from if_neg c)
    clear c
    go_enter Tryd.func47, Tryd.ntmps47
    go_wp2_with fail
    go_ret
    exact ⟨by rw [HZ.out]; rfl, rfl⟩
set_option maxRecDepth 100000 in
set_option maxHeartbeats 4000000 in
theorem nnf_bin (m : Int) (x y : Ex) (w : World) (v u : Value) (hm : I64 m) (hv : ExV w v x) (hu : ExV w u y) :
    Calls Tryd.prog 48 #[.int .i64 m, v, u] w fun r w' => ∃ z, r = .returned z ∧ ExV w' z (binE m x y) ∧ Below w.heap.size w w' := by
  obtain ⟨a, k, c, rfl⟩ := ex_form hv
  obtain ⟨a2, k2, c2, rfl⟩ := ex_form hu
  have HX := Lib.hid hv
  have HY := Lib.hid hu
  have HM := Lib.hid hm
  clear hv hu hm
  obtain ⟨xo, xt, xn, xm, xl⟩ := x
  obtain ⟨yo, yt, yn, ym, yl⟩ := y
  simp only at HX HY ⊢
  go_enter Tryd.func48, Tryd.ntmps48
  go_wp2_with fail
  refine bodyPost_ret (by simp [results, Tryd.results48, go_sem, more_cell, more_size, more_frozen]; try rfl) rfl ?_
  have hB : Below w.heap.size w ((((w.alloc (.cells #[.int .i64 xo, .int .i64 xt, .int .i64 xn, .int .i64 xm, .slice a k c] 37)).alloc (.cells #[.int .i64 yo, .int .i64 yt, .int .i64 yn, .int .i64 ym, .slice a2 k2 c2] 37)).alloc (.cells #[.int .i64 7, .int .i64 0, .int .i64 0, .int .i64 m, .slice (some ⟨w.heap.size + 1 + 1 + 1, 0, none⟩) 2 2] 37)).alloc (.cells #[.int .i64 xo, .int .i64 xt, .int .i64 xn, .int .i64 xm, .slice a k c, .int .i64 yo, .int .i64 yt, .int .i64 yn, .int .i64 ym, .slice a2 k2 c2] 37)) := by (repeat' (first | (with_reducible exact Below.refl _ _) | (with_reducible assumption) | (with_reducible refine below_drewN ?_ _) | (with_reducible refine Below.alloc ?_ ?_ _) | (with_reducible refine Below.drew ?_) | (with_reducible refine Below.setCell ?_ ?_ _) | go_size))
  exact ⟨_, rfl, exV_lit ⟨by unfold I64; omega, by unfold I64; omega, by unfold I64; omega, HM.out⟩ (row_ex2 (C := exC xo xt xn xm (.slice a k c)) (D := exC yo yt yn ym (.slice a2 k2 c2)) (get_last (by simp)) rfl rfl (exR_stable _ _ _ _ (exR_of HX.out) hB) (exR_stable _ _ _ _ (exR_of HY.out) hB)), hB⟩
set_option maxRecDepth 100000 in
set_option maxHeartbeats 4000000 in
theorem nnf_literal (x : Ex) (t : Bool) (w : World) (v : Value) (hv : ExV w v x) (h1 : x.op = 1 → I64 (1 - x.n)) :
    Calls Tryd.prog 46 #[v, .bool t] w fun r w' => ∃ z, r = .returned z ∧ ExV w' z (litE x t) ∧ Below w.heap.size w w' := by
  obtain ⟨a, k, c, rfl⟩ := ex_form hv
  have HX := Lib.hid hv
  clear hv
  obtain ⟨xo, xt, xn, xm, xl⟩ := x
  simp only at HX h1 ⊢
  cases t with
  | false =>
    rw [show litE ⟨xo, xt, xn, xm, xl⟩ false = ⟨xo, xt, xn, xm, xl⟩ from rfl]
    clear h1
    go_enter Tryd.func46, Tryd.ntmps46
    go_wp2_with fail
    refine bodyPost_ret (by simp [results, Tryd.results46, go_sem, more_cell, more_size, more_frozen]; try rfl) rfl ?_
    exact ⟨_, rfl, HX.out.below (by (repeat' (first | (with_reducible exact Below.refl _ _) | (with_reducible assumption) | (with_reducible refine below_drewN ?_ _) | (with_reducible refine Below.alloc ?_ ?_ _) | (with_reducible refine Below.drew ?_) | (with_reducible refine Below.setCell ?_ ?_ _) | go_size))), by (repeat' (first | (with_reducible exact Below.refl _ _) | (with_reducible assumption) | (with_reducible refine below_drewN ?_ _) | (with_reducible refine Below.alloc ?_ ?_ _) | (with_reducible refine Below.drew ?_) | (with_reducible refine Below.setCell ?_ ?_ _) | go_size))⟩
  | true =>
    by_cases ho : xo = 1
    · subst ho
      rw [show litE ⟨1, xt, xn, xm, xl⟩ true = ⟨1, 1, 1 - xn, 0, []⟩ from rfl]
      have hI := h1 rfl
      have hw1 : IntKind.i64.wrap (1 - xn) = 1 - xn := IntWalk.i64_in _ hI
      have hw2 : wrap64 (1 - xn) = 1 - xn := by unfold I64 at hI; unfold wrap64; omega
      have HI := Lib.hid hI
      clear h1 hI
      go_enter Tryd.func46, Tryd.ntmps46
      go_wp2_with fail
      refine bodyPost_ret (by simp [results, Tryd.results46, go_sem, more_cell, more_size, more_frozen]; try rfl) rfl ?_
      exact ⟨_, rfl, exV_lit ⟨by unfold I64; omega, by unfold I64; omega, HI.out, by unfold I64; omega⟩ row_none, by (repeat' (first | (with_reducible exact Below.refl _ _) | (with_reducible assumption) | (with_reducible refine below_drewN ?_ _) | (with_reducible refine Below.alloc ?_ ?_ _) | (with_reducible refine Below.drew ?_) | (with_reducible refine Below.setCell ?_ ?_ _) | go_size))⟩
    · have q1 : (xo == 1) = false := beq_eq_false_iff_ne.2 ho
      rw [show litE ⟨xo, xt, xn, xm, xl⟩ true = ⟨6, 0, 0, 17, [⟨xo, xt, xn, xm, xl⟩]⟩ from (if_neg (by simp)).trans (if_neg ho)]
      clear h1 ho
      go_enter Tryd.func46, Tryd.ntmps46
      go_wp2_with fail
      refine bodyPost_ret (by simp [results, Tryd.results46, go_sem, more_cell, more_size, more_frozen]; try rfl) rfl ?_
      have hB : Below w.heap.size w (((w.alloc (.cells #[.int .i64 xo, .int .i64 xt, .int .i64 xn, .int .i64 xm, .slice a k c] 37)).alloc (.cells #[.int .i64 6, .int .i64 0, .int .i64 0, .int .i64 17, .slice (some ⟨w.heap.size + 1 + 1, 0, none⟩) 1 1] 37)).alloc (.cells #[.int .i64 xo, .int .i64 xt, .int .i64 xn, .int .i64 xm, .slice a k c] 37)) := by (repeat' (first | (with_reducible exact Below.refl _ _) | (with_reducible assumption) | (with_reducible refine below_drewN ?_ _) | (with_reducible refine Below.alloc ?_ ?_ _) | (with_reducible refine Below.drew ?_) | (with_reducible refine Below.setCell ?_ ?_ _) | go_size))
      exact ⟨_, rfl, exV_lit ⟨by unfold I64; omega, by unfold I64; omega, by unfold I64; omega, by unfold I64; omega⟩ (row_ex1 (C := exC xo xt xn xm (.slice a k c)) (get_last (by simp)) rfl (exR_stable _ _ _ _ (exR_of HX.out) hB)), hB⟩
end Go.Proofs.YtknbomikiakpmaaDoor

/- Layer 43: the answer's both. -/
namespace Go.Proofs.YtknbomikiakpmaaDoor
open Go.RowKit
open NN
set_option linter.unusedSimpArgs false
set_option linter.unusedVariables false
set_option maxRecDepth 100000 in
set_option maxHeartbeats 4000000 in
theorem ref43_both (m : Int) (x y : Ex) (w : World) (v u : Value) (hm : I64 m) (hv : ExV w v x) (hu : ExV w u y) :
    Calls Tryd.prog 50 #[.int .i64 m, v, u] w fun r w' => ∃ z, r = .returned z ∧ ExV w' z (binE m x y) ∧ Below w.heap.size w w' := by
  obtain ⟨a, k, c, rfl⟩ := ex_form hv
  obtain ⟨a2, k2, c2, rfl⟩ := ex_form hu
  have HX := Lib.hid hv
  have HY := Lib.hid hu
  have HM := Lib.hid hm
  clear hv hu hm
  obtain ⟨xo, xt, xn, xm, xl⟩ := x
  obtain ⟨yo, yt, yn, ym, yl⟩ := y
  simp only at HX HY ⊢
  go_enter Tryd.func50, Tryd.ntmps50
  go_wp2_with fail
  refine bodyPost_ret (by simp [results, Tryd.results50, go_sem, more_cell, more_size, more_frozen]; try rfl) rfl ?_
  have hB : Below w.heap.size w ((((w.alloc (.cells #[.int .i64 xo, .int .i64 xt, .int .i64 xn, .int .i64 xm, .slice a k c] 37)).alloc (.cells #[.int .i64 yo, .int .i64 yt, .int .i64 yn, .int .i64 ym, .slice a2 k2 c2] 37)).alloc (.cells #[.int .i64 7, .int .i64 0, .int .i64 0, .int .i64 m, .slice (some ⟨w.heap.size + 1 + 1 + 1, 0, none⟩) 2 2] 37)).alloc (.cells #[.int .i64 xo, .int .i64 xt, .int .i64 xn, .int .i64 xm, .slice a k c, .int .i64 yo, .int .i64 yt, .int .i64 yn, .int .i64 ym, .slice a2 k2 c2] 37)) := by (repeat' (first | (with_reducible exact Below.refl _ _) | (with_reducible assumption) | (with_reducible refine below_drewN ?_ _) | (with_reducible refine Below.alloc ?_ ?_ _) | (with_reducible refine Below.drew ?_) | (with_reducible refine Below.setCell ?_ ?_ _) | go_size))
  exact ⟨_, rfl, exV_lit ⟨by unfold I64; omega, by unfold I64; omega, by unfold I64; omega, HM.out⟩ (row_ex2 (C := exC xo xt xn xm (.slice a k c)) (D := exC yo yt yn ym (.slice a2 k2 c2)) (get_last (by simp)) rfl rfl (exR_stable _ _ _ _ (exR_of HX.out) hB) (exR_stable _ _ _ _ (exR_of HY.out) hB)), hB⟩
end Go.Proofs.YtknbomikiakpmaaDoor

/- Layer 43: nnf.Is. -/
namespace Go.Proofs.YtknbomikiakpmaaDoor
open Go.RowKit
open NN
set_option linter.unusedSimpArgs false
set_option linter.unusedVariables false
set_option maxRecDepth 100000 in
set_option maxHeartbeats 8000000 in
theorem nnf_Is (a b c d : Value) (s : Sc) (e : Ex) : ∀ (w : World) (v : Value), SmallE 300 e → ScAt w a b d s → ExV w v e → AGoes w → BTab w →
    Calls Tryd.prog 12 #[.agg #[a, b, c, d], v] w fun r w' => r = .returned (.bool (isE s e)) ∧ Below w.heap.size w w' := by
  induction e using Ex.ind with
  | h op t n m l ih =>
    intro w v he hs hv hg hT
    have HNot := Lib.hid (fun W (hb : Below w.heap.size w W) => nnf_not _ W v (hv.below hb))
    have HBoth := Lib.hid (fun W (hb : Below w.heap.size w W) => nnf_both _ W v (hv.below hb))
    have HLeaf := Lib.hid (fun W (hb : Below w.heap.size w W) => nnf_Leaf a b c d s _ he W v (hs.below hb) (hv.below hb) (hg.below hb) (hT.below hb))
    have HIH := Lib.hid (fun x (hx : x ∈ l) W u (hb : Below w.heap.size w W) (hu : ExV W u x) => ih x hx W u (he.within x hx) (hs.below hb) hu (hg.below hb) (hT.below hb))
    have HLf := Lib.hid (fun x (hx : x ∈ l) W u (hb : Below w.heap.size w W) (hu : ExV W u x) => nnf_Leaf a b c d s x (he.within x hx) W u (hs.below hb) hu (hg.below hb) (hT.below hb))
    obtain ⟨sl, rfl, hr, hrow⟩ := hv
    simp only at hrow
    obtain ⟨sa, sc, rfl⟩ := row_get hrow
    have HRow := Lib.hid hrow
    obtain ⟨W0, hW0⟩ : ∃ W0, W0 = (w.alloc (.cells #[a, b, c, d] 43)).alloc (.cells #[.int .i64 op, .int .i64 t, .int .i64 n, .int .i64 m, .slice sa l.length sc] 37) := ⟨_, rfl⟩
    obtain ⟨k1, k2, k3, k4⟩ := boxed2 w [a, b, c, d] [.int .i64 op, .int .i64 t, .int .i64 n, .int .i64 m, .slice sa l.length sc] 43 37 (W' := W0) (by rw [hW0]; exact Below.refl _ _)
    have HW0 := Lib.hid hW0
    have K1 := Lib.hid k1
    have K2 := Lib.hid k2
    have z1 : w.heap.size < W0.heap.size := by omega
    have mixed : Tryd.prog.follows .mixedOrders = true := by kernel_rfl
    clear k1 k2 hW0 hr hrow ih hs hg hT he
    simp only at HNot HBoth HLeaf
    cases hn : notB ⟨op, t, n, m, l⟩ with
    | true =>
      rw [hn] at HNot
      obtain ⟨x, hx⟩ := notB_is hn
      injection hx with e1 e2 e3 e4 e5
      subst e1 e2 e3 e4 e5
      rw [isE_un]
      obtain ⟨bx, ox, ss, sn, sc2, rfl, hbx, q1, q2, d0, d1, d2, d3, d4, dV⟩ := ex_at HRow.out (k := 0) (x := x) rfl
      have hl1 : ([x] : List Ex).length = 1 := rfl
      rw [hl1] at HW0 K2 HNot ⊢
      clear hl1
      have HDV := Lib.hid dV
      have HI := Lib.hid (HLf.out x (by simp))
      obtain ⟨ZZ, hZZ⟩ : ∃ ZZ, (x.op != 1 && leafB s x) = ZZ := ⟨_, rfl⟩
      rw [hZZ]
      have HZZ := Lib.hid hZZ
      clear hZZ
      generalize leafB s x = Z at *
      clear dV hn HIH HLf HBoth HLeaf HRow q1 q2
      go_enter Tryd.func12, Tryd.ntmps12
      go_wp2_with fail
      refine (HNot.out _ (by (repeat' (first | (with_reducible exact Below.refl _ _) | (with_reducible assumption) | (with_reducible refine below_drewN ?_ _) | (with_reducible refine Below.alloc ?_ ?_ _) | (with_reducible refine Below.drew ?_) | (with_reducible refine Below.setCell ?_ ?_ _) | go_size)))).mono ?_; rintro e w1 ⟨rfl, hb1⟩
      rw [← HW0.out] at hb1
      have hbw := k4.trans (hb1.mono k4.size)
      have HBw := Lib.hid hbw
      have y1 : w.heap.size < w1.heap.size := Nat.lt_of_lt_of_le z1 hb1.size
      have y2 : w.heap.size + 1 < w1.heap.size := Nat.lt_of_lt_of_le k3 hb1.size
      have yb : bx < w1.heap.size := Nat.lt_of_lt_of_le hbx hbw.size
      have e00 := (K1.out.keep z1 hb1) 0 _ rfl
      have e01 := (K1.out.keep z1 hb1) 1 _ rfl
      have e02 := (K1.out.keep z1 hb1) 2 _ rfl
      have e03 := (K1.out.keep z1 hb1) 3 _ rfl
      have e24 := (K2.out.keep k3 hb1) 4 _ rfl
      have c0 : w1.cell? ⟨bx, ox, none⟩ = some (.int .i64 x.op) := (hbw.cell (p := ⟨bx, ox, none⟩) hbx).trans (by simpa using d0)
      have c1 : w1.cell? ⟨bx, ox + 1, none⟩ = some (.int .i64 x.t) := (hbw.cell (p := ⟨bx, ox + 1, none⟩) hbx).trans (by simpa using d1)
      have c2 : w1.cell? ⟨bx, ox + 2, none⟩ = some (.int .i64 x.n) := (hbw.cell (p := ⟨bx, ox + 2, none⟩) hbx).trans (by simpa using d2)
      have c3 : w1.cell? ⟨bx, ox + 3, none⟩ = some (.int .i64 x.m) := (hbw.cell (p := ⟨bx, ox + 3, none⟩) hbx).trans (by simpa using d3)
      have c4 : w1.cell? ⟨bx, ox + 4, none⟩ = some (.slice ss sn sc2) := (hbw.cell (p := ⟨bx, ox + 4, none⟩) hbx).trans (by simpa using d4)
      have HV1 := Lib.hid (fun W (hb : Below w1.heap.size w1 W) => (HDV.out.below hbw).below hb)
      clear d0 d1 d2 d3 d4 hb1
      obtain ⟨xop, xt, xn, xm, xl⟩ := x
      simp only at c0 c1 c2 c3 HV1 HZZ
      by_cases hx1 : xop = 1
      · have q1 : (xop != 1) = false := by simp [hx1]
        have HZ := Lib.hid (show ZZ = false by rw [← HZZ.out, q1]; rfl)
        clear hx1
        go_wp2_with fail
        have qq0 := fun wt (h : Below w1.heap.size w1 wt) => cellB h e00 y1
        have qq1 := fun wt (h : Below w1.heap.size w1 wt) => cellB h e01 y1
        have qq2 := fun wt (h : Below w1.heap.size w1 wt) => cellB h e02 y1
        have qq3 := fun wt (h : Below w1.heap.size w1 wt) => cellB h e03 y1
        have qq4 := fun wt (h : Below w1.heap.size w1 wt) => cellB h e24 y2
        have qq5 := fun wt (h : Below w1.heap.size w1 wt) => cellB h c0 yb
        have qq6 := fun wt (h : Below w1.heap.size w1 wt) => cellB h c1 yb
        have qq7 := fun wt (h : Below w1.heap.size w1 wt) => cellB h c2 yb
        have qq8 := fun wt (h : Below w1.heap.size w1 wt) => cellB h c3 yb
        have qq9 := fun wt (h : Below w1.heap.size w1 wt) => cellB h c4 yb
        refine wp_region_held_drew (S := (fun w' => Below w1.heap.size w1 w')) (by kernel_rfl) ?_ (fun hHeld => ?_)
        · (try dsimp only); first | assumption | exact Below.alloc hHeld hHeld.size _ | exact (Below.refl _ _).drew | exact Below.drew (Below.refl _ _) | exact Below_drewN _ _ _ | exact Below.refl _ _
        refine tk 0 (v := ?_) (hy := ?_) (h := ?_); rotate_left
        · intro _ _; go_simp <;> with_reducible rfl
        try simp only [pu, pa, pz, ps]
        refine tk 1 (v := ?_) (hy := ?_) (h := ?_); rotate_left
        · intro wt hSw; (try dsimp only at hSw); go_simp <;> with_reducible rfl
        try simp only [pu, pa, pz, ps]
        refine tk 2 (v := ?_) (hy := ?_) (h := ?_); rotate_left
        · intro _ _; go_simp <;> with_reducible rfl
        try simp only [pu, pa, pz, ps]
        refine tk 3 (v := ?_) (hy := ?_) (h := ?_); rotate_left
        · intro _ _; go_simp <;> with_reducible rfl
        try simp only [pu, pa, pz, ps]
        refine tk 4 (v := ?_) (hy := ?_) (h := ?_); rotate_left
        · intro wt hSw; (try dsimp only at hSw); go_simp <;> with_reducible rfl
        try simp only [pu, pa, pz, ps]
        refine tk 5 (v := ?_) (hy := ?_) (h := ?_); rotate_left
        · intro _ _; go_simp <;> with_reducible rfl
        try simp only [pu, pa, pz, ps]
        refine tk 6 (v := ?_) (hy := ?_) (h := ?_); rotate_left
        · intro _ _; go_simp <;> with_reducible rfl
        try simp only [pu, pa, pz, ps]
        refine sk 7 (h := ?_)
        try simp only [pu, pa, pz, ps]
        refine sk 8 (h := ?_)
        try simp only [pu, pa, pz, ps]
        refine sk 9 (h := ?_)
        try simp only [pu, pa, pz, ps]
        refine sk 10 (h := ?_)
        try simp only [pu, pa, pz, ps]
        refine sk 11 (h := ?_)
        try simp only [pu, pa, pz, ps]
        refine sk 12 (h := ?_)
        try simp only [pu, pa, pz, ps]
        refine tk 13 (v := ?_) (hy := ?_) (h := ?_); rotate_left
        · intro _ _; go_simp <;> with_reducible rfl
        try simp only [pu, pa, pz, ps]
        refine tk 14 (v := ?_) (hy := ?_) (h := ?_); rotate_left
        · intro _ _; go_simp <;> with_reducible rfl
        try simp only [pu, pa, pz, ps]
        refine wpAnyH_done (by kernel_rfl) ?_ _
        have HBn := Lib.hid (HBw.out.trans (hHeld.mono HBw.out.size))
        go_wp2_with fail
        go_ret
        exact ⟨by rw [HZ.out]; rfl, HBn.out⟩
      · have q1 : (xop != 1) = true := by simpa using hx1
        have HZ := Lib.hid (show ZZ = Z by rw [← HZZ.out, q1]; rfl)
        clear hx1
        go_wp2_with fail
        have qq0 := fun wt (h : Below w1.heap.size w1 wt) => cellB h e00 y1
        have qq1 := fun wt (h : Below w1.heap.size w1 wt) => cellB h e01 y1
        have qq2 := fun wt (h : Below w1.heap.size w1 wt) => cellB h e02 y1
        have qq3 := fun wt (h : Below w1.heap.size w1 wt) => cellB h e03 y1
        have qq4 := fun wt (h : Below w1.heap.size w1 wt) => cellB h e24 y2
        have qq5 := fun wt (h : Below w1.heap.size w1 wt) => cellB h c0 yb
        have qq6 := fun wt (h : Below w1.heap.size w1 wt) => cellB h c1 yb
        have qq7 := fun wt (h : Below w1.heap.size w1 wt) => cellB h c2 yb
        have qq8 := fun wt (h : Below w1.heap.size w1 wt) => cellB h c3 yb
        have qq9 := fun wt (h : Below w1.heap.size w1 wt) => cellB h c4 yb
        refine wp_region_held_drew (S := (fun w' => Below w1.heap.size w1 w')) (by kernel_rfl) ?_ (fun hHeld => ?_)
        · (try dsimp only); first | assumption | exact Below.alloc hHeld hHeld.size _ | exact (Below.refl _ _).drew | exact Below.drew (Below.refl _ _) | exact Below_drewN _ _ _ | exact Below.refl _ _
        refine tk 0 (v := ?_) (hy := ?_) (h := ?_); rotate_left
        · intro _ _; go_simp <;> with_reducible rfl
        try simp only [pu, pa, pz, ps]
        refine tk 1 (v := ?_) (hy := ?_) (h := ?_); rotate_left
        · intro wt hSw; (try dsimp only at hSw); go_simp <;> with_reducible rfl
        try simp only [pu, pa, pz, ps]
        refine tk 2 (v := ?_) (hy := ?_) (h := ?_); rotate_left
        · intro _ _; go_simp <;> with_reducible rfl
        try simp only [pu, pa, pz, ps]
        refine tk 3 (v := ?_) (hy := ?_) (h := ?_); rotate_left
        · intro _ _; go_simp <;> with_reducible rfl
        try simp only [pu, pa, pz, ps]
        refine tk 4 (v := ?_) (hy := ?_) (h := ?_); rotate_left
        · intro wt hSw; (try dsimp only at hSw); go_simp <;> with_reducible rfl
        try simp only [pu, pa, pz, ps]
        refine tk 5 (v := ?_) (hy := ?_) (h := ?_); rotate_left
        · intro _ _; go_simp <;> with_reducible rfl
        try simp only [pu, pa, pz, ps]
        refine tk 6 (v := ?_) (hy := ?_) (h := ?_); rotate_left
        · intro _ _; go_simp <;> with_reducible rfl
        try simp only [pu, pa, pz, ps]
        refine tk 7 (v := ?_) (hy := ?_) (h := ?_); rotate_left
        · intro wt hSw; (try dsimp only at hSw); go_simp <;> with_reducible rfl
        try simp only [pu, pa, pz, ps]
        refine tk 8 (v := ?_) (hy := ?_) (h := ?_); rotate_left
        · intro _ _; go_simp <;> with_reducible rfl
        try simp only [pu, pa, pz, ps]
        refine tk 9 (v := ?_) (hy := ?_) (h := ?_); rotate_left
        · intro wt hSw; (try dsimp only at hSw); go_simp <;> with_reducible rfl
        try simp only [pu, pa, pz, ps]
        refine tk 10 (v := ?_) (hy := ?_) (h := ?_); rotate_left
        · intro _ _; go_simp <;> with_reducible rfl
        try simp only [pu, pa, pz, ps]
        refine tk 11 (v := ?_) (hy := ?_) (h := ?_); rotate_left
        · intro wt hSw; (try dsimp only at hSw); go_simp <;> with_reducible rfl
        try simp only [pu, pa, pz, ps]
        refine wpAnyH_ready (rs := [12]) (by kernel_rfl) (by simp) ?_
        refine AllReadyH.cons (o := ⟨_, _, _, _, _, _⟩) rfl (fun K hK => ?_) AllReadyH.nil
        go_simp
        refine (HI.out _ _ (HBw.out.trans (hHeld.mono HBw.out.size)) (HV1.out _ hHeld)).mono ?_; rintro e v1 ⟨rfl, hb2⟩; have hHeld := hHeld.trans (hb2.mono hHeld.size); clear hb2
        go_wp2_with fail
        refine hK.out _ _ ?_ (fun hHeld => ?_)
        · (try dsimp only); first | assumption | exact Below.alloc hHeld hHeld.size _ | exact (Below.refl _ _).drew | exact Below.drew (Below.refl _ _) | exact Below_drewN _ _ _ | exact Below.refl _ _
        clear hK K
        try simp only [pu, pa, pz, ps]
        refine tk 13 (v := ?_) (hy := ?_) (h := ?_); rotate_left
        · intro _ _; go_simp <;> with_reducible rfl
        try simp only [pu, pa, pz, ps]
        refine tk 14 (v := ?_) (hy := ?_) (h := ?_); rotate_left
        · intro _ _; go_simp <;> with_reducible rfl
        try simp only [pu, pa, pz, ps]
        refine wpAnyH_done (by kernel_rfl) ?_ _
        have HBn := Lib.hid (HBw.out.trans (hHeld.mono HBw.out.size))
        go_wp2_with fail
        go_ret
        exact ⟨by rw [HZ.out]; rfl, HBn.out⟩
    | false =>
      rw [hn] at HNot
      cases hb : bothB ⟨op, t, n, m, l⟩ with
      | false =>
        rw [hb] at HBoth
        rw [isE_leaf s _ hn hb]
        generalize leafB s ⟨op, t, n, m, l⟩ = Z at *
        generalize l.length = N at *
        clear hn hb HIH HLf HRow
        go_enter Tryd.func12, Tryd.ntmps12
        go_wp2_with fail
        refine (HNot.out _ (by (repeat' (first | (with_reducible exact Below.refl _ _) | (with_reducible assumption) | (with_reducible refine below_drewN ?_ _) | (with_reducible refine Below.alloc ?_ ?_ _) | (with_reducible refine Below.drew ?_) | (with_reducible refine Below.setCell ?_ ?_ _) | go_size)))).mono ?_; rintro e w1 ⟨rfl, hb1⟩
        rw [← HW0.out] at hb1
        have hbw := k4.trans (hb1.mono k4.size)
        have e20 := (K2.out.keep k3 hb1) 0 _ rfl
        have e21 := (K2.out.keep k3 hb1) 1 _ rfl
        have e22 := (K2.out.keep k3 hb1) 2 _ rfl
        have e23 := (K2.out.keep k3 hb1) 3 _ rfl
        have e24 := (K2.out.keep k3 hb1) 4 _ rfl
        go_wp2_with fail
        refine (HBoth.out _ hbw).mono ?_; rintro e w2 ⟨rfl, hb2⟩
        have hb2 := hb1.trans (hb2.mono hb1.size)
        have hbw2 := k4.trans (hb2.mono k4.size)
        clear e20 e21 e22 e23 e24 hb1 hbw
        have e00 := (K1.out.keep z1 hb2) 0 _ rfl
        have e01 := (K1.out.keep z1 hb2) 1 _ rfl
        have e02 := (K1.out.keep z1 hb2) 2 _ rfl
        have e03 := (K1.out.keep z1 hb2) 3 _ rfl
        have e20 := (K2.out.keep k3 hb2) 0 _ rfl
        have e21 := (K2.out.keep k3 hb2) 1 _ rfl
        have e22 := (K2.out.keep k3 hb2) 2 _ rfl
        have e23 := (K2.out.keep k3 hb2) 3 _ rfl
        have e24 := (K2.out.keep k3 hb2) 4 _ rfl
        go_wp2_with fail
        refine (HLeaf.out _ hbw2).mono ?_; rintro e w3 ⟨rfl, hb3⟩
        go_wp2_with fail
        go_ret
        exact ⟨rfl, hbw2.trans (hb3.mono hbw2.size)⟩
      | true =>
        rw [hb] at HBoth
        obtain ⟨m', x, y, hx⟩ := bothB_is hb
        injection hx with e1 e2 e3 e4 e5
        subst e1 e2 e3 e4 e5
        rw [isE_bin]
        obtain ⟨bx, ox, ss, sn, sc2, rfl, hbx, _, _, d0, d1, d2, d3, d4, dV⟩ := ex_at HRow.out (k := 0) (x := x) rfl
        obtain ⟨_, _, ss', sn', sc2', hh, _, _, _, d5, d6, d7, d8, d9, dV'⟩ := ex_at HRow.out (k := 1) (x := y) rfl
        obtain ⟨rfl, rfl⟩ : bx = _ ∧ ox = _ := by injection hh with hh; injection hh with h1 h2; exact ⟨h1, h2⟩
        have hl2 : ([x, y] : List Ex).length = 2 := rfl
        rw [hl2] at HW0 K2 HNot HBoth ⊢
        clear hl2
        have HDV := Lib.hid (And.intro dV dV')
        have HX := Lib.hid (HIH.out x (by simp))
        have HY := Lib.hid (HIH.out y (by simp))
        have HJ := Lib.hid (fun W => nnf_junction m W)
        generalize isE s x = zx at *
        generalize isE s y = zy at *
        generalize jun m = zj at *
        clear dV dV' hn hb hh HIH HLf HLeaf HRow
        go_enter Tryd.func12, Tryd.ntmps12
        go_wp2_with fail
        refine (HNot.out _ (by (repeat' (first | (with_reducible exact Below.refl _ _) | (with_reducible assumption) | (with_reducible refine below_drewN ?_ _) | (with_reducible refine Below.alloc ?_ ?_ _) | (with_reducible refine Below.drew ?_) | (with_reducible refine Below.setCell ?_ ?_ _) | go_size)))).mono ?_; rintro e w1 ⟨rfl, hb1⟩
        rw [← HW0.out] at hb1
        have hbw := k4.trans (hb1.mono k4.size)
        have e20 := (K2.out.keep k3 hb1) 0 _ rfl
        have e21 := (K2.out.keep k3 hb1) 1 _ rfl
        have e22 := (K2.out.keep k3 hb1) 2 _ rfl
        have e23 := (K2.out.keep k3 hb1) 3 _ rfl
        have e24 := (K2.out.keep k3 hb1) 4 _ rfl
        go_wp2_with fail
        refine (HBoth.out _ hbw).mono ?_; rintro e w2 ⟨rfl, hb2⟩
        have hb2 := hb1.trans (hb2.mono hb1.size)
        have hbw2 := k4.trans (hb2.mono k4.size)
        have HBw := Lib.hid hbw2
        clear e20 e21 e22 e23 e24 hb1 hbw
        have y1 : w.heap.size < w2.heap.size := Nat.lt_of_lt_of_le z1 hb2.size
        have y2 : w.heap.size + 1 < w2.heap.size := Nat.lt_of_lt_of_le k3 hb2.size
        have yb : bx < w2.heap.size := Nat.lt_of_lt_of_le hbx hbw2.size
        have e00 := (K1.out.keep z1 hb2) 0 _ rfl
        have e01 := (K1.out.keep z1 hb2) 1 _ rfl
        have e02 := (K1.out.keep z1 hb2) 2 _ rfl
        have e03 := (K1.out.keep z1 hb2) 3 _ rfl
        have e23 := (K2.out.keep k3 hb2) 3 _ rfl
        have e24 := (K2.out.keep k3 hb2) 4 _ rfl
        have c0 : w2.cell? ⟨bx, ox, none⟩ = some (.int .i64 x.op) := (hbw2.cell (p := ⟨bx, ox, none⟩) hbx).trans (by simpa using d0)
        have c1 : w2.cell? ⟨bx, ox + 1, none⟩ = some (.int .i64 x.t) := (hbw2.cell (p := ⟨bx, ox + 1, none⟩) hbx).trans (by simpa using d1)
        have c2 : w2.cell? ⟨bx, ox + 2, none⟩ = some (.int .i64 x.n) := (hbw2.cell (p := ⟨bx, ox + 2, none⟩) hbx).trans (by simpa using d2)
        have c3 : w2.cell? ⟨bx, ox + 3, none⟩ = some (.int .i64 x.m) := (hbw2.cell (p := ⟨bx, ox + 3, none⟩) hbx).trans (by simpa using d3)
        have c4 : w2.cell? ⟨bx, ox + 4, none⟩ = some (.slice ss sn sc2) := (hbw2.cell (p := ⟨bx, ox + 4, none⟩) hbx).trans (by simpa using d4)
        have c5 : w2.cell? ⟨bx, ox + 5, none⟩ = some (.int .i64 y.op) := (hbw2.cell (p := ⟨bx, ox + 5, none⟩) hbx).trans (by simpa using d5)
        have c6 : w2.cell? ⟨bx, ox + 5 + 1, none⟩ = some (.int .i64 y.t) := (hbw2.cell (p := ⟨bx, ox + 5 + 1, none⟩) hbx).trans (by simpa using d6)
        have c7 : w2.cell? ⟨bx, ox + 5 + 2, none⟩ = some (.int .i64 y.n) := (hbw2.cell (p := ⟨bx, ox + 5 + 2, none⟩) hbx).trans (by simpa using d7)
        have c8 : w2.cell? ⟨bx, ox + 5 + 3, none⟩ = some (.int .i64 y.m) := (hbw2.cell (p := ⟨bx, ox + 5 + 3, none⟩) hbx).trans (by simpa using d8)
        have c9 : w2.cell? ⟨bx, ox + 5 + 4, none⟩ = some (.slice ss' sn' sc2') := (hbw2.cell (p := ⟨bx, ox + 5 + 4, none⟩) hbx).trans (by simpa using d9)
        have HVx := Lib.hid (fun W (hb : Below w2.heap.size w2 W) => (HDV.out.1.below hbw2).below hb)
        have HVy := Lib.hid (fun W (hb : Below w2.heap.size w2 W) => (HDV.out.2.below hbw2).below hb)
        clear d0 d1 d2 d3 d4 d5 d6 d7 d8 d9 hb2 hbw2
        obtain ⟨xop, xt, xn, xm, xl⟩ := x
        obtain ⟨yop, yt, yn, ym, yl⟩ := y
        simp only at c0 c1 c2 c3 c5 c6 c7 c8 HVx HVy
        cases zj with
        | false =>
          go_wp2_with fail
          have qq0 := fun wt (h : Below w2.heap.size w2 wt) => cellB h e23 y2
          refine wp_region_held_drew (S := (fun w' => Below w2.heap.size w2 w')) (by kernel_rfl) ?_ (fun hHeld => ?_)
          · (try dsimp only); first | assumption | exact Below.alloc hHeld hHeld.size _ | exact (Below.refl _ _).drew | exact Below.drew (Below.refl _ _) | exact Below_drewN _ _ _ | exact Below.refl _ _
          refine tk 0 (v := ?_) (hy := ?_) (h := ?_); rotate_left
          · intro _ _; go_simp <;> with_reducible rfl
          try simp only [pu, pa, pz, ps]
          refine tk 1 (v := ?_) (hy := ?_) (h := ?_); rotate_left
          · intro wt hSw; (try dsimp only at hSw); go_simp <;> with_reducible rfl
          try simp only [pu, pa, pz, ps]
          refine wpAnyH_ready (rs := [2]) (by kernel_rfl) (by simp) ?_
          refine AllReadyH.cons (o := ⟨_, _, _, _, _, _⟩) rfl (fun K hK => ?_) AllReadyH.nil
          go_simp
          refine (HJ.out _).mono ?_; rintro e v1 ⟨rfl, rfl⟩
          go_wp2_with fail
          refine hK.out _ _ ?_ (fun hHeld => ?_)
          · (try dsimp only); first | assumption | exact Below.alloc hHeld hHeld.size _ | exact (Below.refl _ _).drew | exact Below.drew (Below.refl _ _) | exact Below_drewN _ _ _ | exact Below.refl _ _
          clear hK K
          try simp only [pu, pa, pz, ps]
          refine tk 3 (v := ?_) (hy := ?_) (h := ?_); rotate_left
          · intro _ _; go_simp <;> with_reducible rfl
          try simp only [pu, pa, pz, ps]
          refine sk 4 (h := ?_)
          try simp only [pu, pa, pz, ps]
          refine sk 5 (h := ?_)
          try simp only [pu, pa, pz, ps]
          refine sk 6 (h := ?_)
          try simp only [pu, pa, pz, ps]
          refine sk 7 (h := ?_)
          try simp only [pu, pa, pz, ps]
          refine sk 8 (h := ?_)
          try simp only [pu, pa, pz, ps]
          refine sk 9 (h := ?_)
          try simp only [pu, pa, pz, ps]
          refine tk 10 (v := ?_) (hy := ?_) (h := ?_); rotate_left
          · intro _ _; go_simp <;> with_reducible rfl
          try simp only [pu, pa, pz, ps]
          refine tk 11 (v := ?_) (hy := ?_) (h := ?_); rotate_left
          · intro _ _; go_simp <;> with_reducible rfl
          try simp only [pu, pa, pz, ps]
          refine sk 12 (h := ?_)
          try simp only [pu, pa, pz, ps]
          refine sk 13 (h := ?_)
          try simp only [pu, pa, pz, ps]
          refine sk 14 (h := ?_)
          try simp only [pu, pa, pz, ps]
          refine sk 15 (h := ?_)
          try simp only [pu, pa, pz, ps]
          refine sk 16 (h := ?_)
          try simp only [pu, pa, pz, ps]
          refine sk 17 (h := ?_)
          try simp only [pu, pa, pz, ps]
          refine tk 18 (v := ?_) (hy := ?_) (h := ?_); rotate_left
          · intro _ _; go_simp <;> with_reducible rfl
          try simp only [pu, pa, pz, ps]
          refine tk 19 (v := ?_) (hy := ?_) (h := ?_); rotate_left
          · intro _ _; go_simp <;> with_reducible rfl
          try simp only [pu, pa, pz, ps]
          refine wpAnyH_done (by kernel_rfl) ?_ _
          have HBn := Lib.hid (HBw.out.trans (hHeld.mono HBw.out.size))
          go_wp2_with fail
          go_ret
          exact ⟨rfl, HBn.out⟩
        | true =>
          cases zx with
          | false =>
            go_wp2_with fail
            have qq0 := fun wt (h : Below w2.heap.size w2 wt) => cellB h e00 y1
            have qq1 := fun wt (h : Below w2.heap.size w2 wt) => cellB h e01 y1
            have qq2 := fun wt (h : Below w2.heap.size w2 wt) => cellB h e02 y1
            have qq3 := fun wt (h : Below w2.heap.size w2 wt) => cellB h e03 y1
            have qq4 := fun wt (h : Below w2.heap.size w2 wt) => cellB h e23 y2
            have qq5 := fun wt (h : Below w2.heap.size w2 wt) => cellB h e24 y2
            have qq6 := fun wt (h : Below w2.heap.size w2 wt) => cellB h c0 yb
            have qq7 := fun wt (h : Below w2.heap.size w2 wt) => cellB h c1 yb
            have qq8 := fun wt (h : Below w2.heap.size w2 wt) => cellB h c2 yb
            have qq9 := fun wt (h : Below w2.heap.size w2 wt) => cellB h c3 yb
            have qq10 := fun wt (h : Below w2.heap.size w2 wt) => cellB h c4 yb
            refine wp_region_held_drew (S := (fun w' => Below w2.heap.size w2 w')) (by kernel_rfl) ?_ (fun hHeld => ?_)
            · (try dsimp only); first | assumption | exact Below.alloc hHeld hHeld.size _ | exact (Below.refl _ _).drew | exact Below.drew (Below.refl _ _) | exact Below_drewN _ _ _ | exact Below.refl _ _
            refine tk 0 (v := ?_) (hy := ?_) (h := ?_); rotate_left
            · intro _ _; go_simp <;> with_reducible rfl
            try simp only [pu, pa, pz, ps]
            refine tk 1 (v := ?_) (hy := ?_) (h := ?_); rotate_left
            · intro wt hSw; (try dsimp only at hSw); go_simp <;> with_reducible rfl
            try simp only [pu, pa, pz, ps]
            refine wpAnyH_ready (rs := [2]) (by kernel_rfl) (by simp) ?_
            refine AllReadyH.cons (o := ⟨_, _, _, _, _, _⟩) rfl (fun K hK => ?_) AllReadyH.nil
            go_simp
            refine (HJ.out _).mono ?_; rintro e v1 ⟨rfl, rfl⟩
            go_wp2_with fail
            refine hK.out _ _ ?_ (fun hHeld => ?_)
            · (try dsimp only); first | assumption | exact Below.alloc hHeld hHeld.size _ | exact (Below.refl _ _).drew | exact Below.drew (Below.refl _ _) | exact Below_drewN _ _ _ | exact Below.refl _ _
            clear hK K
            try simp only [pu, pa, pz, ps]
            refine tk 3 (v := ?_) (hy := ?_) (h := ?_); rotate_left
            · intro _ _; go_simp <;> with_reducible rfl
            try simp only [pu, pa, pz, ps]
            refine tk 4 (v := ?_) (hy := ?_) (h := ?_); rotate_left
            · intro wt hSw; (try dsimp only at hSw); go_simp <;> with_reducible rfl
            try simp only [pu, pa, pz, ps]
            refine tk 5 (v := ?_) (hy := ?_) (h := ?_); rotate_left
            · intro _ _; go_simp <;> with_reducible rfl
            try simp only [pu, pa, pz, ps]
            refine tk 6 (v := ?_) (hy := ?_) (h := ?_); rotate_left
            · intro wt hSw; (try dsimp only at hSw); go_simp <;> with_reducible rfl
            try simp only [pu, pa, pz, ps]
            refine tk 7 (v := ?_) (hy := ?_) (h := ?_); rotate_left
            · intro _ _; go_simp <;> with_reducible rfl
            try simp only [pu, pa, pz, ps]
            refine tk 8 (v := ?_) (hy := ?_) (h := ?_); rotate_left
            · intro wt hSw; (try dsimp only at hSw); go_simp <;> with_reducible rfl
            try simp only [pu, pa, pz, ps]
            refine wpAnyH_ready (rs := [9]) (by kernel_rfl) (by simp) ?_
            refine AllReadyH.cons (o := ⟨_, _, _, _, _, _⟩) rfl (fun K hK => ?_) AllReadyH.nil
            go_simp
            refine (HX.out _ _ (HBw.out.trans (hHeld.mono HBw.out.size)) (HVx.out _ hHeld)).mono ?_; rintro e v2 ⟨rfl, hb2⟩; have hHeld := hHeld.trans (hb2.mono hHeld.size); clear hb2
            go_wp2_with fail
            refine hK.out _ _ ?_ (fun hHeld => ?_)
            · (try dsimp only); first | assumption | exact Below.alloc hHeld hHeld.size _ | exact (Below.refl _ _).drew | exact Below.drew (Below.refl _ _) | exact Below_drewN _ _ _ | exact Below.refl _ _
            clear hK K
            try simp only [pu, pa, pz, ps]
            refine tk 10 (v := ?_) (hy := ?_) (h := ?_); rotate_left
            · intro _ _; go_simp <;> with_reducible rfl
            try simp only [pu, pa, pz, ps]
            refine tk 11 (v := ?_) (hy := ?_) (h := ?_); rotate_left
            · intro _ _; go_simp <;> with_reducible rfl
            try simp only [pu, pa, pz, ps]
            refine sk 12 (h := ?_)
            try simp only [pu, pa, pz, ps]
            refine sk 13 (h := ?_)
            try simp only [pu, pa, pz, ps]
            refine sk 14 (h := ?_)
            try simp only [pu, pa, pz, ps]
            refine sk 15 (h := ?_)
            try simp only [pu, pa, pz, ps]
            refine sk 16 (h := ?_)
            try simp only [pu, pa, pz, ps]
            refine sk 17 (h := ?_)
            try simp only [pu, pa, pz, ps]
            refine tk 18 (v := ?_) (hy := ?_) (h := ?_); rotate_left
            · intro _ _; go_simp <;> with_reducible rfl
            try simp only [pu, pa, pz, ps]
            refine tk 19 (v := ?_) (hy := ?_) (h := ?_); rotate_left
            · intro _ _; go_simp <;> with_reducible rfl
            try simp only [pu, pa, pz, ps]
            refine wpAnyH_done (by kernel_rfl) ?_ _
            have HBn := Lib.hid (HBw.out.trans (hHeld.mono HBw.out.size))
            go_wp2_with fail
            go_ret
            exact ⟨rfl, HBn.out⟩
          | true =>
            go_wp2_with fail
            have qq0 := fun wt (h : Below w2.heap.size w2 wt) => cellB h e00 y1
            have qq1 := fun wt (h : Below w2.heap.size w2 wt) => cellB h e01 y1
            have qq2 := fun wt (h : Below w2.heap.size w2 wt) => cellB h e02 y1
            have qq3 := fun wt (h : Below w2.heap.size w2 wt) => cellB h e03 y1
            have qq4 := fun wt (h : Below w2.heap.size w2 wt) => cellB h e23 y2
            have qq5 := fun wt (h : Below w2.heap.size w2 wt) => cellB h e24 y2
            have qq6 := fun wt (h : Below w2.heap.size w2 wt) => cellB h c0 yb
            have qq7 := fun wt (h : Below w2.heap.size w2 wt) => cellB h c1 yb
            have qq8 := fun wt (h : Below w2.heap.size w2 wt) => cellB h c2 yb
            have qq9 := fun wt (h : Below w2.heap.size w2 wt) => cellB h c3 yb
            have qq10 := fun wt (h : Below w2.heap.size w2 wt) => cellB h c4 yb
            have qq11 := fun wt (h : Below w2.heap.size w2 wt) => cellB h c5 yb
            have qq12 := fun wt (h : Below w2.heap.size w2 wt) => cellB h c6 yb
            have qq13 := fun wt (h : Below w2.heap.size w2 wt) => cellB h c7 yb
            have qq14 := fun wt (h : Below w2.heap.size w2 wt) => cellB h c8 yb
            have qq15 := fun wt (h : Below w2.heap.size w2 wt) => cellB h c9 yb
            refine wp_region_held_drew (S := (fun w' => Below w2.heap.size w2 w')) (by kernel_rfl) ?_ (fun hHeld => ?_)
            · (try dsimp only); first | assumption | exact Below.alloc hHeld hHeld.size _ | exact (Below.refl _ _).drew | exact Below.drew (Below.refl _ _) | exact Below_drewN _ _ _ | exact Below.refl _ _
            refine tk 0 (v := ?_) (hy := ?_) (h := ?_); rotate_left
            · intro _ _; go_simp <;> with_reducible rfl
            try simp only [pu, pa, pz, ps]
            refine tk 1 (v := ?_) (hy := ?_) (h := ?_); rotate_left
            · intro wt hSw; (try dsimp only at hSw); go_simp <;> with_reducible rfl
            try simp only [pu, pa, pz, ps]
            refine wpAnyH_ready (rs := [2]) (by kernel_rfl) (by simp) ?_
            refine AllReadyH.cons (o := ⟨_, _, _, _, _, _⟩) rfl (fun K hK => ?_) AllReadyH.nil
            go_simp
            refine (HJ.out _).mono ?_; rintro e v1 ⟨rfl, rfl⟩
            go_wp2_with fail
            refine hK.out _ _ ?_ (fun hHeld => ?_)
            · (try dsimp only); first | assumption | exact Below.alloc hHeld hHeld.size _ | exact (Below.refl _ _).drew | exact Below.drew (Below.refl _ _) | exact Below_drewN _ _ _ | exact Below.refl _ _
            clear hK K
            try simp only [pu, pa, pz, ps]
            refine tk 3 (v := ?_) (hy := ?_) (h := ?_); rotate_left
            · intro _ _; go_simp <;> with_reducible rfl
            try simp only [pu, pa, pz, ps]
            refine tk 4 (v := ?_) (hy := ?_) (h := ?_); rotate_left
            · intro wt hSw; (try dsimp only at hSw); go_simp <;> with_reducible rfl
            try simp only [pu, pa, pz, ps]
            refine tk 5 (v := ?_) (hy := ?_) (h := ?_); rotate_left
            · intro _ _; go_simp <;> with_reducible rfl
            try simp only [pu, pa, pz, ps]
            refine tk 6 (v := ?_) (hy := ?_) (h := ?_); rotate_left
            · intro wt hSw; (try dsimp only at hSw); go_simp <;> with_reducible rfl
            try simp only [pu, pa, pz, ps]
            refine tk 7 (v := ?_) (hy := ?_) (h := ?_); rotate_left
            · intro _ _; go_simp <;> with_reducible rfl
            try simp only [pu, pa, pz, ps]
            refine tk 8 (v := ?_) (hy := ?_) (h := ?_); rotate_left
            · intro wt hSw; (try dsimp only at hSw); go_simp <;> with_reducible rfl
            try simp only [pu, pa, pz, ps]
            refine wpAnyH_ready (rs := [9]) (by kernel_rfl) (by simp) ?_
            refine AllReadyH.cons (o := ⟨_, _, _, _, _, _⟩) rfl (fun K hK => ?_) AllReadyH.nil
            go_simp
            refine (HX.out _ _ (HBw.out.trans (hHeld.mono HBw.out.size)) (HVx.out _ hHeld)).mono ?_; rintro e v2 ⟨rfl, hb2⟩; have hHeld := hHeld.trans (hb2.mono hHeld.size); clear hb2
            go_wp2_with fail
            refine hK.out _ _ ?_ (fun hHeld => ?_)
            · (try dsimp only); first | assumption | exact Below.alloc hHeld hHeld.size _ | exact (Below.refl _ _).drew | exact Below.drew (Below.refl _ _) | exact Below_drewN _ _ _ | exact Below.refl _ _
            clear hK K
            try simp only [pu, pa, pz, ps]
            refine tk 10 (v := ?_) (hy := ?_) (h := ?_); rotate_left
            · intro _ _; go_simp <;> with_reducible rfl
            try simp only [pu, pa, pz, ps]
            refine tk 11 (v := ?_) (hy := ?_) (h := ?_); rotate_left
            · intro _ _; go_simp <;> with_reducible rfl
            try simp only [pu, pa, pz, ps]
            refine tk 12 (v := ?_) (hy := ?_) (h := ?_); rotate_left
            · intro wt hSw; (try dsimp only at hSw); go_simp <;> with_reducible rfl
            try simp only [pu, pa, pz, ps]
            refine tk 13 (v := ?_) (hy := ?_) (h := ?_); rotate_left
            · intro _ _; go_simp <;> with_reducible rfl
            try simp only [pu, pa, pz, ps]
            refine tk 14 (v := ?_) (hy := ?_) (h := ?_); rotate_left
            · intro wt hSw; (try dsimp only at hSw); go_simp <;> with_reducible rfl
            try simp only [pu, pa, pz, ps]
            refine tk 15 (v := ?_) (hy := ?_) (h := ?_); rotate_left
            · intro _ _; go_simp <;> with_reducible rfl
            try simp only [pu, pa, pz, ps]
            refine tk 16 (v := ?_) (hy := ?_) (h := ?_); rotate_left
            · intro wt hSw; (try dsimp only at hSw); go_simp <;> with_reducible rfl
            try simp only [pu, pa, pz, ps]
            refine wpAnyH_ready (rs := [17]) (by kernel_rfl) (by simp) ?_
            refine AllReadyH.cons (o := ⟨_, _, _, _, _, _⟩) rfl (fun K hK => ?_) AllReadyH.nil
            go_simp
            refine (HY.out _ _ (HBw.out.trans (hHeld.mono HBw.out.size)) (HVy.out _ hHeld)).mono ?_; rintro e v3 ⟨rfl, hb3⟩; have hHeld := hHeld.trans (hb3.mono hHeld.size); clear hb3
            go_wp2_with fail
            refine hK.out _ _ ?_ (fun hHeld => ?_)
            · (try dsimp only); first | assumption | exact Below.alloc hHeld hHeld.size _ | exact (Below.refl _ _).drew | exact Below.drew (Below.refl _ _) | exact Below_drewN _ _ _ | exact Below.refl _ _
            clear hK K
            try simp only [pu, pa, pz, ps]
            refine tk 18 (v := ?_) (hy := ?_) (h := ?_); rotate_left
            · intro _ _; go_simp <;> with_reducible rfl
            try simp only [pu, pa, pz, ps]
            refine tk 19 (v := ?_) (hy := ?_) (h := ?_); rotate_left
            · intro _ _; go_simp <;> with_reducible rfl
            try simp only [pu, pa, pz, ps]
            refine wpAnyH_done (by kernel_rfl) ?_ _
            have HBn := Lib.hid (HBw.out.trans (hHeld.mono HBw.out.size))
            go_wp2_with fail
            go_ret
            exact ⟨rfl, HBn.out⟩
end Go.Proofs.YtknbomikiakpmaaDoor