/- expr.leaf, single, double: types by one step. -/
import Derived.Test.YtpecpeedefeokaaDoorExT
import Derived.Test.YtpecpeedefeokaaDoorBlockF
import Derived.Test.YtpecpeedefeokaaDoorKeep
import Derived.Test.YtpecpeedefeokaaDoorHeldMore
import Derived.Deep.CutRange
import Derived.Deep.Cut
namespace Go.Proofs.YtpecpeedefeokaaDoor
open Go.RowKit
set_option linter.unusedSimpArgs false
set_option linter.unusedVariables false
theorem expr_in (n : Int) (k : Nat) (w : World) : Calls Tryd.prog 38 #[.int .i64 n, .int .i64 k] w fun r w' => r = .returned (.bool (inb n k)) ∧ w = w' := by
  by_cases h : 0 ≤ n
  · have p1 : (0 ≤ n) = True := eq_true h
    have hs := Lib.hid (show inb n k = decide (n < (k : Int)) by unfold inb; simp [h])
    clear h
    go_enter Tryd.func38, Tryd.ntmps38
    go_wp2_with fail
    go_ret
    exact ⟨by rw [hs.out]; rfl, rfl⟩
  · have p1 : (0 ≤ n) = False := eq_false h
    have hs := Lib.hid (show inb n k = false by unfold inb; simp [h])
    clear h
    go_enter Tryd.func38, Tryd.ntmps38
    go_wp2_with fail
    go_ret
    exact ⟨by rw [hs.out]; rfl, rfl⟩
theorem cap_row {α : Type} {q : Nat} {R : Rep α} {w : World} {a : Option Addr} {n c k : Nat} {L : List α} (h : RowR q R w (.slice a n c) L) (hk : k < n) : n ≤ c ∧ c ≤ 9223372036854775807 := by
  rcases h with ⟨_, _, h, _⟩ | ⟨_, _, _, h, _, h1, h2, _⟩
  · injection h with _ h _; omega
  · injection h with _ h h'; subst h h'; exact ⟨h1, h2⟩
theorem inb_yes {n : Int} {k : Nat} (h : inb n k = true) : ∃ i : Nat, n = (i : Int) ∧ i < k := by
  have := of_decide_eq_true h
  exact ⟨n.toNat, by omega, by omega⟩
set_option maxHeartbeats 4000000 in
theorem expr_leaf (a b c d : Value) (s : Sc) (e : Ex) (v : Value) (w : World) (hs : ScAt w a b d s) (hv : ExV w v e) (hT : BTab w) : Calls Tryd.prog 25 #[.agg #[a, b, c, d], v] w fun r w' => r = .returned (.int .i64 (leafT s e)) ∧ Below w.heap.size w w' := by
  obtain ⟨op, t, n, m, l⟩ := e
  obtain ⟨sl, rfl, _, _⟩ := hv
  have HS := Lib.hid (fun W (h : Below w.heap.size w W) => hs.below h)
  have HT := Lib.hid (fun W (h : Below w.heap.size w W) => hT.below h)
  obtain ⟨sa, ca, rfl⟩ := row_get hs.vs
  obtain ⟨sb, cb, rfl⟩ := row_get hs.bs
  obtain ⟨sd, cd, rfl⟩ := row_get hs.ss
  obtain ⟨NV, hNV⟩ : ∃ N, s.vars.length = N := ⟨_, rfl⟩
  obtain ⟨NB, hNB⟩ : ∃ N, s.blocks.length = N := ⟨_, rfl⟩
  obtain ⟨NS, hNS⟩ : ∃ N, s.slots.length = N := ⟨_, rfl⟩
  have HNV := Lib.hid hNV
  have HNB := Lib.hid hNB
  have HNS := Lib.hid hNS
  have hlv := hs.vs.len
  have hlb := hs.bs.len
  have hls := hs.ss.len
  simp only at HS ⊢
  rw [hNV, hNB, hNS] at HS
  rw [hNV] at hlv ⊢
  rw [hNB] at hlb ⊢
  rw [hNS] at hls ⊢
  clear hs hT hNV hNB hNS
  by_cases h1 : op = 1
  · subst h1
    by_cases h2 : m = 0
    · subst h2
      cases hk : kIn t n
      · have hI := kind_In t n
        rw [hk] at hI
        have hres := Lib.hid (show leafT s ⟨1, t, n, 0, l⟩ = 0 by unfold leafT; simp [hk])
        clear hk
        go_enter Tryd.func25, Tryd.ntmps25
        go_wp2_with fail
        refine (hI _).mono ?_; rintro r w2 ⟨rfl, rfl⟩
        go_wp2_with fail
        go_ret
        exact ⟨by rw [hres.out]; rfl, by (repeat' (first | (with_reducible exact Below.refl _ _) | (with_reducible assumption) | (with_reducible refine below_drewN ?_ _) | (with_reducible refine Below.alloc ?_ ?_ _) | (with_reducible refine Below.drew ?_) | (with_reducible refine Below.setCell ?_ ?_ _) | go_size))⟩
      · have hI := kind_In t n
        rw [hk] at hI
        have hres := Lib.hid (show leafT s ⟨1, t, n, 0, l⟩ = t by unfold leafT; simp [hk])
        clear hk
        go_enter Tryd.func25, Tryd.ntmps25
        go_wp2_with fail
        refine (hI _).mono ?_; rintro r w2 ⟨rfl, rfl⟩
        go_wp2_with fail
        go_ret
        exact ⟨by rw [hres.out]; rfl, by (repeat' (first | (with_reducible exact Below.refl _ _) | (with_reducible assumption) | (with_reducible refine below_drewN ?_ _) | (with_reducible refine Below.alloc ?_ ?_ _) | (with_reducible refine Below.drew ?_) | (with_reducible refine Below.setCell ?_ ?_ _) | go_size))⟩
    · have e2 : (m == 0) = false := by simpa using h2
      by_cases h3 : t = 0
      · subst h3
        have hres := Lib.hid (show leafT s ⟨1, 0, n, m, l⟩ = 0 by unfold leafT; simp [h2])
        have hK := kind_Right 0
        rw [show kRight 0 = false from rfl] at hK
        clear h2
        go_enter Tryd.func25, Tryd.ntmps25
        go_wp2_with fail
        refine (hK _).mono ?_; rintro r w2 ⟨rfl, rfl⟩
        go_wp2_with fail
        go_ret
        exact ⟨by rw [hres.out]; rfl, by (repeat' (first | (with_reducible exact Below.refl _ _) | (with_reducible assumption) | (with_reducible refine below_drewN ?_ _) | (with_reducible refine Below.alloc ?_ ?_ _) | (with_reducible refine Below.drew ?_) | (with_reducible refine Below.setCell ?_ ?_ _) | go_size))⟩
      · have e3 : (t != 0) = true := by simpa using h3
        have hres := Lib.hid (show leafT s ⟨1, t, n, m, l⟩ = 0 by unfold leafT; simp [h2, h3])
        clear h2 h3
        go_enter Tryd.func25, Tryd.ntmps25
        go_wp2_with fail
        go_ret
        exact ⟨by rw [hres.out]; rfl, by (repeat' (first | (with_reducible exact Below.refl _ _) | (with_reducible assumption) | (with_reducible refine below_drewN ?_ _) | (with_reducible refine Below.alloc ?_ ?_ _) | (with_reducible refine Below.drew ?_) | (with_reducible refine Below.setCell ?_ ?_ _) | go_size))⟩
  by_cases h3 : t = 0
  case neg =>
    have e1 : (op == 1) = false := by simpa using h1
    have e3 : (t != 0) = true := by simpa using h3
    have hres := Lib.hid (show leafT s ⟨op, t, n, m, l⟩ = 0 by unfold leafT; simp [h1, h3])
    clear h1 h3
    go_enter Tryd.func25, Tryd.ntmps25
    go_wp2_with fail
    go_ret
    exact ⟨by rw [hres.out]; rfl, by (repeat' (first | (with_reducible exact Below.refl _ _) | (with_reducible assumption) | (with_reducible refine below_drewN ?_ _) | (with_reducible refine Below.alloc ?_ ?_ _) | (with_reducible refine Below.drew ?_) | (with_reducible refine Below.setCell ?_ ?_ _) | go_size))⟩
  subst h3
  have hK0 := kind_Right 0
  rw [show kRight 0 = false from rfl] at hK0
  have HW := Lib.hid (show ∀ W, W = (w.alloc (.cells #[.slice sa NV ca, .slice sb NB cb, c, .slice sd NS cd] 37)).alloc (.cells #[.int .i64 op, .int .i64 0, .int .i64 n, .int .i64 m, sl] 30) → Below w.heap.size w W ∧ W.heap[w.heap.size]? = some (.cells #[.slice sa NV ca, .slice sb NB cb, c, .slice sd NS cd] 37) ∧ W.heap[w.heap.size + 1]? = some (.cells #[.int .i64 op, .int .i64 0, .int .i64 n, .int .i64 m, sl] 30) from by
    rintro W rfl
    refine ⟨by (repeat' (first | (with_reducible exact Below.refl _ _) | (with_reducible assumption) | (with_reducible refine below_drewN ?_ _) | (with_reducible refine Below.alloc ?_ ?_ _) | (with_reducible refine Below.drew ?_) | (with_reducible refine Below.setCell ?_ ?_ _) | go_size)), ?_, get_last (by simp)⟩
    rw [get_past (by simp)]; exact get_last rfl)
  by_cases h2 : op = 2
  · subst h2
    by_cases h4 : m = 0
    case neg =>
      have e4 : (m == 0) = false := by simpa using h4
      have hres := Lib.hid (show leafT s ⟨2, 0, n, m, l⟩ = 0 by unfold leafT; simp [h4])
      clear h1 h4
      go_enter Tryd.func25, Tryd.ntmps25
      go_wp2_with fail
      refine (hK0 _).mono ?_; rintro r w2 ⟨rfl, rfl⟩
      go_wp2_with fail
      go_ret
      exact ⟨by rw [hres.out]; rfl, by (repeat' (first | (with_reducible exact Below.refl _ _) | (with_reducible assumption) | (with_reducible refine below_drewN ?_ _) | (with_reducible refine Below.alloc ?_ ?_ _) | (with_reducible refine Below.drew ?_) | (with_reducible refine Below.setCell ?_ ?_ _) | go_size))⟩
    subst h4
    have hI := expr_in n NV
    cases hin : inb n NV
    · rw [hin] at hI
      have hres := Lib.hid (show leafT s ⟨2, 0, n, 0, l⟩ = 0 by unfold leafT; simp [HNV.out, hin])
      clear hin h1
      go_enter Tryd.func25, Tryd.ntmps25
      go_wp2_with fail
      refine (hI _).mono ?_; rintro r w2 ⟨rfl, rfl⟩
      go_wp2_with fail
      refine (hK0 _).mono ?_; rintro r w2 ⟨rfl, rfl⟩
      go_wp2_with fail
      go_ret
      exact ⟨by rw [hres.out]; rfl, by (repeat' (first | (with_reducible exact Below.refl _ _) | (with_reducible assumption) | (with_reducible refine below_drewN ?_ _) | (with_reducible refine Below.alloc ?_ ?_ _) | (with_reducible refine Below.drew ?_) | (with_reducible refine Below.setCell ?_ ?_ _) | go_size))⟩
    rw [hin] at hI
    obtain ⟨k, rfl, hk⟩ := inb_yes hin
    obtain ⟨hbW, ho0, ho1⟩ := HW.out _ rfl
    obtain ⟨x, hx⟩ := get_some (L := s.vars) (n := k) (by rw [HNV.out]; exact hk)
    obtain ⟨b, off, rfl, hbw, hc⟩ := var_at (HS.out w (Below.refl _ _)).vs (k := k) (by rw [HNV.out]; exact hk)
    obtain ⟨_, d1, d2, _, _, _⟩ := hc k x hx
    have d1 := (hbW.cell (p := ⟨b, off + k * 5 + 1, none⟩) hbw).trans d1
    have d2 := (hbW.cell (p := ⟨b, off + k * 5 + 2, none⟩) hbw).trans d2
    have hxv : s.v (k : Int) = x := by unfold Sc.v; simp [List.getD, hx]
    have qk : (k : Int) < (NV : Int) := by omega
    have hcap := cap_row (HS.out w (Below.refl _ _)).vs hk
    by_cases h5 : x.n < 2
    · have e5 : (x.n < 2) = True := eq_true h5
      have hres := Lib.hid (show leafT s ⟨2, 0, (k : Int), 0, l⟩ = keepR x.t by unfold leafT; simp [HNV.out, hin, hxv, h5])
      have hK := kind_Right x.t
      clear hin h1 hc hx h5 hxv hk hbW ho0 ho1
      generalize x.n = xn at *
      generalize x.t = xt at *
      cases hkr : kRight xt
      · rw [hkr] at hK
        have hres := Lib.hid (show leafT s ⟨2, 0, (k : Int), 0, l⟩ = 0 by rw [hres.out]; unfold keepR; rw [hkr]; rfl)
        clear hkr
        go_enter Tryd.func25, Tryd.ntmps25
        go_wp2_with fail
        refine (hI _).mono ?_; rintro r w2 ⟨rfl, rfl⟩
        go_wp2_with fail
        refine (hK _).mono ?_; rintro r w2 ⟨rfl, rfl⟩
        go_wp2_with fail
        go_ret
        exact ⟨by rw [hres.out]; rfl, by (repeat' (first | (with_reducible exact Below.refl _ _) | (with_reducible assumption) | (with_reducible refine below_drewN ?_ _) | (with_reducible refine Below.alloc ?_ ?_ _) | (with_reducible refine Below.drew ?_) | (with_reducible refine Below.setCell ?_ ?_ _) | go_size))⟩
      · rw [hkr] at hK
        have hres := Lib.hid (show leafT s ⟨2, 0, (k : Int), 0, l⟩ = xt by rw [hres.out]; unfold keepR; rw [hkr]; rfl)
        clear hkr
        go_enter Tryd.func25, Tryd.ntmps25
        go_wp2_with fail
        refine (hI _).mono ?_; rintro r w2 ⟨rfl, rfl⟩
        go_wp2_with fail
        refine (hK _).mono ?_; rintro r w2 ⟨rfl, rfl⟩
        go_wp2_with fail
        go_ret
        exact ⟨by rw [hres.out]; rfl, by (repeat' (first | (with_reducible exact Below.refl _ _) | (with_reducible assumption) | (with_reducible refine below_drewN ?_ _) | (with_reducible refine Below.alloc ?_ ?_ _) | (with_reducible refine Below.drew ?_) | (with_reducible refine Below.setCell ?_ ?_ _) | go_size))⟩
    · have e5 : (x.n < 2) = False := eq_false h5
      have hres := Lib.hid (show leafT s ⟨2, 0, (k : Int), 0, l⟩ = 0 by unfold leafT; simp [HNV.out, hin, hxv, h5])
      clear hin h1 hc hx h5 hxv hk hbW ho0 ho1
      generalize x.n = xn at *
      go_enter Tryd.func25, Tryd.ntmps25
      go_wp2_with fail
      refine (hI _).mono ?_; rintro r w2 ⟨rfl, rfl⟩
      go_wp2_with fail
      refine (hK0 _).mono ?_; rintro r w2 ⟨rfl, rfl⟩
      go_wp2_with fail
      go_ret
      exact ⟨by rw [hres.out]; rfl, by (repeat' (first | (with_reducible exact Below.refl _ _) | (with_reducible assumption) | (with_reducible refine below_drewN ?_ _) | (with_reducible refine Below.alloc ?_ ?_ _) | (with_reducible refine Below.drew ?_) | (with_reducible refine Below.setCell ?_ ?_ _) | go_size))⟩
  by_cases h3 : op = 3
  · subst h3
    by_cases h4 : m = 0
    case neg =>
      have e4 : (m == 0) = false := by simpa using h4
      have hres := Lib.hid (show leafT s ⟨3, 0, n, m, l⟩ = 0 by unfold leafT; simp [h4])
      clear h1 h2 h4
      go_enter Tryd.func25, Tryd.ntmps25
      go_wp2_with fail
      refine (hK0 _).mono ?_; rintro r w2 ⟨rfl, rfl⟩
      go_wp2_with fail
      go_ret
      exact ⟨by rw [hres.out]; rfl, by (repeat' (first | (with_reducible exact Below.refl _ _) | (with_reducible assumption) | (with_reducible refine below_drewN ?_ _) | (with_reducible refine Below.alloc ?_ ?_ _) | (with_reducible refine Below.drew ?_) | (with_reducible refine Below.setCell ?_ ?_ _) | go_size))⟩
    subst h4
    have hI := expr_in n NS
    cases hin : inb n NS
    · rw [hin] at hI
      have hres := Lib.hid (show leafT s ⟨3, 0, n, 0, l⟩ = 0 by unfold leafT; simp [HNS.out, hin])
      clear hin h1 h2
      go_enter Tryd.func25, Tryd.ntmps25
      go_wp2_with fail
      refine (hI _).mono ?_; rintro r w2 ⟨rfl, rfl⟩
      go_wp2_with fail
      refine (hK0 _).mono ?_; rintro r w2 ⟨rfl, rfl⟩
      go_wp2_with fail
      go_ret
      exact ⟨by rw [hres.out]; rfl, by (repeat' (first | (with_reducible exact Below.refl _ _) | (with_reducible assumption) | (with_reducible refine below_drewN ?_ _) | (with_reducible refine Below.alloc ?_ ?_ _) | (with_reducible refine Below.drew ?_) | (with_reducible refine Below.setCell ?_ ?_ _) | go_size))⟩
    rw [hin] at hI
    obtain ⟨k, rfl, hk⟩ := inb_yes hin
    obtain ⟨hbW, ho0, ho1⟩ := HW.out _ rfl
    obtain ⟨x, hx⟩ := get_some (L := s.slots) (n := k) (by rw [HNS.out]; exact hk)
    obtain ⟨b, off, rfl, hbw, hc⟩ := ints_at (HS.out w (Below.refl _ _)).ss (k := k) (by rw [HNS.out]; exact hk)
    have d1 := (hc k x hx).1
    have d1 := (hbW.cell (p := ⟨b, off + k, none⟩) hbw).trans d1
    have hxv : s.s (k : Int) = x := by unfold Sc.s; simp [List.getD, hx]
    have qk : (k : Int) < (NS : Int) := by omega
    have hcap := cap_row (HS.out w (Below.refl _ _)).ss hk
    have hres := Lib.hid (show leafT s ⟨3, 0, (k : Int), 0, l⟩ = keepR x by unfold leafT; simp [HNS.out, hin, hxv])
    have hK := kind_Right x
    clear hin h1 h2 hc hx hxv hk hbW ho0 ho1
    cases hkr : kRight x
    · rw [hkr] at hK
      have hres := Lib.hid (show leafT s ⟨3, 0, (k : Int), 0, l⟩ = 0 by rw [hres.out]; unfold keepR; rw [hkr]; rfl)
      clear hkr
      go_enter Tryd.func25, Tryd.ntmps25
      go_wp2_with fail
      refine (hI _).mono ?_; rintro r w2 ⟨rfl, rfl⟩
      go_wp2_with fail
      refine (hK _).mono ?_; rintro r w2 ⟨rfl, rfl⟩
      go_wp2_with fail
      go_ret
      exact ⟨by rw [hres.out]; rfl, by (repeat' (first | (with_reducible exact Below.refl _ _) | (with_reducible assumption) | (with_reducible refine below_drewN ?_ _) | (with_reducible refine Below.alloc ?_ ?_ _) | (with_reducible refine Below.drew ?_) | (with_reducible refine Below.setCell ?_ ?_ _) | go_size))⟩
    · rw [hkr] at hK
      have hres := Lib.hid (show leafT s ⟨3, 0, (k : Int), 0, l⟩ = x by rw [hres.out]; unfold keepR; rw [hkr]; rfl)
      clear hkr
      go_enter Tryd.func25, Tryd.ntmps25
      go_wp2_with fail
      refine (hI _).mono ?_; rintro r w2 ⟨rfl, rfl⟩
      go_wp2_with fail
      refine (hK _).mono ?_; rintro r w2 ⟨rfl, rfl⟩
      go_wp2_with fail
      go_ret
      exact ⟨by rw [hres.out]; rfl, by (repeat' (first | (with_reducible exact Below.refl _ _) | (with_reducible assumption) | (with_reducible refine below_drewN ?_ _) | (with_reducible refine Below.alloc ?_ ?_ _) | (with_reducible refine Below.drew ?_) | (with_reducible refine Below.setCell ?_ ?_ _) | go_size))⟩
  by_cases h5 : op = 5
  · subst h5
    have hI := expr_in n NB
    cases hin : inb n NB
    · rw [hin] at hI
      have hres := Lib.hid (show leafT s ⟨5, 0, n, m, l⟩ = 0 by unfold leafT; simp [HNB.out, hin])
      clear hin h1 h2 h3
      go_enter Tryd.func25, Tryd.ntmps25
      go_wp2_with fail
      refine (hI _).mono ?_; rintro r w2 ⟨rfl, rfl⟩
      go_wp2_with fail
      refine (hK0 _).mono ?_; rintro r w2 ⟨rfl, rfl⟩
      go_wp2_with fail
      go_ret
      exact ⟨by rw [hres.out]; rfl, by (repeat' (first | (with_reducible exact Below.refl _ _) | (with_reducible assumption) | (with_reducible refine below_drewN ?_ _) | (with_reducible refine Below.alloc ?_ ?_ _) | (with_reducible refine Below.drew ?_) | (with_reducible refine Below.setCell ?_ ?_ _) | go_size))⟩
    rw [hin] at hI
    obtain ⟨k, rfl, hk⟩ := inb_yes hin
    obtain ⟨W0, hW0⟩ : ∃ W0, W0 = (w.alloc (.cells #[.slice sa NV ca, .slice sb NB cb, c, .slice sd NS cd] 37)).alloc (.cells #[.int .i64 5, .int .i64 0, .int .i64 (k : Int), .int .i64 m, sl] 30) := ⟨_, rfl⟩
    obtain ⟨hbW, ho0, ho1⟩ := HW.out W0 hW0
    obtain ⟨x, hx⟩ := get_some (L := s.blocks) (n := k) (by rw [HNB.out]; exact hk)
    obtain ⟨b, off, rfl, hbw, hc⟩ := blk_at (HS.out w (Below.refl _ _)).bs (k := k) (by rw [HNB.out]; exact hk)
    obtain ⟨_, d1, _⟩ := hc k x hx
    have d1 := (hbW.cell (p := ⟨b, off + k * 2 + 1, none⟩) hbw).trans d1
    have zb : b < W0.heap.size := Nat.lt_of_lt_of_le hbw hbW.size
    have hxv : s.b (k : Int) = x := by unfold Sc.b; simp [List.getD, hx]
    have qk : (k : Int) < (NB : Int) := by omega
    have hcap := cap_row (HS.out w (Below.refl _ _)).bs hk
    have c01 : W0.cell? ⟨w.heap.size, 1, none⟩ = some (.slice (some ⟨b, off, none⟩) NB cb) := obj_cell ho0 (i := 1) rfl
    have c12 : W0.cell? ⟨w.heap.size + 1, 2, none⟩ = some (.int .i64 (k : Int)) := obj_cell ho1 (i := 2) rfl
    have c13 : W0.cell? ⟨w.heap.size + 1, 3, none⟩ = some (.int .i64 m) := obj_cell ho1 (i := 3) rfl
    have z0 := heap_lt ho0
    have z1 := heap_lt ho1
    have hres := Lib.hid (show leafT s ⟨5, 0, (k : Int), m, l⟩ = keepR (fldT x.kind m) by unfold leafT; simp [HNB.out, hin, hxv])
    have HF := Lib.hid (fun W (h : Below W0.heap.size W0 W) => block_Field x.kind m W (HT.out W (hbW.trans (h.mono hbW.size))))
    generalize x.kind = xk at *
    generalize fldS xk m = fs at *
    generalize fldT xk m = T at *
    have hK := kind_Right T
    have HB0 := Lib.hid hbW
    have HW0 := Lib.hid hW0
    clear hin h1 h2 h3 hc hx hxv hk hbW ho0 ho1 hW0
    cases hkr : kRight T
    all_goals (
      rw [hkr] at hK
      have hres := Lib.hid (hres.out.trans (show keepR T = if kRight T then T else 0 from rfl))
      rw [hkr] at hres
      clear hkr
      go_enter Tryd.func25, Tryd.ntmps25
      go_wp2_with fail
      rw [← HW0.out]
      refine (hI _).mono ?_; rintro r w2 ⟨rfl, rfl⟩
      go_upto_region 13 with fail
      try rw [← HW0.out]
      refine wp_region_held_drew (S := (fun w' => Below W0.heap.size W0 w')) (by kernel_rfl) ?_ (fun hHeld => ?_)
      · (try dsimp only); first | assumption | exact Below.alloc hHeld hHeld.size _ | exact (Below.refl _ _).drew | exact Below.drew (Below.refl _ _) | exact Below_drewN _ _ _ | exact Below.refl _ _ | (trace_state; fail)
      refine wpAnyH_take (i := 0) (oi := { dst := some 96, op := Op.fieldAddr 37 (Operand.tmp 2) 1, type := 0, pos := _, after := #[], guard := none }) (v := ?_) rfl (by kernel_rfl) (by kernel_rfl) (by kernel_rfl) (fun _ _ _ h => h) (Or.inl ⟨by rfl, ?_⟩) (by assumption) ?_
      rotate_left
      · intro wt hSw; (try dsimp only at hSw); have c01 := cellB hSw c01 z0; have c12 := cellB hSw c12 z1; have c13 := cellB hSw c13 z1; have d1 := cellB hSw d1 zb; first | (go_simp; done) | (go_simp; with_reducible rfl) | (trace_state; fail)
      try simp only [Act.put, List.setIfInBounds_toArray, List.set_cons_zero, List.set_cons_succ]
      refine wpAnyH_take (i := 1) (oi := { dst := some 97, op := Op.load 24 (Operand.tmp 96), type := 24, pos := _, after := #[{ on := 0, ground := Ground.data }], guard := none }) (v := ?_) rfl (by kernel_rfl) (by kernel_rfl) (by kernel_rfl) (fun _ _ _ h => h) (Or.inl ⟨by rfl, ?_⟩) (by assumption) ?_
      rotate_left
      · intro wt hSw; (try dsimp only at hSw); have c01 := cellB hSw c01 z0; have c12 := cellB hSw c12 z1; have c13 := cellB hSw c13 z1; have d1 := cellB hSw d1 zb; first | (go_simp; done) | (go_simp; with_reducible rfl) | (trace_state; fail)
      try simp only [Act.put, List.setIfInBounds_toArray, List.set_cons_zero, List.set_cons_succ]
      refine wpAnyH_take (i := 2) (oi := { dst := some 98, op := Op.fieldAddr 30 (Operand.tmp 3) 2, type := 0, pos := _, after := #[], guard := none }) (v := ?_) rfl (by kernel_rfl) (by kernel_rfl) (by kernel_rfl) (fun _ _ _ h => h) (Or.inl ⟨by rfl, ?_⟩) (by assumption) ?_
      rotate_left
      · intro wt hSw; (try dsimp only at hSw); have c01 := cellB hSw c01 z0; have c12 := cellB hSw c12 z1; have c13 := cellB hSw c13 z1; have d1 := cellB hSw d1 zb; first | (go_simp; done) | (go_simp; with_reducible rfl) | (trace_state; fail)
      try simp only [Act.put, List.setIfInBounds_toArray, List.set_cons_zero, List.set_cons_succ]
      refine wpAnyH_take (i := 3) (oi := { dst := some 99, op := Op.load 3 (Operand.tmp 98), type := 3, pos := _, after := #[{ on := 2, ground := Ground.data }], guard := none }) (v := ?_) rfl (by kernel_rfl) (by kernel_rfl) (by kernel_rfl) (fun _ _ _ h => h) (Or.inl ⟨by rfl, ?_⟩) (by assumption) ?_
      rotate_left
      · intro wt hSw; (try dsimp only at hSw); have c01 := cellB hSw c01 z0; have c12 := cellB hSw c12 z1; have c13 := cellB hSw c13 z1; have d1 := cellB hSw d1 zb; first | (go_simp; done) | (go_simp; with_reducible rfl) | (trace_state; fail)
      try simp only [Act.put, List.setIfInBounds_toArray, List.set_cons_zero, List.set_cons_succ]
      refine wpAnyH_take (i := 4) (oi := { dst := some 100, op := Op.indexAddr 24 (Operand.tmp 97) (Operand.tmp 99), type := 0, pos := _, after := #[{ on := 1, ground := Ground.data }, { on := 3, ground := Ground.data }], guard := none }) (v := ?_) rfl (by kernel_rfl) (by kernel_rfl) (by kernel_rfl) (fun _ _ _ h => h) (Or.inl ⟨by rfl, ?_⟩) (by assumption) ?_
      rotate_left
      · intro wt hSw; (try dsimp only at hSw); have c01 := cellB hSw c01 z0; have c12 := cellB hSw c12 z1; have c13 := cellB hSw c13 z1; have d1 := cellB hSw d1 zb; first | (go_simp; done) | (go_simp; with_reducible rfl) | (trace_state; fail)
      try simp only [Act.put, List.setIfInBounds_toArray, List.set_cons_zero, List.set_cons_succ]
      refine wpAnyH_take (i := 5) (oi := { dst := some 101, op := Op.fieldAddr 47 (Operand.tmp 100) 1, type := 0, pos := _, after := #[{ on := 4, ground := Ground.data }], guard := none }) (v := ?_) rfl (by kernel_rfl) (by kernel_rfl) (by kernel_rfl) (fun _ _ _ h => h) (Or.inl ⟨by rfl, ?_⟩) (by assumption) ?_
      rotate_left
      · intro wt hSw; (try dsimp only at hSw); have c01 := cellB hSw c01 z0; have c12 := cellB hSw c12 z1; have c13 := cellB hSw c13 z1; have d1 := cellB hSw d1 zb; first | (go_simp; done) | (go_simp; with_reducible rfl) | (trace_state; fail)
      try simp only [Act.put, List.setIfInBounds_toArray, List.set_cons_zero, List.set_cons_succ]
      refine wpAnyH_take (i := 6) (oi := { dst := some 102, op := Op.load 3 (Operand.tmp 101), type := 3, pos := _, after := #[{ on := 5, ground := Ground.data }], guard := none }) (v := ?_) rfl (by kernel_rfl) (by kernel_rfl) (by kernel_rfl) (fun _ _ _ h => h) (Or.inl ⟨by rfl, ?_⟩) (by assumption) ?_
      rotate_left
      · intro wt hSw; (try dsimp only at hSw); have c01 := cellB hSw c01 z0; have c12 := cellB hSw c12 z1; have c13 := cellB hSw c13 z1; have d1 := cellB hSw d1 zb; first | (go_simp; done) | (go_simp; with_reducible rfl) | (trace_state; fail)
      try simp only [Act.put, List.setIfInBounds_toArray, List.set_cons_zero, List.set_cons_succ]
      refine wpAnyH_take (i := 7) (oi := { dst := some 103, op := Op.fieldAddr 30 (Operand.tmp 3) 3, type := 0, pos := _, after := #[], guard := none }) (v := ?_) rfl (by kernel_rfl) (by kernel_rfl) (by kernel_rfl) (fun _ _ _ h => h) (Or.inl ⟨by rfl, ?_⟩) (by assumption) ?_
      rotate_left
      · intro wt hSw; (try dsimp only at hSw); have c01 := cellB hSw c01 z0; have c12 := cellB hSw c12 z1; have c13 := cellB hSw c13 z1; have d1 := cellB hSw d1 zb; first | (go_simp; done) | (go_simp; with_reducible rfl) | (trace_state; fail)
      try simp only [Act.put, List.setIfInBounds_toArray, List.set_cons_zero, List.set_cons_succ]
      refine wpAnyH_take (i := 8) (oi := { dst := some 104, op := Op.load 3 (Operand.tmp 103), type := 3, pos := _, after := #[{ on := 7, ground := Ground.data }], guard := none }) (v := ?_) rfl (by kernel_rfl) (by kernel_rfl) (by kernel_rfl) (fun _ _ _ h => h) (Or.inl ⟨by rfl, ?_⟩) (by assumption) ?_
      rotate_left
      · intro wt hSw; (try dsimp only at hSw); have c01 := cellB hSw c01 z0; have c12 := cellB hSw c12 z1; have c13 := cellB hSw c13 z1; have d1 := cellB hSw d1 zb; first | (go_simp; done) | (go_simp; with_reducible rfl) | (trace_state; fail)
      try simp only [Act.put, List.setIfInBounds_toArray, List.set_cons_zero, List.set_cons_succ]
      refine wpAnyH_ready (rs := [9]) (by kernel_rfl) (by simp) ?_
      refine AllReadyH.cons (o := { dst := some 105, op := Op.call { callee := Callee.value (Operand.func 39), args := #[Operand.tmp 102, Operand.tmp 104], argTypes := #[3, 3] }, type := 68, pos := _, after := #[{ on := 6, ground := Ground.data }, { on := 8, ground := Ground.data }], guard := none }) rfl (fun K hK => ?_) AllReadyH.nil
      go_simp
      refine (HF.out _ hHeld).mono ?_; rintro r w2 ⟨rfl, hb⟩; have hHeld := hHeld.trans (hb.mono hHeld.size)
      go_wp2_with fail
      refine hK.out _ _ ?_ (fun hHeld => ?_)
      · (try dsimp only); first | assumption | exact Below.alloc hHeld hHeld.size _ | exact (Below.refl _ _).drew | exact Below.drew (Below.refl _ _) | exact Below_drewN _ _ _ | exact Below.refl _ _ | (trace_state; fail)
      clear hK K
      try simp only [Act.put, List.setIfInBounds_toArray, List.set_cons_zero, List.set_cons_succ]
      refine wpAnyH_take (i := 10) (oi := { dst := some 95, op := Op.move (Operand.tmp 105), type := 68, pos := _, after := #[{ on := 9, ground := Ground.data }], guard := none }) (v := ?_) rfl (by kernel_rfl) (by kernel_rfl) (by kernel_rfl) (fun _ _ _ h => h) (Or.inl ⟨by rfl, ?_⟩) (by assumption) ?_
      rotate_left
      · intro wt hSw; (try dsimp only at hSw); have c01 := cellB hSw c01 z0; have c12 := cellB hSw c12 z1; have c13 := cellB hSw c13 z1; have d1 := cellB hSw d1 zb; first | (go_simp; done) | (go_simp; with_reducible rfl) | (trace_state; fail)
      try simp only [Act.put, List.setIfInBounds_toArray, List.set_cons_zero, List.set_cons_succ]
      refine wpAnyH_take (i := 11) (oi := { dst := some 106, op := Op.extract (Operand.tmp 95) 0, type := 9, pos := _, after := #[{ on := 10, ground := Ground.data }], guard := none }) (v := ?_) rfl (by kernel_rfl) (by kernel_rfl) (by kernel_rfl) (fun _ _ _ h => h) (Or.inl ⟨by rfl, ?_⟩) (by assumption) ?_
      rotate_left
      · intro wt hSw; (try dsimp only at hSw); have c01 := cellB hSw c01 z0; have c12 := cellB hSw c12 z1; have c13 := cellB hSw c13 z1; have d1 := cellB hSw d1 zb; first | (go_simp; done) | (go_simp; with_reducible rfl) | (trace_state; fail)
      try simp only [Act.put, List.setIfInBounds_toArray, List.set_cons_zero, List.set_cons_succ]
      refine wpAnyH_take (i := 12) (oi := { dst := some 107, op := Op.extract (Operand.tmp 95) 1, type := 3, pos := _, after := #[{ on := 10, ground := Ground.data }], guard := none }) (v := ?_) rfl (by kernel_rfl) (by kernel_rfl) (by kernel_rfl) (fun _ _ _ h => h) (Or.inl ⟨by rfl, ?_⟩) (by assumption) ?_
      rotate_left
      · intro wt hSw; (try dsimp only at hSw); have c01 := cellB hSw c01 z0; have c12 := cellB hSw c12 z1; have c13 := cellB hSw c13 z1; have d1 := cellB hSw d1 zb; first | (go_simp; done) | (go_simp; with_reducible rfl) | (trace_state; fail)
      try simp only [Act.put, List.setIfInBounds_toArray, List.set_cons_zero, List.set_cons_succ]
      refine wpAnyH_take (i := 13) (oi := { dst := some 5, op := Op.assign (Operand.tmp 107), type := 3, pos := _, after := #[{ on := 12, ground := Ground.data }, { on := 9, ground := Ground.chain }, { on := 0, ground := Ground.phase }, { on := 1, ground := Ground.phase }, { on := 2, ground := Ground.phase }, { on := 3, ground := Ground.phase }, { on := 4, ground := Ground.phase }, { on := 5, ground := Ground.phase }, { on := 6, ground := Ground.phase }, { on := 7, ground := Ground.phase }, { on := 8, ground := Ground.phase }, { on := 9, ground := Ground.phase }, { on := 10, ground := Ground.phase }, { on := 11, ground := Ground.phase }, { on := 12, ground := Ground.phase }], guard := none }) (v := ?_) rfl (by kernel_rfl) (by kernel_rfl) (by kernel_rfl) (fun _ _ _ h => h) (Or.inl ⟨by rfl, ?_⟩) (by assumption) ?_
      rotate_left
      · intro wt hSw; (try dsimp only at hSw); have c01 := cellB hSw c01 z0; have c12 := cellB hSw c12 z1; have c13 := cellB hSw c13 z1; have d1 := cellB hSw d1 zb; first | (go_simp; done) | (go_simp; with_reducible rfl) | (trace_state; fail)
      try simp only [Act.put, List.setIfInBounds_toArray, List.set_cons_zero, List.set_cons_succ]
      refine wpAnyH_done (by kernel_rfl) ?_ _
      have HHw := Lib.hid (HB0.out.trans (hHeld.mono HB0.out.size))
      clear hHeld
      go_wp2_with fail
      refine (hK _).mono ?_; rintro r w3 ⟨rfl, rfl⟩
      go_wp2_with fail
      go_ret
      exact ⟨by rw [hres.out]; rfl, HHw.out⟩)
  · have e1 : (op == 1) = false := by simpa using h1
    have e2 : (op == 2) = false := by simpa using h2
    have e3 : (op == 3) = false := by simpa using h3
    have e5 : (op == 5) = false := by simpa using h5
    have hres := Lib.hid (show leafT s ⟨op, 0, n, m, l⟩ = 0 by unfold leafT; simp [h1, h2, h3, h5])
    clear h1 h2 h3 h5
    go_enter Tryd.func25, Tryd.ntmps25
    go_wp2_with fail
    refine (hK0 _).mono ?_; rintro r w2 ⟨rfl, rfl⟩
    go_wp2_with fail
    go_ret
    exact ⟨by rw [hres.out]; rfl, by (repeat' (first | (with_reducible exact Below.refl _ _) | (with_reducible assumption) | (with_reducible refine below_drewN ?_ _) | (with_reducible refine Below.alloc ?_ ?_ _) | (with_reducible refine Below.drew ?_) | (with_reducible refine Below.setCell ?_ ?_ _) | go_size))⟩
end Go.Proofs.YtpecpeedefeokaaDoor
