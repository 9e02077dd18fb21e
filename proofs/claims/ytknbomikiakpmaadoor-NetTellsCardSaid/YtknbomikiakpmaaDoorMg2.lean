/- Merged texts: ExR0, ExRM, ExR1, ExR2, ExR4, ExR5, ExR7, ExRT. -/
import Derived.Test.YtknbomikiakpmaaDoorMg0
import Derived.Test.YtknbomikiakpmaaDoorMg1
/- Layer 26: the document's Type, of an expression with none within it. -/
namespace Go.Proofs.YtknbomikiakpmaaDoor
open Go.RowKit
set_option linter.unusedSimpArgs false
set_option linter.unusedVariables false
theorem tyV_at {k : Int} {j : Nat} (h : j < (bF k).length) : (tyV k)[j]? = some (.int .i64 (fldT k (j : Int))) := by
  have h0 : ¬ ((j : Int) < 0) := by omega
  unfold tyV fldT
  simp [List.getD, h, h0]
theorem bF_small (k : Int) : (bF k).length ≤ 10 := by
  unfold bF
  repeat' split
  all_goals decide
set_option maxRecDepth 100000 in
set_option maxHeartbeats 8000000 in
theorem ref26_Type0 (a b c d : Value) (s : Sc) (op t n m : Int) (h2 : ¬ op = 2) (v : Value) (w : World) (hs : ScAt w a b d s) (hv : ExV w v ⟨op, t, n, m, []⟩) : Calls Tryd.prog 38 #[.agg #[a, b, c, d], v] w fun r w' => r = .returned (.int .i64 (leafT s ⟨op, t, n, m, []⟩)) ∧ Below w.heap.size w w' := by
  obtain ⟨sl, rfl, _, hrl⟩ := hv
  obtain ⟨al, cl, rfl⟩ := row_get hrl
  have HS := Lib.hid (fun W (h : Below w.heap.size w W) => hs.below h)
  obtain ⟨sa, ca, rfl⟩ := row_get hs.vs
  obtain ⟨sb, cb, rfl⟩ := row_get hs.bs
  obtain ⟨sd, cd, rfl⟩ := row_get hs.ss
  obtain ⟨NV, hNV⟩ : ∃ N, s.vars.length = N := ⟨_, rfl⟩
  obtain ⟨NB, hNB⟩ : ∃ N, s.blocks.length = N := ⟨_, rfl⟩
  obtain ⟨NS, hNS⟩ : ∃ N, s.slots.length = N := ⟨_, rfl⟩
  have HNV := Lib.hid hNV
  have HNB := Lib.hid hNB
  have HNS := Lib.hid hNS
  have hlv := hs.vs.len
  have hlb := hs.bs.len
  have hls := hs.ss.len
  simp only [List.length_nil] at HS ⊢
  rw [hNV, hNB, hNS] at HS
  rw [hNV] at hlv ⊢
  rw [hNB] at hlb ⊢
  rw [hNS] at hls ⊢
  clear hs hNV hNB hNS hrl
  have hK0 := ref01_Right 0
  rw [show kRight 0 = false from rfl] at hK0
  have hKt := ref01_Right t
  have HW := Lib.hid (show ∀ W, W = (w.alloc (.cells #[.slice sa NV ca, .slice sb NB cb, c, .slice sd NS cd] 43)).alloc (.cells #[.int .i64 op, .int .i64 t, .int .i64 n, .int .i64 m, .slice al 0 cl] 37) → Below w.heap.size w W ∧ W.heap[w.heap.size]? = some (.cells #[.slice sa NV ca, .slice sb NB cb, c, .slice sd NS cd] 43) ∧ W.heap[w.heap.size + 1]? = some (.cells #[.int .i64 op, .int .i64 t, .int .i64 n, .int .i64 m, .slice al 0 cl] 37) from by
    rintro W rfl
    refine ⟨by (repeat' (first | (with_reducible exact Below.refl _ _) | (with_reducible assumption) | (with_reducible refine below_drewN ?_ _) | (with_reducible refine Below.alloc ?_ ?_ _) | (with_reducible refine Below.drew ?_) | (with_reducible refine Below.setCell ?_ ?_ _) | go_size)), ?_, get_last (by simp)⟩
    rw [get_past (by simp)]; exact get_last rfl)
  by_cases h1 : op = 1
  · subst h1
    by_cases hm : m = 0
    case neg =>
      have em : (m == 0) = false := by simpa using hm
      have hres := Lib.hid (show leafT s ⟨1, t, n, m, []⟩ = 0 by unfold leafT; simp [hm])
      clear hm hKt
      go_enter Tryd.func38, Tryd.ntmps38
      go_wp2_with fail
      refine (hK0 _).mono ?_; rintro r w2 ⟨rfl, rfl⟩
      go_wp2_with fail
      go_ret
      exact ⟨by rw [hres.out]; rfl, by (repeat' (first | (with_reducible exact Below.refl _ _) | (with_reducible assumption) | (with_reducible refine below_drewN ?_ _) | (with_reducible refine Below.alloc ?_ ?_ _) | (with_reducible refine Below.drew ?_) | (with_reducible refine Below.setCell ?_ ?_ _) | go_size))⟩
    subst hm
    have hI := ref01_In t n
    cases hk : kRight t
    · rw [hk] at hKt
      have hki : kIn t n = false := by cases h : kIn t n with | false => rfl | true => exact absurd (kIn_right h) (by rw [hk]; simp)
      have hres := Lib.hid (show leafT s ⟨1, t, n, 0, []⟩ = 0 by unfold leafT; simp [hki])
      clear hk hki hI
      go_enter Tryd.func38, Tryd.ntmps38
      go_wp2_with fail
      refine (hKt _).mono ?_; rintro r w2 ⟨rfl, rfl⟩
      go_wp2_with fail
      refine (hK0 _).mono ?_; rintro r w2 ⟨rfl, rfl⟩
      go_wp2_with fail
      go_ret
      exact ⟨by rw [hres.out]; rfl, by (repeat' (first | (with_reducible exact Below.refl _ _) | (with_reducible assumption) | (with_reducible refine below_drewN ?_ _) | (with_reducible refine Below.alloc ?_ ?_ _) | (with_reducible refine Below.drew ?_) | (with_reducible refine Below.setCell ?_ ?_ _) | go_size))⟩
    rw [hk] at hKt
    cases hi : kIn t n
    · rw [hi] at hI
      have hres := Lib.hid (show leafT s ⟨1, t, n, 0, []⟩ = 0 by unfold leafT; simp [hi])
      clear hk hi
      go_enter Tryd.func38, Tryd.ntmps38
      go_wp2_with fail
      refine (hKt _).mono ?_; rintro r w2 ⟨rfl, rfl⟩
      go_wp2_with fail
      refine (hI _).mono ?_; rintro r w2 ⟨rfl, rfl⟩
      go_wp2_with fail
      refine (hK0 _).mono ?_; rintro r w2 ⟨rfl, rfl⟩
      go_wp2_with fail
      go_ret
      exact ⟨by rw [hres.out]; rfl, by (repeat' (first | (with_reducible exact Below.refl _ _) | (with_reducible assumption) | (with_reducible refine below_drewN ?_ _) | (with_reducible refine Below.alloc ?_ ?_ _) | (with_reducible refine Below.drew ?_) | (with_reducible refine Below.setCell ?_ ?_ _) | go_size))⟩
    · rw [hi] at hI
      have hres := Lib.hid (show leafT s ⟨1, t, n, 0, []⟩ = t by unfold leafT; simp [hi])
      clear hk hi
      go_enter Tryd.func38, Tryd.ntmps38
      go_wp2_with fail
      refine (hKt _).mono ?_; rintro r w2 ⟨rfl, rfl⟩
      go_wp2_with fail
      refine (hI _).mono ?_; rintro r w2 ⟨rfl, rfl⟩
      go_wp2_with fail
      refine (hKt _).mono ?_; rintro r w2 ⟨rfl, rfl⟩
      go_wp2_with fail
      go_ret
      exact ⟨by rw [hres.out]; rfl, by (repeat' (first | (with_reducible exact Below.refl _ _) | (with_reducible assumption) | (with_reducible refine below_drewN ?_ _) | (with_reducible refine Below.alloc ?_ ?_ _) | (with_reducible refine Below.drew ?_) | (with_reducible refine Below.setCell ?_ ?_ _) | go_size))⟩
  have e1 : (op == 1) = false := by simpa using h1
  by_cases h3 : op = 3
  · subst h3
    by_cases h0 : t = 0
    case neg =>
      have e0 : (t == 0) = false := by simpa using h0
      have hres := Lib.hid (show leafT s ⟨3, t, n, m, []⟩ = 0 by unfold leafT; simp [h0])
      clear h0 hKt
      go_enter Tryd.func38, Tryd.ntmps38
      go_wp2_with fail
      refine (hK0 _).mono ?_; rintro r w2 ⟨rfl, rfl⟩
      go_wp2_with fail
      go_ret
      exact ⟨by rw [hres.out]; rfl, by (repeat' (first | (with_reducible exact Below.refl _ _) | (with_reducible assumption) | (with_reducible refine below_drewN ?_ _) | (with_reducible refine Below.alloc ?_ ?_ _) | (with_reducible refine Below.drew ?_) | (with_reducible refine Below.setCell ?_ ?_ _) | go_size))⟩
    subst h0
    by_cases hm : m = 0
    case neg =>
      have em : (m == 0) = false := by simpa using hm
      have hres := Lib.hid (show leafT s ⟨3, 0, n, m, []⟩ = 0 by unfold leafT; simp [hm])
      clear hm hKt
      go_enter Tryd.func38, Tryd.ntmps38
      go_wp2_with fail
      refine (hK0 _).mono ?_; rintro r w2 ⟨rfl, rfl⟩
      go_wp2_with fail
      go_ret
      exact ⟨by rw [hres.out]; rfl, by (repeat' (first | (with_reducible exact Below.refl _ _) | (with_reducible assumption) | (with_reducible refine below_drewN ?_ _) | (with_reducible refine Below.alloc ?_ ?_ _) | (with_reducible refine Below.drew ?_) | (with_reducible refine Below.setCell ?_ ?_ _) | go_size))⟩
    subst hm
    by_cases hn : 0 ≤ n
    case neg =>
      have en : (0 ≤ n) = False := eq_false hn
      have hin : inb n NS = false := decide_eq_false (fun h => hn h.1)
      have hres := Lib.hid (show leafT s ⟨3, 0, n, 0, []⟩ = 0 by unfold leafT; simp [HNS.out, hin])
      clear hn hin hKt
      go_enter Tryd.func38, Tryd.ntmps38
      go_wp2_with fail
      refine (hK0 _).mono ?_; rintro r w2 ⟨rfl, rfl⟩
      go_wp2_with fail
      go_ret
      exact ⟨by rw [hres.out]; rfl, by (repeat' (first | (with_reducible exact Below.refl _ _) | (with_reducible assumption) | (with_reducible refine below_drewN ?_ _) | (with_reducible refine Below.alloc ?_ ?_ _) | (with_reducible refine Below.drew ?_) | (with_reducible refine Below.setCell ?_ ?_ _) | go_size))⟩
    obtain ⟨k, rfl⟩ : ∃ k : Nat, n = (k : Int) := ⟨n.toNat, by omega⟩
    by_cases hk : k < NS
    case neg =>
      have ek : ((k : Int) < (NS : Int)) = False := eq_false (by omega)
      have hin : inb (k : Int) NS = false := decide_eq_false (by omega)
      have hres := Lib.hid (show leafT s ⟨3, 0, (k : Int), 0, []⟩ = 0 by unfold leafT; simp [HNS.out, hin])
      clear hn hin hk hKt
      go_enter Tryd.func38, Tryd.ntmps38
      go_wp2_with fail
      refine (hK0 _).mono ?_; rintro r w2 ⟨rfl, rfl⟩
      go_wp2_with fail
      go_ret
      exact ⟨by rw [hres.out]; rfl, by (repeat' (first | (with_reducible exact Below.refl _ _) | (with_reducible assumption) | (with_reducible refine below_drewN ?_ _) | (with_reducible refine Below.alloc ?_ ?_ _) | (with_reducible refine Below.drew ?_) | (with_reducible refine Below.setCell ?_ ?_ _) | go_size))⟩
    have hin : inb (k : Int) NS = true := decide_eq_true (by omega)
    obtain ⟨hbW, ho0, ho1⟩ := HW.out _ rfl
    obtain ⟨x, hx⟩ := get_some (L := s.slots) (n := k) (by rw [HNS.out]; exact hk)
    obtain ⟨b, off, rfl, hbw, hc⟩ := ints_at (HS.out w (Below.refl _ _)).ss (k := k) (by rw [HNS.out]; exact hk)
    have d1 := (hc k x hx).1
    have d1 := (hbW.cell (p := ⟨b, off + k, none⟩) hbw).trans d1
    have hxv : s.s (k : Int) = x := by unfold Sc.s; simp [List.getD, hx]
    have qk : ((k : Int) < (NS : Int)) = True := eq_true (by omega)
    have qk' : (k < NS) = True := eq_true hk
    have hcap := cap_row (HS.out w (Below.refl _ _)).ss hk
    have hres := Lib.hid (show leafT s ⟨3, 0, (k : Int), 0, []⟩ = keepR x by unfold leafT; simp [HNS.out, hin, hxv])
    have hK := ref01_Right x
    clear hin hn hc hx hxv hk hbW ho0 ho1 hKt
    cases hkr : kRight x
    · rw [hkr] at hK
      have hres := Lib.hid (show leafT s ⟨3, 0, (k : Int), 0, []⟩ = 0 by rw [hres.out]; unfold keepR; rw [hkr]; rfl)
      clear hkr
      go_enter Tryd.func38, Tryd.ntmps38
      go_wp2_with fail
      refine (hK _).mono ?_; rintro r w2 ⟨rfl, rfl⟩
      go_wp2_with fail
      go_ret
      exact ⟨by rw [hres.out]; rfl, by (repeat' (first | (with_reducible exact Below.refl _ _) | (with_reducible assumption) | (with_reducible refine below_drewN ?_ _) | (with_reducible refine Below.alloc ?_ ?_ _) | (with_reducible refine Below.drew ?_) | (with_reducible refine Below.setCell ?_ ?_ _) | go_size))⟩
    · rw [hkr] at hK
      have hres := Lib.hid (show leafT s ⟨3, 0, (k : Int), 0, []⟩ = x by rw [hres.out]; unfold keepR; rw [hkr]; rfl)
      clear hkr
      go_enter Tryd.func38, Tryd.ntmps38
      go_wp2_with fail
      refine (hK _).mono ?_; rintro r w2 ⟨rfl, rfl⟩
      go_wp2_with fail
      go_ret
      exact ⟨by rw [hres.out]; rfl, by (repeat' (first | (with_reducible exact Below.refl _ _) | (with_reducible assumption) | (with_reducible refine below_drewN ?_ _) | (with_reducible refine Below.alloc ?_ ?_ _) | (with_reducible refine Below.drew ?_) | (with_reducible refine Below.setCell ?_ ?_ _) | go_size))⟩
  have e3 : (op == 3) = false := by simpa using h3
  by_cases h4 : op = 4
  · subst h4
    have hres := Lib.hid (show leafT s ⟨4, t, n, m, []⟩ = 0 by unfold leafT; simp)
    obtain ⟨W0, hW0⟩ : ∃ W0, W0 = (w.alloc (.cells #[.slice sa NV ca, .slice sb NB cb, c, .slice sd NS cd] 43)).alloc (.cells #[.int .i64 4, .int .i64 t, .int .i64 n, .int .i64 m, .slice al 0 cl] 37) := ⟨_, rfl⟩
    obtain ⟨hbW, ho0, ho1⟩ := HW.out W0 hW0
    have HW0 := Lib.hid hW0
    have HB0 := Lib.hid hbW
    have z0 := heap_lt ho0
    have z1 := heap_lt ho1
    have s0 : W0.cell? ⟨w.heap.size, 0, none⟩ = some (.slice sa NV ca) := obj_cell ho0 (i := 0) rfl
    have s1 : W0.cell? ⟨w.heap.size, 1, none⟩ = some (.slice sb NB cb) := obj_cell ho0 (i := 1) rfl
    have g0 : W0.cell? ⟨w.heap.size + 1, 0, none⟩ = some (.int .i64 4) := obj_cell ho1 (i := 0) rfl
    have g1 : W0.cell? ⟨w.heap.size + 1, 1, none⟩ = some (.int .i64 t) := obj_cell ho1 (i := 1) rfl
    have g2 : W0.cell? ⟨w.heap.size + 1, 2, none⟩ = some (.int .i64 n) := obj_cell ho1 (i := 2) rfl
    have g3 : W0.cell? ⟨w.heap.size + 1, 3, none⟩ = some (.int .i64 m) := obj_cell ho1 (i := 3) rfl
    clear hW0 hbW ho0 ho1 HW hKt e1 e3 h1 h3
    have hw2 : IntKind.i64.wrap 2 = 2 := by decide
    have hw1 : IntKind.i64.wrap 1 = 1 := by decide
    have hwt : IntKind.i64.wrap (Int.tdiv 2 2) = 1 := by decide
    go_enter Tryd.func38, Tryd.ntmps38
    go_upto_region 17 with fail
    rw [← HW0.out]
    have qq0 := fun wt (h : Below W0.heap.size W0 wt) => cellB h s0 z0
    have qq1 := fun wt (h : Below W0.heap.size W0 wt) => cellB h g0 z1
    have qq2 := fun wt (h : Below W0.heap.size W0 wt) => cellB h g1 z1
    have qq3 := fun wt (h : Below W0.heap.size W0 wt) => cellB h g2 z1
    have qq4 := fun wt (h : Below W0.heap.size W0 wt) => cellB h g3 z1
    refine wp_region_held_drew (S := (fun w' => Below W0.heap.size W0 w')) (by kernel_rfl) ?_ (fun hHeld => ?_)
    · (try dsimp only); first | assumption | exact Below.alloc hHeld hHeld.size _ | exact (Below.refl _ _).drew | exact Below.drew (Below.refl _ _) | exact Below_drewN _ _ _ | exact Below.refl _ _
    refine tk 0 (v := ?_) (hy := ?_) (h := ?_); rotate_left
    · intro _ _; go_simp <;> with_reducible rfl
    try simp only [pu, pa, pz, ps]
    refine tk 1 (v := ?_) (hy := ?_) (h := ?_); rotate_left
    · intro _ _; go_simp <;> with_reducible rfl
    try simp only [pu, pa, pz, ps]
    refine tk 2 (v := ?_) (hy := ?_) (h := ?_); rotate_left
    · intro wt hSw; (try dsimp only at hSw); go_simp <;> with_reducible rfl
    try simp only [pu, pa, pz, ps]
    refine tk 3 (v := ?_) (hy := ?_) (h := ?_); rotate_left
    · intro _ _; go_simp <;> with_reducible rfl
    try simp only [pu, pa, pz, ps]
    refine tk 4 (v := ?_) (hy := ?_) (h := ?_); rotate_left
    · intro _ _; go_simp <;> with_reducible rfl
    try simp only [pu, pa, pz, ps]
    refine tk 5 (v := ?_) (hy := ?_) (h := ?_); rotate_left
    · intro _ _; go_simp <;> with_reducible rfl
    try simp only [pu, pa, pz, ps]
    refine tk 6 (v := ?_) (hy := ?_) (h := ?_); rotate_left
    · intro _ _; go_simp <;> with_reducible rfl
    try simp only [pu, pa, pz, ps]
    refine sk 7 (h := ?_)
    try simp only [pu, pa, pz, ps]
    refine sk 8 (h := ?_)
    try simp only [pu, pa, pz, ps]
    refine sk 9 (h := ?_)
    try simp only [pu, pa, pz, ps]
    refine tk 10 (v := ?_) (hy := ?_) (h := ?_); rotate_left
    · intro _ _; go_simp <;> with_reducible rfl
    try simp only [pu, pa, pz, ps]
    refine tk 11 (v := ?_) (hy := ?_) (h := ?_); rotate_left
    · intro _ _; go_simp <;> with_reducible rfl
    try simp only [pu, pa, pz, ps]
    refine sk 12 (h := ?_)
    try simp only [pu, pa, pz, ps]
    refine sk 13 (h := ?_)
    try simp only [pu, pa, pz, ps]
    refine sk 14 (h := ?_)
    try simp only [pu, pa, pz, ps]
    refine tk 15 (v := ?_) (hy := ?_) (h := ?_); rotate_left
    · intro _ _; go_simp <;> with_reducible rfl
    try simp only [pu, pa, pz, ps]
    refine tk 16 (v := ?_) (hy := ?_) (h := ?_); rotate_left
    · intro _ _; go_simp <;> with_reducible rfl
    try simp only [pu, pa, pz, ps]
    refine sk 17 (h := ?_)
    try simp only [pu, pa, pz, ps]
    refine sk 18 (h := ?_)
    try simp only [pu, pa, pz, ps]
    refine sk 19 (h := ?_)
    try simp only [pu, pa, pz, ps]
    refine tk 20 (v := ?_) (hy := ?_) (h := ?_); rotate_left
    · intro _ _; go_simp <;> with_reducible rfl
    try simp only [pu, pa, pz, ps]
    refine tk 21 (v := ?_) (hy := ?_) (h := ?_); rotate_left
    · intro _ _; go_simp <;> with_reducible rfl
    try simp only [pu, pa, pz, ps]
    refine sk 22 (h := ?_)
    try simp only [pu, pa, pz, ps]
    refine sk 23 (h := ?_)
    try simp only [pu, pa, pz, ps]
    refine sk 24 (h := ?_)
    try simp only [pu, pa, pz, ps]
    refine sk 25 (h := ?_)
    try simp only [pu, pa, pz, ps]
    refine sk 26 (h := ?_)
    try simp only [pu, pa, pz, ps]
    refine sk 27 (h := ?_)
    try simp only [pu, pa, pz, ps]
    refine tk 28 (v := ?_) (hy := ?_) (h := ?_); rotate_left
    · intro _ _; go_simp <;> with_reducible rfl
    try simp only [pu, pa, pz, ps]
    refine tk 29 (v := ?_) (hy := ?_) (h := ?_); rotate_left
    · intro _ _; go_simp <;> with_reducible rfl
    try simp only [pu, pa, pz, ps]
    refine sk 30 (h := ?_)
    try simp only [pu, pa, pz, ps]
    refine sk 31 (h := ?_)
    try simp only [pu, pa, pz, ps]
    refine sk 32 (h := ?_)
    try simp only [pu, pa, pz, ps]
    refine sk 33 (h := ?_)
    try simp only [pu, pa, pz, ps]
    refine sk 34 (h := ?_)
    try simp only [pu, pa, pz, ps]
    refine sk 35 (h := ?_)
    try simp only [pu, pa, pz, ps]
    refine sk 36 (h := ?_)
    try simp only [pu, pa, pz, ps]
    refine sk 37 (h := ?_)
    try simp only [pu, pa, pz, ps]
    refine sk 38 (h := ?_)
    try simp only [pu, pa, pz, ps]
    refine sk 39 (h := ?_)
    try simp only [pu, pa, pz, ps]
    refine sk 40 (h := ?_)
    try simp only [pu, pa, pz, ps]
    refine sk 41 (h := ?_)
    try simp only [pu, pa, pz, ps]
    refine tk 42 (v := ?_) (hy := ?_) (h := ?_); rotate_left
    · intro _ _; go_simp <;> with_reducible rfl
    try simp only [pu, pa, pz, ps]
    refine tk 43 (v := ?_) (hy := ?_) (h := ?_); rotate_left
    · intro _ _; go_simp <;> with_reducible rfl
    try simp only [pu, pa, pz, ps]
    refine sk 44 (h := ?_)
    try simp only [pu, pa, pz, ps]
    refine sk 45 (h := ?_)
    try simp only [pu, pa, pz, ps]
    refine sk 46 (h := ?_)
    try simp only [pu, pa, pz, ps]
    refine sk 47 (h := ?_)
    try simp only [pu, pa, pz, ps]
    refine sk 48 (h := ?_)
    try simp only [pu, pa, pz, ps]
    refine sk 49 (h := ?_)
    try simp only [pu, pa, pz, ps]
    refine tk 50 (v := ?_) (hy := ?_) (h := ?_); rotate_left
    · intro _ _; go_simp <;> with_reducible rfl
    try simp only [pu, pa, pz, ps]
    refine wpAnyH_done (by kernel_rfl) ?_ _
    have HHw := Lib.hid (HB0.out.trans (hHeld.mono HB0.out.size))
    have s0 := cellB hHeld s0 z0
    have g2 := cellB hHeld g2 z1
    clear hHeld
    go_wp2_with fail
    refine (hK0 _).mono ?_; rintro r w2 ⟨rfl, rfl⟩
    go_wp2_with fail
    go_ret
    exact ⟨by rw [hres.out]; rfl, HHw.out⟩
  have e4 : (op == 4) = false := by simpa using h4
  by_cases h5 : op = 5
  · subst h5
    clear h4 h1 h3 e1 e3 e4
    by_cases h0 : t = 0
    case neg =>
      have e0 : (t == 0) = false := by simpa using h0
      have hres := Lib.hid (show leafT s ⟨5, t, n, m, []⟩ = 0 by unfold leafT; simp [h0])
      clear h0 hKt
      go_enter Tryd.func38, Tryd.ntmps38
      go_wp2_with fail
      refine (hK0 _).mono ?_; rintro r w2 ⟨rfl, rfl⟩
      go_wp2_with fail
      go_ret
      exact ⟨by rw [hres.out]; rfl, by (repeat' (first | (with_reducible exact Below.refl _ _) | (with_reducible assumption) | (with_reducible refine below_drewN ?_ _) | (with_reducible refine Below.alloc ?_ ?_ _) | (with_reducible refine Below.drew ?_) | (with_reducible refine Below.setCell ?_ ?_ _) | go_size))⟩
    subst h0
    by_cases hn : 0 ≤ n
    case neg =>
      have en : (0 ≤ n) = False := eq_false hn
      have hin : inb n NB = false := decide_eq_false (fun h => hn h.1)
      have hres := Lib.hid (show leafT s ⟨5, 0, n, m, []⟩ = 0 by unfold leafT; simp [HNB.out, hin])
      clear hn hin hKt
      go_enter Tryd.func38, Tryd.ntmps38
      go_wp2_with fail
      refine (hK0 _).mono ?_; rintro r w2 ⟨rfl, rfl⟩
      go_wp2_with fail
      go_ret
      exact ⟨by rw [hres.out]; rfl, by (repeat' (first | (with_reducible exact Below.refl _ _) | (with_reducible assumption) | (with_reducible refine below_drewN ?_ _) | (with_reducible refine Below.alloc ?_ ?_ _) | (with_reducible refine Below.drew ?_) | (with_reducible refine Below.setCell ?_ ?_ _) | go_size))⟩
    obtain ⟨k, rfl⟩ : ∃ k : Nat, n = (k : Int) := ⟨n.toNat, by omega⟩
    by_cases hk : k < NB
    case neg =>
      have ek : ((k : Int) < (NB : Int)) = False := eq_false (by omega)
      have ek2 : (k < NB) = False := eq_false hk
      have hin : inb (k : Int) NB = false := decide_eq_false (by omega)
      have hres := Lib.hid (show leafT s ⟨5, 0, (k : Int), m, []⟩ = 0 by unfold leafT; simp [HNB.out, hin])
      clear hn hin hk hKt
      go_enter Tryd.func38, Tryd.ntmps38
      go_wp2_with fail
      refine (hK0 _).mono ?_; rintro r w2 ⟨rfl, rfl⟩
      go_wp2_with fail
      go_ret
      exact ⟨by rw [hres.out]; rfl, by (repeat' (first | (with_reducible exact Below.refl _ _) | (with_reducible assumption) | (with_reducible refine below_drewN ?_ _) | (with_reducible refine Below.alloc ?_ ?_ _) | (with_reducible refine Below.drew ?_) | (with_reducible refine Below.setCell ?_ ?_ _) | go_size))⟩
    have hin : inb (k : Int) NB = true := decide_eq_true (by omega)
    obtain ⟨x, hx⟩ := get_some (L := s.blocks) (n := k) (by rw [HNB.out]; exact hk)
    obtain ⟨b, off, rfl, hbw, hc⟩ := blk_at (HS.out w (Below.refl _ _)).bs (k := k) (by rw [HNB.out]; exact hk)
    obtain ⟨_, d1, _⟩ := hc k x hx
    have hxv : s.b (k : Int) = x := by unfold Sc.b; simp [List.getD, hx]
    have qk : ((k : Int) < (NB : Int)) = True := eq_true (by omega)
    have qk' : (k < NB) = True := eq_true hk
    have hcap := cap_row (HS.out w (Below.refl _ _)).bs hk
    have HX := Lib.hid (show leafT s ⟨5, 0, (k : Int), m, []⟩ = keepR (fldT x.kind m) by unfold leafT; simp [HNB.out, hin, hxv])
    generalize x.kind = xk at *
    clear hin hn hc hx hxv hk hKt
    obtain ⟨W0, hW0⟩ : ∃ W0, W0 = (w.alloc (.cells #[.slice sa NV ca, .slice (some ⟨b, off, none⟩) NB cb, c, .slice sd NS cd] 43)).alloc (.cells #[.int .i64 5, .int .i64 0, .int .i64 (k : Int), .int .i64 m, .slice al 0 cl] 37) := ⟨_, rfl⟩
    obtain ⟨hbW, ho0, ho1⟩ := HW.out W0 hW0
    have HW0 := Lib.hid hW0
    have HB0 := Lib.hid hbW
    have z0 := heap_lt ho0
    have z1 := heap_lt ho1
    have s0 : W0.cell? ⟨w.heap.size, 0, none⟩ = some (.slice sa NV ca) := obj_cell ho0 (i := 0) rfl
    have s1 : W0.cell? ⟨w.heap.size, 1, none⟩ = some (.slice (some ⟨b, off, none⟩) NB cb) := obj_cell ho0 (i := 1) rfl
    have g0 : W0.cell? ⟨w.heap.size + 1, 0, none⟩ = some (.int .i64 5) := obj_cell ho1 (i := 0) rfl
    have g1 : W0.cell? ⟨w.heap.size + 1, 1, none⟩ = some (.int .i64 0) := obj_cell ho1 (i := 1) rfl
    have g2 : W0.cell? ⟨w.heap.size + 1, 2, none⟩ = some (.int .i64 (k : Int)) := obj_cell ho1 (i := 2) rfl
    have g3 : W0.cell? ⟨w.heap.size + 1, 3, none⟩ = some (.int .i64 m) := obj_cell ho1 (i := 3) rfl
    clear hW0 hbW ho0 ho1 HW
    have d1 := (HB0.out.cell (p := ⟨b, off + k * 2 + 1, none⟩) hbw).trans d1
    have zb : b < W0.heap.size := Nat.lt_of_lt_of_le hbw HB0.out.size
    by_cases hr : 1 ≤ xk ∧ xk ≤ 8
    case neg =>
      have hF := ref11_Fields_no xk hr W0
      have hres := Lib.hid (show leafT s ⟨5, 0, (k : Int), m, []⟩ = 0 by rw [HX.out, (fld_no (k := xk) (i := m) (by rw [bF_no hr]; simp)).2]; rfl)
      clear hr
      by_cases hm : 0 ≤ m
      · have em : (0 ≤ m) = True := eq_true hm
        have em2 : (m < 0) = False := eq_false (by omega)
        go_enter Tryd.func38, Tryd.ntmps38
        go_upto_region 24 with fail
        rw [← HW0.out]
        go_wp2_with fail
        refine hF.mono ?_; rintro r w2 ⟨rfl, rfl⟩
        go_wp2_with fail
        refine (hK0 _).mono ?_; rintro r w2 ⟨rfl, rfl⟩
        go_wp2_with fail
        go_ret
        exact ⟨by rw [hres.out]; rfl, HB0.out⟩
      · have em : (0 ≤ m) = False := eq_false hm
        go_enter Tryd.func38, Tryd.ntmps38
        go_upto_region 24 with fail
        rw [← HW0.out]
        go_wp2_with fail
        refine hF.mono ?_; rintro r w2 ⟨rfl, rfl⟩
        go_wp2_with fail
        refine (hK0 _).mono ?_; rintro r w2 ⟨rfl, rfl⟩
        go_wp2_with fail
        go_ret
        exact ⟨by rw [hres.out]; rfl, HB0.out⟩
    have hF := ref11_Fields xk hr W0
    obtain ⟨L, hL⟩ : ∃ L, (bF xk).length = L := ⟨_, rfl⟩
    have hFn := fun (h : ¬ (0 ≤ m ∧ m < (L : Int))) => (fld_no (k := xk) (i := m) (by rw [hL]; exact h)).2
    have hFy := fun (j : Nat) (h : j < L) => tyV_at (k := xk) (j := j) (by rw [hL]; exact h)
    have hL10 : L ≤ 10 := by rw [← hL]; exact bF_small xk
    rw [hL] at hF
    clear hr hL
    by_cases hm : 0 ≤ m
    case neg =>
      have em : (0 ≤ m) = False := eq_false hm
      have hres := Lib.hid (show leafT s ⟨5, 0, (k : Int), m, []⟩ = 0 by rw [HX.out, hFn (fun h => hm h.1)]; rfl)
      clear hm hFn hFy
      go_enter Tryd.func38, Tryd.ntmps38
      go_upto_region 24 with fail
      rw [← HW0.out]
      go_wp2_with fail
      refine hF.mono ?_; rintro r w2 ⟨rfl, hw2⟩
      have hb2 : Below W0.heap.size W0 w2 := by rw [hw2]; exact by (repeat' (first | (with_reducible exact Below.refl _ _) | (with_reducible assumption) | (with_reducible refine below_drewN ?_ _) | (with_reducible refine Below.alloc ?_ ?_ _) | (with_reducible refine Below.drew ?_) | (with_reducible refine Below.setCell ?_ ?_ _) | go_size))
      have g3 := cellB hb2 g3 z1
      have HBE := Lib.hid (HB0.out.trans (hb2.mono HB0.out.size))
      clear hw2 hb2
      go_wp2_with fail
      refine (hK0 _).mono ?_; rintro r w2 ⟨rfl, rfl⟩
      go_wp2_with fail
      go_ret
      exact ⟨by rw [hres.out]; rfl, HBE.out⟩
    obtain ⟨j, rfl⟩ : ∃ j : Nat, m = (j : Int) := ⟨m.toNat, by omega⟩
    by_cases hj : j < L
    case neg =>
      have ej : ((j : Int) < (L : Int)) = False := eq_false (by omega)
      have ej2 : (j < L) = False := eq_false hj
      have hres := Lib.hid (show leafT s ⟨5, 0, (k : Int), (j : Int), []⟩ = 0 by rw [HX.out, hFn (fun h => hj (by omega))]; rfl)
      clear hm hj hFn hFy
      go_enter Tryd.func38, Tryd.ntmps38
      go_upto_region 24 with fail
      rw [← HW0.out]
      go_wp2_with fail
      refine hF.mono ?_; rintro r w2 ⟨rfl, hw2⟩
      have hb2 : Below W0.heap.size W0 w2 := by rw [hw2]; exact by (repeat' (first | (with_reducible exact Below.refl _ _) | (with_reducible assumption) | (with_reducible refine below_drewN ?_ _) | (with_reducible refine Below.alloc ?_ ?_ _) | (with_reducible refine Below.drew ?_) | (with_reducible refine Below.setCell ?_ ?_ _) | go_size))
      have g3 := cellB hb2 g3 z1
      have HBE := Lib.hid (HB0.out.trans (hb2.mono HB0.out.size))
      clear hw2 hb2
      go_wp2_with fail
      refine (hK0 _).mono ?_; rintro r w2 ⟨rfl, rfl⟩
      go_wp2_with fail
      go_ret
      exact ⟨by rw [hres.out]; rfl, HBE.out⟩
    have ej : ((j : Int) < (L : Int)) = True := eq_true (by omega)
    have ej2 : (j < L) = True := eq_true hj
    have hY := Lib.hid (hFy j hj)
    clear hFn hFy hm hj
    generalize fldT xk (j : Int) = X at *
    have hK := ref01_Right X
    cases hkr : kRight X
    all_goals
      rw [hkr] at hK
      have hres := Lib.hid (HX.out.trans (show keepR X = if kRight X then X else 0 from rfl))
      rw [hkr] at hres
      clear hkr
      go_enter Tryd.func38, Tryd.ntmps38
      go_upto_region 24 with fail
      rw [← HW0.out]
      go_wp2_with fail
      refine hF.mono ?_; rintro r w2 ⟨rfl, hw2⟩
      have hb2 : Below W0.heap.size W0 w2 := by rw [hw2]; exact by (repeat' (first | (with_reducible exact Below.refl _ _) | (with_reducible assumption) | (with_reducible refine below_drewN ?_ _) | (with_reducible refine Below.alloc ?_ ?_ _) | (with_reducible refine Below.drew ?_) | (with_reducible refine Below.setCell ?_ ?_ _) | go_size))
      have g3 := cellB hb2 g3 z1
      have HBE := Lib.hid (HB0.out.trans (hb2.mono HB0.out.size))
      have cX : w2.cell? ⟨W0.heap.size + 1, j, none⟩ = some (.int .i64 X) := by rw [hw2]; exact obj_cell (get_last (by simp)) hY.out
      clear hw2 hb2
      go_wp2_with fail
      refine (hK _).mono ?_; rintro r w2 ⟨rfl, rfl⟩
      go_wp2_with fail
      go_ret
      exact ⟨by rw [hres.out]; rfl, HBE.out⟩
  have e5 : (op == 5) = false := by simpa using h5
  by_cases h6 : op = 6
  · subst h6
    have hres := Lib.hid (show leafT s ⟨6, t, n, m, []⟩ = 0 by unfold leafT; simp)
    clear hKt h1 h3 h4 h5
    go_enter Tryd.func38, Tryd.ntmps38
    go_wp2_with fail
    refine (hK0 _).mono ?_; rintro r w2 ⟨rfl, rfl⟩
    go_wp2_with fail
    go_ret
    exact ⟨by rw [hres.out]; rfl, by (repeat' (first | (with_reducible exact Below.refl _ _) | (with_reducible assumption) | (with_reducible refine below_drewN ?_ _) | (with_reducible refine Below.alloc ?_ ?_ _) | (with_reducible refine Below.drew ?_) | (with_reducible refine Below.setCell ?_ ?_ _) | go_size))⟩
  have e6 : (op == 6) = false := by simpa using h6
  by_cases h7 : op = 7
  · subst h7
    have hres := Lib.hid (show leafT s ⟨7, t, n, m, []⟩ = 0 by unfold leafT; simp)
    clear hKt h1 h3 h4 h5
    go_enter Tryd.func38, Tryd.ntmps38
    go_wp2_with fail
    refine (hK0 _).mono ?_; rintro r w2 ⟨rfl, rfl⟩
    go_wp2_with fail
    go_ret
    exact ⟨by rw [hres.out]; rfl, by (repeat' (first | (with_reducible exact Below.refl _ _) | (with_reducible assumption) | (with_reducible refine below_drewN ?_ _) | (with_reducible refine Below.alloc ?_ ?_ _) | (with_reducible refine Below.drew ?_) | (with_reducible refine Below.setCell ?_ ?_ _) | go_size))⟩
  have e7 : (op == 7) = false := by simpa using h7
  by_cases h8 : op = 8
  · subst h8
    have hres := Lib.hid (show leafT s ⟨8, t, n, m, []⟩ = 0 by unfold leafT; simp)
    clear hKt h1 h3 h4 h5
    go_enter Tryd.func38, Tryd.ntmps38
    go_wp2_with fail
    refine (hK0 _).mono ?_; rintro r w2 ⟨rfl, rfl⟩
    go_wp2_with fail
    go_ret
    exact ⟨by rw [hres.out]; rfl, by (repeat' (first | (with_reducible exact Below.refl _ _) | (with_reducible assumption) | (with_reducible refine below_drewN ?_ _) | (with_reducible refine Below.alloc ?_ ?_ _) | (with_reducible refine Below.drew ?_) | (with_reducible refine Below.setCell ?_ ?_ _) | go_size))⟩
  have e8 : (op == 8) = false := by simpa using h8
  have e2 : (op == 2) = false := by simpa using h2
  have hres := Lib.hid (show leafT s ⟨op, t, n, m, []⟩ = 0 by unfold leafT; simp [h1, h2, h3, h5])
  clear hKt h1 h2 h3 h4 h5 h6 h7 h8
  go_enter Tryd.func38, Tryd.ntmps38
  go_wp2_with fail
  refine (hK0 _).mono ?_; rintro r w2 ⟨rfl, rfl⟩
  go_wp2_with fail
  go_ret
  exact ⟨by rw [hres.out]; rfl, by (repeat' (first | (with_reducible exact Below.refl _ _) | (with_reducible assumption) | (with_reducible refine below_drewN ?_ _) | (with_reducible refine Below.alloc ?_ ?_ _) | (with_reducible refine Below.drew ?_) | (with_reducible refine Below.setCell ?_ ?_ _) | go_size))⟩
end Go.Proofs.YtknbomikiakpmaaDoor
/- Layer 26: the document's Type, of an expression with more than two within it. -/
namespace Go.Proofs.YtknbomikiakpmaaDoor
open Go.RowKit
set_option linter.unusedSimpArgs false
set_option linter.unusedVariables false
/-- what the call for one within it gives -/
def Typed (w : World) (a b c d : Value) (s : Sc) (x : Ex) : Prop := ∀ W u, Below w.heap.size w W → ExV W u x → Calls Tryd.prog 38 #[.agg #[a, b, c, d], u] W fun r w' => r = .returned (.int .i64 (typeE s x)) ∧ Below W.heap.size W w'
set_option maxRecDepth 100000 in
set_option maxHeartbeats 8000000 in
theorem ref26_TypeM (a b c d : Value) (s : Sc) (op t n m : Int) (x y z : Ex) (l : List Ex) (v : Value) (w : World) (hs : ScAt w a b d s) (hc0 : ∃ p q k, c = .slice p q k) (hv : ExV w v ⟨op, t, n, m, x :: y :: z :: l⟩) (hx : Typed w a b c d s x) (hy : Typed w a b c d s y) :
    Calls Tryd.prog 38 #[.agg #[a, b, c, d], v] w fun r w' => r = .returned (.int .i64 0) ∧ Below w.heap.size w w' := by
  obtain ⟨sl, rfl, _, hrl⟩ := hv
  obtain ⟨sa, ca, rfl⟩ := row_get hs.vs
  obtain ⟨sb, cb, rfl⟩ := row_get hs.bs
  obtain ⟨sd, cd, rfl⟩ := row_get hs.ss
  obtain ⟨p, q, k, rfl⟩ := hc0
  have hlen := hrl.len
  obtain ⟨al, cl, rfl⟩ := row_get hrl
  have hcap := cap_row hrl (k := 0) (by simp)
  obtain ⟨b, off, s1, sn1, sc1, rfl, hbw, _, _, d0, d1, d2, d3, d4, hxv⟩ := ex_at hrl (k := 0) (x := x) rfl
  obtain ⟨b', off', s2, sn2, sc2, hbb, _, _, _, f0, f1, f2, f3, f4, hyv⟩ := ex_at hrl (k := 1) (x := y) rfl
  obtain ⟨rfl, rfl⟩ : b' = b ∧ off' = off := by simp at hbb; exact ⟨hbb.1.symm, hbb.2.symm⟩
  simp only [Nat.zero_mul, Nat.one_mul, Nat.add_zero] at d0 d1 d2 d3 d4 f0 f1 f2 f3 f4
  obtain ⟨N, hN⟩ : ∃ N, (x :: y :: z :: l).length = N := ⟨_, rfl⟩
  have hN3 : 3 ≤ N := by rw [← hN]; simp
  simp only at hlen hcap ⊢
  rw [hN] at hlen hcap ⊢
  have q0 : ((0 : Int) < (N : Int)) = True := eq_true (by omega)
  have q1 : ((1 : Int) < (N : Int)) = True := eq_true (by omega)
  have q2 : ((2 : Int) < (N : Int)) = True := eq_true (by omega)
  have r0 : (0 < N) = True := eq_true (by omega)
  have r1 : (1 < N) = True := eq_true (by omega)
  have r2 : (2 < N) = True := eq_true (by omega)
  obtain ⟨W0, hW0⟩ : ∃ W0, W0 = (w.alloc (.cells #[.slice sa s.vars.length ca, .slice sb s.blocks.length cb, .slice p q k, .slice sd s.slots.length cd] 43)).alloc (.cells #[.int .i64 op, .int .i64 t, .int .i64 n, .int .i64 m, .slice (some ⟨b', off', none⟩) N cl] 37) := ⟨_, rfl⟩
  have ho0 : W0.heap[w.heap.size]? = some (.cells #[.slice sa s.vars.length ca, .slice sb s.blocks.length cb, .slice p q k, .slice sd s.slots.length cd] 43) := by rw [hW0, get_past (by simp)]; exact get_last rfl
  have ho1 : W0.heap[w.heap.size + 1]? = some (.cells #[.int .i64 op, .int .i64 t, .int .i64 n, .int .i64 m, .slice (some ⟨b', off', none⟩) N cl] 37) := by rw [hW0]; exact get_last (by simp)
  have hbW : Below w.heap.size w W0 := by rw [hW0]; exact by (repeat' (first | (with_reducible exact Below.refl _ _) | (with_reducible assumption) | (with_reducible refine below_drewN ?_ _) | (with_reducible refine Below.alloc ?_ ?_ _) | (with_reducible refine Below.drew ?_) | (with_reducible refine Below.setCell ?_ ?_ _) | go_size))
  have HW0 := Lib.hid hW0
  have HB0 := Lib.hid hbW
  have z0 := heap_lt ho0
  have z1 := heap_lt ho1
  have zb : b' < W0.heap.size := Nat.lt_of_lt_of_le hbw hbW.size
  have s0 : W0.cell? ⟨w.heap.size, 0, none⟩ = some (.slice sa s.vars.length ca) := obj_cell ho0 (i := 0) rfl
  have s1 : W0.cell? ⟨w.heap.size, 1, none⟩ = some (.slice sb s.blocks.length cb) := obj_cell ho0 (i := 1) rfl
  have s2 : W0.cell? ⟨w.heap.size, 2, none⟩ = some (.slice p q k) := obj_cell ho0 (i := 2) rfl
  have s3 : W0.cell? ⟨w.heap.size, 3, none⟩ = some (.slice sd s.slots.length cd) := obj_cell ho0 (i := 3) rfl
  have g4 : W0.cell? ⟨w.heap.size + 1, 4, none⟩ = some (.slice (some ⟨b', off', none⟩) N cl) := obj_cell ho1 (i := 4) rfl
  have d0 := (hbW.cell (p := ⟨b', off', none⟩) hbw).trans d0
  have d1 := (hbW.cell (p := ⟨b', off' + 1, none⟩) hbw).trans d1
  have d2 := (hbW.cell (p := ⟨b', off' + 2, none⟩) hbw).trans d2
  have d3 := (hbW.cell (p := ⟨b', off' + 3, none⟩) hbw).trans d3
  have d4 := (hbW.cell (p := ⟨b', off' + 4, none⟩) hbw).trans d4
  have f0 := (hbW.cell (p := ⟨b', off' + 5, none⟩) hbw).trans f0
  have f1 := (hbW.cell (p := ⟨b', off' + 5 + 1, none⟩) hbw).trans f1
  have f2 := (hbW.cell (p := ⟨b', off' + 5 + 2, none⟩) hbw).trans f2
  have f3 := (hbW.cell (p := ⟨b', off' + 5 + 3, none⟩) hbw).trans f3
  have f4 := (hbW.cell (p := ⟨b', off' + 5 + 4, none⟩) hbw).trans f4
  have HXc := Lib.hid (fun W (_ : True) (h : Below W0.heap.size W0 W) => hx W _ (hbW.trans (h.mono hbW.size)) (hxv.below (hbW.trans (h.mono hbW.size))))
  have HYc := Lib.hid (fun W (_ : True) (h : Below W0.heap.size W0 W) => hy W _ (hbW.trans (h.mono hbW.size)) (hyv.below (hbW.trans (h.mono hbW.size))))
  generalize typeE s x = T at *
  generalize typeE s y = U at *
  clear hW0 hbW ho0 ho1 hx hy hxv hyv hs hrl hN hbb
  go_enter Tryd.func38, Tryd.ntmps38
  go_upto_region 5 with fail
  rw [← HW0.out]
  have qq0 := fun wt (h : Below W0.heap.size W0 wt) => cellB h s0 z0
  have qq1 := fun wt (h : Below W0.heap.size W0 wt) => cellB h s1 z0
  have qq2 := fun wt (h : Below W0.heap.size W0 wt) => cellB h s2 z0
  have qq3 := fun wt (h : Below W0.heap.size W0 wt) => cellB h s3 z0
  have qq4 := fun wt (h : Below W0.heap.size W0 wt) => cellB h g4 z1
  have qq5 := fun wt (h : Below W0.heap.size W0 wt) => cellB h d0 zb
  have qq6 := fun wt (h : Below W0.heap.size W0 wt) => cellB h d1 zb
  have qq7 := fun wt (h : Below W0.heap.size W0 wt) => cellB h d2 zb
  have qq8 := fun wt (h : Below W0.heap.size W0 wt) => cellB h d3 zb
  have qq9 := fun wt (h : Below W0.heap.size W0 wt) => cellB h d4 zb
  refine wp_region_held_drew (S := (fun w' => Below W0.heap.size W0 w')) (by kernel_rfl) ?_ (fun hHeld => ?_)
  · (try dsimp only); first | assumption | exact Below.alloc hHeld hHeld.size _ | exact (Below.refl _ _).drew | exact Below.drew (Below.refl _ _) | exact Below_drewN _ _ _ | exact Below.refl _ _
  refine tk 0 (v := ?_) (hy := ?_) (h := ?_); rotate_left
  · intro wt hSw; (try dsimp only at hSw); go_simp <;> with_reducible rfl
  try simp only [pu, pa, pz, ps]
  refine tk 1 (v := ?_) (hy := ?_) (h := ?_); rotate_left
  · intro _ _; go_simp <;> with_reducible rfl
  try simp only [pu, pa, pz, ps]
  refine tk 2 (v := ?_) (hy := ?_) (h := ?_); rotate_left
  · intro wt hSw; (try dsimp only at hSw); go_simp <;> with_reducible rfl
  try simp only [pu, pa, pz, ps]
  refine tk 3 (v := ?_) (hy := ?_) (h := ?_); rotate_left
  · intro _ _; go_simp <;> with_reducible rfl
  try simp only [pu, pa, pz, ps]
  refine tk 4 (v := ?_) (hy := ?_) (h := ?_); rotate_left
  · intro wt hSw; (try dsimp only at hSw); go_simp <;> with_reducible rfl
  try simp only [pu, pa, pz, ps]
  refine wpAnyH_ready (rs := [5]) (by kernel_rfl) (by simp) ?_
  refine AllReadyH.cons (o := ⟨_, _, _, _, _, _⟩) rfl (fun K hK => ?_) AllReadyH.nil
  go_simp
  refine (HXc.out _ trivial hHeld).mono ?_; rintro r w2 ⟨rfl, hb⟩; have hHeld := hHeld.trans (hb.mono hHeld.size)
  go_wp2_with fail
  refine hK.out _ _ ?_ (fun hHeld => ?_)
  · (try dsimp only); first | assumption | exact Below.alloc hHeld hHeld.size _ | exact (Below.refl _ _).drew | exact Below.drew (Below.refl _ _) | exact Below_drewN _ _ _ | exact Below.refl _ _
  clear hK K
  try simp only [pu, pa, pz, ps]
  refine tk 6 (v := ?_) (hy := ?_) (h := ?_); rotate_left
  · intro _ _; go_simp <;> with_reducible rfl
  try simp only [pu, pa, pz, ps]
  refine wpAnyH_done (by kernel_rfl) ?_ _
  have g4 := g4
  go_upto_region 7 with fail
  have qq0 := fun wt (h : Below W0.heap.size W0 wt) => cellB h s0 z0
  have qq1 := fun wt (h : Below W0.heap.size W0 wt) => cellB h s1 z0
  have qq2 := fun wt (h : Below W0.heap.size W0 wt) => cellB h s2 z0
  have qq3 := fun wt (h : Below W0.heap.size W0 wt) => cellB h s3 z0
  have qq4 := fun wt (h : Below W0.heap.size W0 wt) => cellB h g4 z1
  have qq5 := fun wt (h : Below W0.heap.size W0 wt) => cellB h f0 zb
  have qq6 := fun wt (h : Below W0.heap.size W0 wt) => cellB h f1 zb
  have qq7 := fun wt (h : Below W0.heap.size W0 wt) => cellB h f2 zb
  have qq8 := fun wt (h : Below W0.heap.size W0 wt) => cellB h f3 zb
  have qq9 := fun wt (h : Below W0.heap.size W0 wt) => cellB h f4 zb
  refine wp_region_held_drew (S := (fun w' => Below W0.heap.size W0 w')) (by kernel_rfl) ?_ (fun hHeld => ?_)
  · (try dsimp only); first | exact Below.drew hHeld | assumption
  refine tk 0 (v := ?_) (hy := ?_) (h := ?_); rotate_left
  · intro wt hSw; (try dsimp only at hSw); go_simp <;> with_reducible rfl
  try simp only [pu, pa, pz, ps]
  refine tk 1 (v := ?_) (hy := ?_) (h := ?_); rotate_left
  · intro _ _; go_simp <;> with_reducible rfl
  try simp only [pu, pa, pz, ps]
  refine tk 2 (v := ?_) (hy := ?_) (h := ?_); rotate_left
  · intro wt hSw; (try dsimp only at hSw); go_simp <;> with_reducible rfl
  try simp only [pu, pa, pz, ps]
  refine tk 3 (v := ?_) (hy := ?_) (h := ?_); rotate_left
  · intro _ _; go_simp <;> with_reducible rfl
  try simp only [pu, pa, pz, ps]
  refine tk 4 (v := ?_) (hy := ?_) (h := ?_); rotate_left
  · intro wt hSw; (try dsimp only at hSw); go_simp <;> with_reducible rfl
  try simp only [pu, pa, pz, ps]
  refine wpAnyH_ready (rs := [5]) (by kernel_rfl) (by simp) ?_
  refine AllReadyH.cons (o := ⟨_, _, _, _, _, _⟩) rfl (fun K hK => ?_) AllReadyH.nil
  go_simp
  refine (HYc.out _ trivial hHeld).mono ?_; rintro r w2 ⟨rfl, hb⟩; have hHeld := hHeld.trans (hb.mono hHeld.size)
  go_wp2_with fail
  refine hK.out _ _ ?_ (fun hHeld => ?_)
  · (try dsimp only); first | exact Below.drew hHeld | assumption
  clear hK K
  try simp only [pu, pa, pz, ps]
  refine tk 6 (v := ?_) (hy := ?_) (h := ?_); rotate_left
  · intro _ _; go_simp <;> with_reducible rfl
  try simp only [pu, pa, pz, ps]
  refine wpAnyH_done (by kernel_rfl) ?_ _
  have HHw := Lib.hid (HB0.out.trans (hHeld.mono HB0.out.size))
  clear hHeld
  go_wp2_with fail
  go_ret
  exact ⟨rfl, HHw.out⟩
end Go.Proofs.YtknbomikiakpmaaDoor
/- Layer 26: the document's Type, of an expression with one within it (op neither 2 nor 4). -/
namespace Go.Proofs.YtknbomikiakpmaaDoor
open Go.RowKit
set_option linter.unusedSimpArgs false
set_option linter.unusedVariables false
set_option maxRecDepth 100000 in
set_option maxHeartbeats 8000000 in
theorem ref26_Type1 (a b c d : Value) (s : Sc) (op t n m : Int) (x : Ex) (v : Value) (w : World) (hs : ScAt w a b d s) (hc0 : ∃ p q k, c = .slice p q k) (hv : ExV w v ⟨op, t, n, m, [x]⟩) (hx : Typed w a b c d s x) (o2 : ¬ op = 2) (o4 : ¬ op = 4) :
    Calls Tryd.prog 38 #[.agg #[a, b, c, d], v] w fun r w' => r = .returned (.int .i64 (if typeE s x = 0 then 0 else singleT s ⟨op, t, n, m, [x]⟩ (typeE s x))) ∧ Below w.heap.size w w' := by
  obtain ⟨sl, rfl, _, hrl⟩ := hv
  obtain ⟨sa, ca, rfl⟩ := row_get hs.vs
  obtain ⟨sb, cb, rfl⟩ := row_get hs.bs
  obtain ⟨sd, cd, rfl⟩ := row_get hs.ss
  obtain ⟨p, q, k, rfl⟩ := hc0
  have hlen := hrl.len
  obtain ⟨al, cl, rfl⟩ := row_get hrl
  have hcap := cap_row hrl (k := 0) (by simp)
  obtain ⟨b, off, s1, sn1, sc1, rfl, hbw, _, _, d0, d1, d2, d3, d4, hxv⟩ := ex_at hrl (k := 0) (x := x) rfl
  simp only [Nat.zero_mul, Nat.one_mul, Nat.add_zero] at d0 d1 d2 d3 d4
  simp only [List.length_cons, List.length_nil, Nat.zero_add] at hlen hcap ⊢
  have q0 : ((0 : Int) < (1 : Int)) = True := by decide
  have r0 : (0 < 1) = True := by decide
  obtain ⟨W0, hW0⟩ : ∃ W0, W0 = (w.alloc (.cells #[.slice sa s.vars.length ca, .slice sb s.blocks.length cb, .slice p q k, .slice sd s.slots.length cd] 43)).alloc (.cells #[.int .i64 op, .int .i64 t, .int .i64 n, .int .i64 m, .slice (some ⟨b, off, none⟩) 1 cl] 37) := ⟨_, rfl⟩
  have ho0 : W0.heap[w.heap.size]? = some (.cells #[.slice sa s.vars.length ca, .slice sb s.blocks.length cb, .slice p q k, .slice sd s.slots.length cd] 43) := by rw [hW0, get_past (by simp)]; exact get_last rfl
  have ho1 : W0.heap[w.heap.size + 1]? = some (.cells #[.int .i64 op, .int .i64 t, .int .i64 n, .int .i64 m, .slice (some ⟨b, off, none⟩) 1 cl] 37) := by rw [hW0]; exact get_last (by simp)
  have hbW : Below w.heap.size w W0 := by rw [hW0]; exact by (repeat' (first | (with_reducible exact Below.refl _ _) | (with_reducible assumption) | (with_reducible refine below_drewN ?_ _) | (with_reducible refine Below.alloc ?_ ?_ _) | (with_reducible refine Below.drew ?_) | (with_reducible refine Below.setCell ?_ ?_ _) | go_size))
  have HW0 := Lib.hid hW0
  have HB0 := Lib.hid hbW
  have z0 := heap_lt ho0
  have z1 := heap_lt ho1
  have zb : b < W0.heap.size := Nat.lt_of_lt_of_le hbw hbW.size
  have s0 : W0.cell? ⟨w.heap.size, 0, none⟩ = some (.slice sa s.vars.length ca) := obj_cell ho0 (i := 0) rfl
  have s1 : W0.cell? ⟨w.heap.size, 1, none⟩ = some (.slice sb s.blocks.length cb) := obj_cell ho0 (i := 1) rfl
  have s2 : W0.cell? ⟨w.heap.size, 2, none⟩ = some (.slice p q k) := obj_cell ho0 (i := 2) rfl
  have s3 : W0.cell? ⟨w.heap.size, 3, none⟩ = some (.slice sd s.slots.length cd) := obj_cell ho0 (i := 3) rfl
  have g4 : W0.cell? ⟨w.heap.size + 1, 4, none⟩ = some (.slice (some ⟨b, off, none⟩) 1 cl) := obj_cell ho1 (i := 4) rfl
  have g0 : W0.cell? ⟨w.heap.size + 1, 0, none⟩ = some (.int .i64 op) := obj_cell ho1 (i := 0) rfl
  have g1 : W0.cell? ⟨w.heap.size + 1, 1, none⟩ = some (.int .i64 t) := obj_cell ho1 (i := 1) rfl
  have g2 : W0.cell? ⟨w.heap.size + 1, 2, none⟩ = some (.int .i64 n) := obj_cell ho1 (i := 2) rfl
  have g3 : W0.cell? ⟨w.heap.size + 1, 3, none⟩ = some (.int .i64 m) := obj_cell ho1 (i := 3) rfl
  have d0 := (hbW.cell (p := ⟨b, off, none⟩) hbw).trans d0
  have d1 := (hbW.cell (p := ⟨b, off + 1, none⟩) hbw).trans d1
  have d2 := (hbW.cell (p := ⟨b, off + 2, none⟩) hbw).trans d2
  have d3 := (hbW.cell (p := ⟨b, off + 3, none⟩) hbw).trans d3
  have d4 := (hbW.cell (p := ⟨b, off + 4, none⟩) hbw).trans d4
  have HXc := Lib.hid (fun W (_ : True) (h : Below W0.heap.size W0 W) => hx W _ (hbW.trans (h.mono hbW.size)) (hxv.below (hbW.trans (h.mono hbW.size))))
  generalize typeE s x = T at *
  clear hW0 hbW ho0 ho1 hx hxv hs hrl
  generalize hZ : (if T = 0 then 0 else singleT s ⟨op, t, n, m, [x]⟩ T) = Z
  have HZ := Lib.hid hZ
  clear hZ
  have hK0 := ref01_Right 0
  rw [show kRight 0 = false from rfl] at hK0
  by_cases hT : T = 0
  · subst hT
    have hres := Lib.hid (show Z = 0 by rw [← HZ.out]; unfold singleT; simp [show True from trivial])
    go_enter Tryd.func38, Tryd.ntmps38
    go_upto_region 5 with fail
    rw [← HW0.out]
    have qq0 := fun wt (h : Below W0.heap.size W0 wt) => cellB h s0 z0
    have qq1 := fun wt (h : Below W0.heap.size W0 wt) => cellB h s1 z0
    have qq2 := fun wt (h : Below W0.heap.size W0 wt) => cellB h s2 z0
    have qq3 := fun wt (h : Below W0.heap.size W0 wt) => cellB h s3 z0
    have qq4 := fun wt (h : Below W0.heap.size W0 wt) => cellB h g4 z1
    have qq5 := fun wt (h : Below W0.heap.size W0 wt) => cellB h d0 zb
    have qq6 := fun wt (h : Below W0.heap.size W0 wt) => cellB h d1 zb
    have qq7 := fun wt (h : Below W0.heap.size W0 wt) => cellB h d2 zb
    have qq8 := fun wt (h : Below W0.heap.size W0 wt) => cellB h d3 zb
    have qq9 := fun wt (h : Below W0.heap.size W0 wt) => cellB h d4 zb
    refine wp_region_held_drew (S := (fun w' => Below W0.heap.size W0 w')) (by kernel_rfl) ?_ (fun hHeld => ?_)
    · (try dsimp only); first | assumption | exact Below.alloc hHeld hHeld.size _ | exact (Below.refl _ _).drew | exact Below.drew (Below.refl _ _) | exact Below_drewN _ _ _ | exact Below.refl _ _
    refine tk 0 (v := ?_) (hy := ?_) (h := ?_); rotate_left
    · intro wt hSw; (try dsimp only at hSw); go_simp <;> with_reducible rfl
    try simp only [pu, pa, pz, ps]
    refine tk 1 (v := ?_) (hy := ?_) (h := ?_); rotate_left
    · intro _ _; go_simp <;> with_reducible rfl
    try simp only [pu, pa, pz, ps]
    refine tk 2 (v := ?_) (hy := ?_) (h := ?_); rotate_left
    · intro wt hSw; (try dsimp only at hSw); go_simp <;> with_reducible rfl
    try simp only [pu, pa, pz, ps]
    refine tk 3 (v := ?_) (hy := ?_) (h := ?_); rotate_left
    · intro _ _; go_simp <;> with_reducible rfl
    try simp only [pu, pa, pz, ps]
    refine tk 4 (v := ?_) (hy := ?_) (h := ?_); rotate_left
    · intro wt hSw; (try dsimp only at hSw); go_simp <;> with_reducible rfl
    try simp only [pu, pa, pz, ps]
    refine wpAnyH_ready (rs := [5]) (by kernel_rfl) (by simp) ?_
    refine AllReadyH.cons (o := ⟨_, _, _, _, _, _⟩) rfl (fun K hK => ?_) AllReadyH.nil
    go_simp
    refine (HXc.out _ trivial hHeld).mono ?_; rintro r w2 ⟨rfl, hb⟩; have hHeld := hHeld.trans (hb.mono hHeld.size)
    go_wp2_with fail
    refine hK.out _ _ ?_ (fun hHeld => ?_)
    · (try dsimp only); first | assumption | exact Below.alloc hHeld hHeld.size _ | exact (Below.refl _ _).drew | exact Below.drew (Below.refl _ _) | exact Below_drewN _ _ _ | exact Below.refl _ _
    clear hK K
    try simp only [pu, pa, pz, ps]
    refine tk 6 (v := ?_) (hy := ?_) (h := ?_); rotate_left
    · intro _ _; go_simp <;> with_reducible rfl
    try simp only [pu, pa, pz, ps]
    refine wpAnyH_done (by kernel_rfl) ?_ _
    have HHw := Lib.hid (HB0.out.trans (hHeld.mono HB0.out.size))
    have g0 := cellB hHeld g0 z1
    have g1 := cellB hHeld g1 z1
    have g2 := cellB hHeld g2 z1
    have g3 := cellB hHeld g3 z1
    have g4 := cellB hHeld g4 z1
    clear hHeld s0 s1 s2 s3 d0 d1 d2 d3 d4
    go_wp2_with fail
    go_ret
    exact ⟨by rw [hres.out]; rfl, HHw.out⟩
  have eT : (T == 0) = false := by simpa using hT
  by_cases h8 : op = 8
  · subst h8
    have hKt := ref01_Right t
    by_cases hn : n = 0
    case neg =>
      have en : (n == 0) = false := by simpa using hn
      have hres := Lib.hid (show Z = 0 by rw [← HZ.out]; unfold singleT; simp [hT, hn])
      clear hT hn hKt
      go_enter Tryd.func38, Tryd.ntmps38
      go_upto_region 5 with fail
      rw [← HW0.out]
      have qq0 := fun wt (h : Below W0.heap.size W0 wt) => cellB h s0 z0
      have qq1 := fun wt (h : Below W0.heap.size W0 wt) => cellB h s1 z0
      have qq2 := fun wt (h : Below W0.heap.size W0 wt) => cellB h s2 z0
      have qq3 := fun wt (h : Below W0.heap.size W0 wt) => cellB h s3 z0
      have qq4 := fun wt (h : Below W0.heap.size W0 wt) => cellB h g4 z1
      have qq5 := fun wt (h : Below W0.heap.size W0 wt) => cellB h d0 zb
      have qq6 := fun wt (h : Below W0.heap.size W0 wt) => cellB h d1 zb
      have qq7 := fun wt (h : Below W0.heap.size W0 wt) => cellB h d2 zb
      have qq8 := fun wt (h : Below W0.heap.size W0 wt) => cellB h d3 zb
      have qq9 := fun wt (h : Below W0.heap.size W0 wt) => cellB h d4 zb
      refine wp_region_held_drew (S := (fun w' => Below W0.heap.size W0 w')) (by kernel_rfl) ?_ (fun hHeld => ?_)
      · (try dsimp only); first | assumption | exact Below.alloc hHeld hHeld.size _ | exact (Below.refl _ _).drew | exact Below.drew (Below.refl _ _) | exact Below_drewN _ _ _ | exact Below.refl _ _
      refine tk 0 (v := ?_) (hy := ?_) (h := ?_); rotate_left
      · intro wt hSw; (try dsimp only at hSw); go_simp <;> with_reducible rfl
      try simp only [pu, pa, pz, ps]
      refine tk 1 (v := ?_) (hy := ?_) (h := ?_); rotate_left
      · intro _ _; go_simp <;> with_reducible rfl
      try simp only [pu, pa, pz, ps]
      refine tk 2 (v := ?_) (hy := ?_) (h := ?_); rotate_left
      · intro wt hSw; (try dsimp only at hSw); go_simp <;> with_reducible rfl
      try simp only [pu, pa, pz, ps]
      refine tk 3 (v := ?_) (hy := ?_) (h := ?_); rotate_left
      · intro _ _; go_simp <;> with_reducible rfl
      try simp only [pu, pa, pz, ps]
      refine tk 4 (v := ?_) (hy := ?_) (h := ?_); rotate_left
      · intro wt hSw; (try dsimp only at hSw); go_simp <;> with_reducible rfl
      try simp only [pu, pa, pz, ps]
      refine wpAnyH_ready (rs := [5]) (by kernel_rfl) (by simp) ?_
      refine AllReadyH.cons (o := ⟨_, _, _, _, _, _⟩) rfl (fun K hK => ?_) AllReadyH.nil
      go_simp
      refine (HXc.out _ trivial hHeld).mono ?_; rintro r w2 ⟨rfl, hb⟩; have hHeld := hHeld.trans (hb.mono hHeld.size)
      go_wp2_with fail
      refine hK.out _ _ ?_ (fun hHeld => ?_)
      · (try dsimp only); first | assumption | exact Below.alloc hHeld hHeld.size _ | exact (Below.refl _ _).drew | exact Below.drew (Below.refl _ _) | exact Below_drewN _ _ _ | exact Below.refl _ _
      clear hK K
      try simp only [pu, pa, pz, ps]
      refine tk 6 (v := ?_) (hy := ?_) (h := ?_); rotate_left
      · intro _ _; go_simp <;> with_reducible rfl
      try simp only [pu, pa, pz, ps]
      refine wpAnyH_done (by kernel_rfl) ?_ _
      have HHw := Lib.hid (HB0.out.trans (hHeld.mono HB0.out.size))
      have g0 := cellB hHeld g0 z1
      have g1 := cellB hHeld g1 z1
      have g2 := cellB hHeld g2 z1
      have g3 := cellB hHeld g3 z1
      have g4 := cellB hHeld g4 z1
      clear hHeld s0 s1 s2 s3 d0 d1 d2 d3 d4
      go_wp2_with fail
      refine (hK0 _).mono ?_; rintro r w2 ⟨rfl, rfl⟩
      go_wp2_with fail
      go_ret
      exact ⟨by rw [hres.out]; rfl, HHw.out⟩
    subst hn
    by_cases hm : m = 0
    case neg =>
      have em : (m == 0) = false := by simpa using hm
      have hres := Lib.hid (show Z = 0 by rw [← HZ.out]; unfold singleT; simp [hT, hm])
      clear hT hm hKt
      go_enter Tryd.func38, Tryd.ntmps38
      go_upto_region 5 with fail
      rw [← HW0.out]
      have qq0 := fun wt (h : Below W0.heap.size W0 wt) => cellB h s0 z0
      have qq1 := fun wt (h : Below W0.heap.size W0 wt) => cellB h s1 z0
      have qq2 := fun wt (h : Below W0.heap.size W0 wt) => cellB h s2 z0
      have qq3 := fun wt (h : Below W0.heap.size W0 wt) => cellB h s3 z0
      have qq4 := fun wt (h : Below W0.heap.size W0 wt) => cellB h g4 z1
      have qq5 := fun wt (h : Below W0.heap.size W0 wt) => cellB h d0 zb
      have qq6 := fun wt (h : Below W0.heap.size W0 wt) => cellB h d1 zb
      have qq7 := fun wt (h : Below W0.heap.size W0 wt) => cellB h d2 zb
      have qq8 := fun wt (h : Below W0.heap.size W0 wt) => cellB h d3 zb
      have qq9 := fun wt (h : Below W0.heap.size W0 wt) => cellB h d4 zb
      refine wp_region_held_drew (S := (fun w' => Below W0.heap.size W0 w')) (by kernel_rfl) ?_ (fun hHeld => ?_)
      · (try dsimp only); first | assumption | exact Below.alloc hHeld hHeld.size _ | exact (Below.refl _ _).drew | exact Below.drew (Below.refl _ _) | exact Below_drewN _ _ _ | exact Below.refl _ _
      refine tk 0 (v := ?_) (hy := ?_) (h := ?_); rotate_left
      · intro wt hSw; (try dsimp only at hSw); go_simp <;> with_reducible rfl
      try simp only [pu, pa, pz, ps]
      refine tk 1 (v := ?_) (hy := ?_) (h := ?_); rotate_left
      · intro _ _; go_simp <;> with_reducible rfl
      try simp only [pu, pa, pz, ps]
      refine tk 2 (v := ?_) (hy := ?_) (h := ?_); rotate_left
      · intro wt hSw; (try dsimp only at hSw); go_simp <;> with_reducible rfl
      try simp only [pu, pa, pz, ps]
      refine tk 3 (v := ?_) (hy := ?_) (h := ?_); rotate_left
      · intro _ _; go_simp <;> with_reducible rfl
      try simp only [pu, pa, pz, ps]
      refine tk 4 (v := ?_) (hy := ?_) (h := ?_); rotate_left
      · intro wt hSw; (try dsimp only at hSw); go_simp <;> with_reducible rfl
      try simp only [pu, pa, pz, ps]
      refine wpAnyH_ready (rs := [5]) (by kernel_rfl) (by simp) ?_
      refine AllReadyH.cons (o := ⟨_, _, _, _, _, _⟩) rfl (fun K hK => ?_) AllReadyH.nil
      go_simp
      refine (HXc.out _ trivial hHeld).mono ?_; rintro r w2 ⟨rfl, hb⟩; have hHeld := hHeld.trans (hb.mono hHeld.size)
      go_wp2_with fail
      refine hK.out _ _ ?_ (fun hHeld => ?_)
      · (try dsimp only); first | assumption | exact Below.alloc hHeld hHeld.size _ | exact (Below.refl _ _).drew | exact Below.drew (Below.refl _ _) | exact Below_drewN _ _ _ | exact Below.refl _ _
      clear hK K
      try simp only [pu, pa, pz, ps]
      refine tk 6 (v := ?_) (hy := ?_) (h := ?_); rotate_left
      · intro _ _; go_simp <;> with_reducible rfl
      try simp only [pu, pa, pz, ps]
      refine wpAnyH_done (by kernel_rfl) ?_ _
      have HHw := Lib.hid (HB0.out.trans (hHeld.mono HB0.out.size))
      have g0 := cellB hHeld g0 z1
      have g1 := cellB hHeld g1 z1
      have g2 := cellB hHeld g2 z1
      have g3 := cellB hHeld g3 z1
      have g4 := cellB hHeld g4 z1
      clear hHeld s0 s1 s2 s3 d0 d1 d2 d3 d4
      go_wp2_with fail
      refine (hK0 _).mono ?_; rintro r w2 ⟨rfl, rfl⟩
      go_wp2_with fail
      go_ret
      exact ⟨by rw [hres.out]; rfl, HHw.out⟩
    subst hm
    cases hk : kRight t
    · rw [hk] at hKt
      have hres := Lib.hid (show Z = 0 by rw [← HZ.out]; unfold singleT; simp [hT, hk])
      clear hT hk
      go_enter Tryd.func38, Tryd.ntmps38
      go_upto_region 5 with fail
      rw [← HW0.out]
      have qq0 := fun wt (h : Below W0.heap.size W0 wt) => cellB h s0 z0
      have qq1 := fun wt (h : Below W0.heap.size W0 wt) => cellB h s1 z0
      have qq2 := fun wt (h : Below W0.heap.size W0 wt) => cellB h s2 z0
      have qq3 := fun wt (h : Below W0.heap.size W0 wt) => cellB h s3 z0
      have qq4 := fun wt (h : Below W0.heap.size W0 wt) => cellB h g4 z1
      have qq5 := fun wt (h : Below W0.heap.size W0 wt) => cellB h d0 zb
      have qq6 := fun wt (h : Below W0.heap.size W0 wt) => cellB h d1 zb
      have qq7 := fun wt (h : Below W0.heap.size W0 wt) => cellB h d2 zb
      have qq8 := fun wt (h : Below W0.heap.size W0 wt) => cellB h d3 zb
      have qq9 := fun wt (h : Below W0.heap.size W0 wt) => cellB h d4 zb
      refine wp_region_held_drew (S := (fun w' => Below W0.heap.size W0 w')) (by kernel_rfl) ?_ (fun hHeld => ?_)
      · (try dsimp only); first | assumption | exact Below.alloc hHeld hHeld.size _ | exact (Below.refl _ _).drew | exact Below.drew (Below.refl _ _) | exact Below_drewN _ _ _ | exact Below.refl _ _
      refine tk 0 (v := ?_) (hy := ?_) (h := ?_); rotate_left
      · intro wt hSw; (try dsimp only at hSw); go_simp <;> with_reducible rfl
      try simp only [pu, pa, pz, ps]
      refine tk 1 (v := ?_) (hy := ?_) (h := ?_); rotate_left
      · intro _ _; go_simp <;> with_reducible rfl
      try simp only [pu, pa, pz, ps]
      refine tk 2 (v := ?_) (hy := ?_) (h := ?_); rotate_left
      · intro wt hSw; (try dsimp only at hSw); go_simp <;> with_reducible rfl
      try simp only [pu, pa, pz, ps]
      refine tk 3 (v := ?_) (hy := ?_) (h := ?_); rotate_left
      · intro _ _; go_simp <;> with_reducible rfl
      try simp only [pu, pa, pz, ps]
      refine tk 4 (v := ?_) (hy := ?_) (h := ?_); rotate_left
      · intro wt hSw; (try dsimp only at hSw); go_simp <;> with_reducible rfl
      try simp only [pu, pa, pz, ps]
      refine wpAnyH_ready (rs := [5]) (by kernel_rfl) (by simp) ?_
      refine AllReadyH.cons (o := ⟨_, _, _, _, _, _⟩) rfl (fun K hK => ?_) AllReadyH.nil
      go_simp
      refine (HXc.out _ trivial hHeld).mono ?_; rintro r w2 ⟨rfl, hb⟩; have hHeld := hHeld.trans (hb.mono hHeld.size)
      go_wp2_with fail
      refine hK.out _ _ ?_ (fun hHeld => ?_)
      · (try dsimp only); first | assumption | exact Below.alloc hHeld hHeld.size _ | exact (Below.refl _ _).drew | exact Below.drew (Below.refl _ _) | exact Below_drewN _ _ _ | exact Below.refl _ _
      clear hK K
      try simp only [pu, pa, pz, ps]
      refine tk 6 (v := ?_) (hy := ?_) (h := ?_); rotate_left
      · intro _ _; go_simp <;> with_reducible rfl
      try simp only [pu, pa, pz, ps]
      refine wpAnyH_done (by kernel_rfl) ?_ _
      have HHw := Lib.hid (HB0.out.trans (hHeld.mono HB0.out.size))
      have g0 := cellB hHeld g0 z1
      have g1 := cellB hHeld g1 z1
      have g2 := cellB hHeld g2 z1
      have g3 := cellB hHeld g3 z1
      have g4 := cellB hHeld g4 z1
      clear hHeld s0 s1 s2 s3 d0 d1 d2 d3 d4
      go_wp2_with fail
      refine (hKt _).mono ?_; rintro r w2 ⟨rfl, rfl⟩
      go_wp2_with fail
      go_ret
      exact ⟨by rw [hres.out]; rfl, HHw.out⟩
    · rw [hk] at hKt
      have hres := Lib.hid (show Z = t by rw [← HZ.out]; unfold singleT; simp [hT, hk])
      clear hT hk
      go_enter Tryd.func38, Tryd.ntmps38
      go_upto_region 5 with fail
      rw [← HW0.out]
      have qq0 := fun wt (h : Below W0.heap.size W0 wt) => cellB h s0 z0
      have qq1 := fun wt (h : Below W0.heap.size W0 wt) => cellB h s1 z0
      have qq2 := fun wt (h : Below W0.heap.size W0 wt) => cellB h s2 z0
      have qq3 := fun wt (h : Below W0.heap.size W0 wt) => cellB h s3 z0
      have qq4 := fun wt (h : Below W0.heap.size W0 wt) => cellB h g4 z1
      have qq5 := fun wt (h : Below W0.heap.size W0 wt) => cellB h d0 zb
      have qq6 := fun wt (h : Below W0.heap.size W0 wt) => cellB h d1 zb
      have qq7 := fun wt (h : Below W0.heap.size W0 wt) => cellB h d2 zb
      have qq8 := fun wt (h : Below W0.heap.size W0 wt) => cellB h d3 zb
      have qq9 := fun wt (h : Below W0.heap.size W0 wt) => cellB h d4 zb
      refine wp_region_held_drew (S := (fun w' => Below W0.heap.size W0 w')) (by kernel_rfl) ?_ (fun hHeld => ?_)
      · (try dsimp only); first | assumption | exact Below.alloc hHeld hHeld.size _ | exact (Below.refl _ _).drew | exact Below.drew (Below.refl _ _) | exact Below_drewN _ _ _ | exact Below.refl _ _
      refine tk 0 (v := ?_) (hy := ?_) (h := ?_); rotate_left
      · intro wt hSw; (try dsimp only at hSw); go_simp <;> with_reducible rfl
      try simp only [pu, pa, pz, ps]
      refine tk 1 (v := ?_) (hy := ?_) (h := ?_); rotate_left
      · intro _ _; go_simp <;> with_reducible rfl
      try simp only [pu, pa, pz, ps]
      refine tk 2 (v := ?_) (hy := ?_) (h := ?_); rotate_left
      · intro wt hSw; (try dsimp only at hSw); go_simp <;> with_reducible rfl
      try simp only [pu, pa, pz, ps]
      refine tk 3 (v := ?_) (hy := ?_) (h := ?_); rotate_left
      · intro _ _; go_simp <;> with_reducible rfl
      try simp only [pu, pa, pz, ps]
      refine tk 4 (v := ?_) (hy := ?_) (h := ?_); rotate_left
      · intro wt hSw; (try dsimp only at hSw); go_simp <;> with_reducible rfl
      try simp only [pu, pa, pz, ps]
      refine wpAnyH_ready (rs := [5]) (by kernel_rfl) (by simp) ?_
      refine AllReadyH.cons (o := ⟨_, _, _, _, _, _⟩) rfl (fun K hK => ?_) AllReadyH.nil
      go_simp
      refine (HXc.out _ trivial hHeld).mono ?_; rintro r w2 ⟨rfl, hb⟩; have hHeld := hHeld.trans (hb.mono hHeld.size)
      go_wp2_with fail
      refine hK.out _ _ ?_ (fun hHeld => ?_)
      · (try dsimp only); first | assumption | exact Below.alloc hHeld hHeld.size _ | exact (Below.refl _ _).drew | exact Below.drew (Below.refl _ _) | exact Below_drewN _ _ _ | exact Below.refl _ _
      clear hK K
      try simp only [pu, pa, pz, ps]
      refine tk 6 (v := ?_) (hy := ?_) (h := ?_); rotate_left
      · intro _ _; go_simp <;> with_reducible rfl
      try simp only [pu, pa, pz, ps]
      refine wpAnyH_done (by kernel_rfl) ?_ _
      have HHw := Lib.hid (HB0.out.trans (hHeld.mono HB0.out.size))
      have g0 := cellB hHeld g0 z1
      have g1 := cellB hHeld g1 z1
      have g2 := cellB hHeld g2 z1
      have g3 := cellB hHeld g3 z1
      have g4 := cellB hHeld g4 z1
      clear hHeld s0 s1 s2 s3 d0 d1 d2 d3 d4
      go_wp2_with fail
      refine (hKt _).mono ?_; rintro r w2 ⟨rfl, rfl⟩
      go_wp2_with fail
      go_ret
      exact ⟨by rw [hres.out]; rfl, HHw.out⟩
  have e8 : (op == 8) = false := by simpa using h8
  by_cases h6 : op = 6
  · subst h6
    by_cases ht : t = 0
    case neg =>
      have et : (t == 0) = false := by simpa using ht
      have hres := Lib.hid (show Z = 0 by rw [← HZ.out]; unfold singleT; simp [hT, ht])
      clear hT ht h8
      go_enter Tryd.func38, Tryd.ntmps38
      go_upto_region 5 with fail
      rw [← HW0.out]
      have qq0 := fun wt (h : Below W0.heap.size W0 wt) => cellB h s0 z0
      have qq1 := fun wt (h : Below W0.heap.size W0 wt) => cellB h s1 z0
      have qq2 := fun wt (h : Below W0.heap.size W0 wt) => cellB h s2 z0
      have qq3 := fun wt (h : Below W0.heap.size W0 wt) => cellB h s3 z0
      have qq4 := fun wt (h : Below W0.heap.size W0 wt) => cellB h g4 z1
      have qq5 := fun wt (h : Below W0.heap.size W0 wt) => cellB h d0 zb
      have qq6 := fun wt (h : Below W0.heap.size W0 wt) => cellB h d1 zb
      have qq7 := fun wt (h : Below W0.heap.size W0 wt) => cellB h d2 zb
      have qq8 := fun wt (h : Below W0.heap.size W0 wt) => cellB h d3 zb
      have qq9 := fun wt (h : Below W0.heap.size W0 wt) => cellB h d4 zb
      refine wp_region_held_drew (S := (fun w' => Below W0.heap.size W0 w')) (by kernel_rfl) ?_ (fun hHeld => ?_)
      · (try dsimp only); first | assumption | exact Below.alloc hHeld hHeld.size _ | exact (Below.refl _ _).drew | exact Below.drew (Below.refl _ _) | exact Below_drewN _ _ _ | exact Below.refl _ _
      refine tk 0 (v := ?_) (hy := ?_) (h := ?_); rotate_left
      · intro wt hSw; (try dsimp only at hSw); go_simp <;> with_reducible rfl
      try simp only [pu, pa, pz, ps]
      refine tk 1 (v := ?_) (hy := ?_) (h := ?_); rotate_left
      · intro _ _; go_simp <;> with_reducible rfl
      try simp only [pu, pa, pz, ps]
      refine tk 2 (v := ?_) (hy := ?_) (h := ?_); rotate_left
      · intro wt hSw; (try dsimp only at hSw); go_simp <;> with_reducible rfl
      try simp only [pu, pa, pz, ps]
      refine tk 3 (v := ?_) (hy := ?_) (h := ?_); rotate_left
      · intro _ _; go_simp <;> with_reducible rfl
      try simp only [pu, pa, pz, ps]
      refine tk 4 (v := ?_) (hy := ?_) (h := ?_); rotate_left
      · intro wt hSw; (try dsimp only at hSw); go_simp <;> with_reducible rfl
      try simp only [pu, pa, pz, ps]
      refine wpAnyH_ready (rs := [5]) (by kernel_rfl) (by simp) ?_
      refine AllReadyH.cons (o := ⟨_, _, _, _, _, _⟩) rfl (fun K hK => ?_) AllReadyH.nil
      go_simp
      refine (HXc.out _ trivial hHeld).mono ?_; rintro r w2 ⟨rfl, hb⟩; have hHeld := hHeld.trans (hb.mono hHeld.size)
      go_wp2_with fail
      refine hK.out _ _ ?_ (fun hHeld => ?_)
      · (try dsimp only); first | assumption | exact Below.alloc hHeld hHeld.size _ | exact (Below.refl _ _).drew | exact Below.drew (Below.refl _ _) | exact Below_drewN _ _ _ | exact Below.refl _ _
      clear hK K
      try simp only [pu, pa, pz, ps]
      refine tk 6 (v := ?_) (hy := ?_) (h := ?_); rotate_left
      · intro _ _; go_simp <;> with_reducible rfl
      try simp only [pu, pa, pz, ps]
      refine wpAnyH_done (by kernel_rfl) ?_ _
      have HHw := Lib.hid (HB0.out.trans (hHeld.mono HB0.out.size))
      have g0 := cellB hHeld g0 z1
      have g1 := cellB hHeld g1 z1
      have g2 := cellB hHeld g2 z1
      have g3 := cellB hHeld g3 z1
      have g4 := cellB hHeld g4 z1
      clear hHeld s0 s1 s2 s3 d0 d1 d2 d3 d4
      go_wp2_with fail
      refine (hK0 _).mono ?_; rintro r w2 ⟨rfl, rfl⟩
      go_wp2_with fail
      go_ret
      exact ⟨by rw [hres.out]; rfl, HHw.out⟩
    subst ht
    by_cases hn : n = 0
    case neg =>
      have en : (n == 0) = false := by simpa using hn
      have hres := Lib.hid (show Z = 0 by rw [← HZ.out]; unfold singleT; simp [hT, hn])
      clear hT hn h8
      go_enter Tryd.func38, Tryd.ntmps38
      go_upto_region 5 with fail
      rw [← HW0.out]
      have qq0 := fun wt (h : Below W0.heap.size W0 wt) => cellB h s0 z0
      have qq1 := fun wt (h : Below W0.heap.size W0 wt) => cellB h s1 z0
      have qq2 := fun wt (h : Below W0.heap.size W0 wt) => cellB h s2 z0
      have qq3 := fun wt (h : Below W0.heap.size W0 wt) => cellB h s3 z0
      have qq4 := fun wt (h : Below W0.heap.size W0 wt) => cellB h g4 z1
      have qq5 := fun wt (h : Below W0.heap.size W0 wt) => cellB h d0 zb
      have qq6 := fun wt (h : Below W0.heap.size W0 wt) => cellB h d1 zb
      have qq7 := fun wt (h : Below W0.heap.size W0 wt) => cellB h d2 zb
      have qq8 := fun wt (h : Below W0.heap.size W0 wt) => cellB h d3 zb
      have qq9 := fun wt (h : Below W0.heap.size W0 wt) => cellB h d4 zb
      refine wp_region_held_drew (S := (fun w' => Below W0.heap.size W0 w')) (by kernel_rfl) ?_ (fun hHeld => ?_)
      · (try dsimp only); first | assumption | exact Below.alloc hHeld hHeld.size _ | exact (Below.refl _ _).drew | exact Below.drew (Below.refl _ _) | exact Below_drewN _ _ _ | exact Below.refl _ _
      refine tk 0 (v := ?_) (hy := ?_) (h := ?_); rotate_left
      · intro wt hSw; (try dsimp only at hSw); go_simp <;> with_reducible rfl
      try simp only [pu, pa, pz, ps]
      refine tk 1 (v := ?_) (hy := ?_) (h := ?_); rotate_left
      · intro _ _; go_simp <;> with_reducible rfl
      try simp only [pu, pa, pz, ps]
      refine tk 2 (v := ?_) (hy := ?_) (h := ?_); rotate_left
      · intro wt hSw; (try dsimp only at hSw); go_simp <;> with_reducible rfl
      try simp only [pu, pa, pz, ps]
      refine tk 3 (v := ?_) (hy := ?_) (h := ?_); rotate_left
      · intro _ _; go_simp <;> with_reducible rfl
      try simp only [pu, pa, pz, ps]
      refine tk 4 (v := ?_) (hy := ?_) (h := ?_); rotate_left
      · intro wt hSw; (try dsimp only at hSw); go_simp <;> with_reducible rfl
      try simp only [pu, pa, pz, ps]
      refine wpAnyH_ready (rs := [5]) (by kernel_rfl) (by simp) ?_
      refine AllReadyH.cons (o := ⟨_, _, _, _, _, _⟩) rfl (fun K hK => ?_) AllReadyH.nil
      go_simp
      refine (HXc.out _ trivial hHeld).mono ?_; rintro r w2 ⟨rfl, hb⟩; have hHeld := hHeld.trans (hb.mono hHeld.size)
      go_wp2_with fail
      refine hK.out _ _ ?_ (fun hHeld => ?_)
      · (try dsimp only); first | assumption | exact Below.alloc hHeld hHeld.size _ | exact (Below.refl _ _).drew | exact Below.drew (Below.refl _ _) | exact Below_drewN _ _ _ | exact Below.refl _ _
      clear hK K
      try simp only [pu, pa, pz, ps]
      refine tk 6 (v := ?_) (hy := ?_) (h := ?_); rotate_left
      · intro _ _; go_simp <;> with_reducible rfl
      try simp only [pu, pa, pz, ps]
      refine wpAnyH_done (by kernel_rfl) ?_ _
      have HHw := Lib.hid (HB0.out.trans (hHeld.mono HB0.out.size))
      have g0 := cellB hHeld g0 z1
      have g1 := cellB hHeld g1 z1
      have g2 := cellB hHeld g2 z1
      have g3 := cellB hHeld g3 z1
      have g4 := cellB hHeld g4 z1
      clear hHeld s0 s1 s2 s3 d0 d1 d2 d3 d4
      go_wp2_with fail
      refine (hK0 _).mono ?_; rintro r w2 ⟨rfl, rfl⟩
      go_wp2_with fail
      go_ret
      exact ⟨by rw [hres.out]; rfl, HHw.out⟩
    subst hn
    by_cases hm13 : m = 13
    · subst hm13
      have hR := ref07_Result 13 T
      have hb := aResult_le 13 T
      have HX := Lib.hid (show Z = aResult 13 T by rw [← HZ.out]; unfold singleT; simp [hT])
      generalize aResult 13 T = R at *
      have hK := ref01_Right R
      cases hk : kRight R
      · rw [hk] at hK
        have hR0 : R = 0 := by have := of_decide_eq_false hk; omega
        have hres := Lib.hid (HX.out.trans hR0)
        clear hT hk hb hR0 h8
        go_enter Tryd.func38, Tryd.ntmps38
        go_upto_region 5 with fail
        rw [← HW0.out]
        have qq0 := fun wt (h : Below W0.heap.size W0 wt) => cellB h s0 z0
        have qq1 := fun wt (h : Below W0.heap.size W0 wt) => cellB h s1 z0
        have qq2 := fun wt (h : Below W0.heap.size W0 wt) => cellB h s2 z0
        have qq3 := fun wt (h : Below W0.heap.size W0 wt) => cellB h s3 z0
        have qq4 := fun wt (h : Below W0.heap.size W0 wt) => cellB h g4 z1
        have qq5 := fun wt (h : Below W0.heap.size W0 wt) => cellB h d0 zb
        have qq6 := fun wt (h : Below W0.heap.size W0 wt) => cellB h d1 zb
        have qq7 := fun wt (h : Below W0.heap.size W0 wt) => cellB h d2 zb
        have qq8 := fun wt (h : Below W0.heap.size W0 wt) => cellB h d3 zb
        have qq9 := fun wt (h : Below W0.heap.size W0 wt) => cellB h d4 zb
        refine wp_region_held_drew (S := (fun w' => Below W0.heap.size W0 w')) (by kernel_rfl) ?_ (fun hHeld => ?_)
        · (try dsimp only); first | assumption | exact Below.alloc hHeld hHeld.size _ | exact (Below.refl _ _).drew | exact Below.drew (Below.refl _ _) | exact Below_drewN _ _ _ | exact Below.refl _ _
        refine tk 0 (v := ?_) (hy := ?_) (h := ?_); rotate_left
        · intro wt hSw; (try dsimp only at hSw); go_simp <;> with_reducible rfl
        try simp only [pu, pa, pz, ps]
        refine tk 1 (v := ?_) (hy := ?_) (h := ?_); rotate_left
        · intro _ _; go_simp <;> with_reducible rfl
        try simp only [pu, pa, pz, ps]
        refine tk 2 (v := ?_) (hy := ?_) (h := ?_); rotate_left
        · intro wt hSw; (try dsimp only at hSw); go_simp <;> with_reducible rfl
        try simp only [pu, pa, pz, ps]
        refine tk 3 (v := ?_) (hy := ?_) (h := ?_); rotate_left
        · intro _ _; go_simp <;> with_reducible rfl
        try simp only [pu, pa, pz, ps]
        refine tk 4 (v := ?_) (hy := ?_) (h := ?_); rotate_left
        · intro wt hSw; (try dsimp only at hSw); go_simp <;> with_reducible rfl
        try simp only [pu, pa, pz, ps]
        refine wpAnyH_ready (rs := [5]) (by kernel_rfl) (by simp) ?_
        refine AllReadyH.cons (o := ⟨_, _, _, _, _, _⟩) rfl (fun K hK => ?_) AllReadyH.nil
        go_simp
        refine (HXc.out _ trivial hHeld).mono ?_; rintro r w2 ⟨rfl, hb⟩; have hHeld := hHeld.trans (hb.mono hHeld.size)
        go_wp2_with fail
        refine hK.out _ _ ?_ (fun hHeld => ?_)
        · (try dsimp only); first | assumption | exact Below.alloc hHeld hHeld.size _ | exact (Below.refl _ _).drew | exact Below.drew (Below.refl _ _) | exact Below_drewN _ _ _ | exact Below.refl _ _
        clear hK K
        try simp only [pu, pa, pz, ps]
        refine tk 6 (v := ?_) (hy := ?_) (h := ?_); rotate_left
        · intro _ _; go_simp <;> with_reducible rfl
        try simp only [pu, pa, pz, ps]
        refine wpAnyH_done (by kernel_rfl) ?_ _
        have HHw := Lib.hid (HB0.out.trans (hHeld.mono HB0.out.size))
        have g0 := cellB hHeld g0 z1
        have g1 := cellB hHeld g1 z1
        have g2 := cellB hHeld g2 z1
        have g3 := cellB hHeld g3 z1
        have g4 := cellB hHeld g4 z1
        clear hHeld s0 s1 s2 s3 d0 d1 d2 d3 d4
        go_wp2_with fail
        refine (hR _).mono ?_; rintro r w2 ⟨rfl, rfl⟩
        go_wp2_with fail
        refine (hK _).mono ?_; rintro r w2 ⟨rfl, rfl⟩
        go_wp2_with fail
        go_ret
        exact ⟨by rw [hres.out]; rfl, HHw.out⟩
      · rw [hk] at hK
        have hres := HX
        clear hT hk hb h8
        go_enter Tryd.func38, Tryd.ntmps38
        go_upto_region 5 with fail
        rw [← HW0.out]
        have qq0 := fun wt (h : Below W0.heap.size W0 wt) => cellB h s0 z0
        have qq1 := fun wt (h : Below W0.heap.size W0 wt) => cellB h s1 z0
        have qq2 := fun wt (h : Below W0.heap.size W0 wt) => cellB h s2 z0
        have qq3 := fun wt (h : Below W0.heap.size W0 wt) => cellB h s3 z0
        have qq4 := fun wt (h : Below W0.heap.size W0 wt) => cellB h g4 z1
        have qq5 := fun wt (h : Below W0.heap.size W0 wt) => cellB h d0 zb
        have qq6 := fun wt (h : Below W0.heap.size W0 wt) => cellB h d1 zb
        have qq7 := fun wt (h : Below W0.heap.size W0 wt) => cellB h d2 zb
        have qq8 := fun wt (h : Below W0.heap.size W0 wt) => cellB h d3 zb
        have qq9 := fun wt (h : Below W0.heap.size W0 wt) => cellB h d4 zb
        refine wp_region_held_drew (S := (fun w' => Below W0.heap.size W0 w')) (by kernel_rfl) ?_ (fun hHeld => ?_)
        · (try dsimp only); first | assumption | exact Below.alloc hHeld hHeld.size _ | exact (Below.refl _ _).drew | exact Below.drew (Below.refl _ _) | exact Below_drewN _ _ _ | exact Below.refl _ _
        refine tk 0 (v := ?_) (hy := ?_) (h := ?_); rotate_left
        · intro wt hSw; (try dsimp only at hSw); go_simp <;> with_reducible rfl
        try simp only [pu, pa, pz, ps]
        refine tk 1 (v := ?_) (hy := ?_) (h := ?_); rotate_left
        · intro _ _; go_simp <;> with_reducible rfl
        try simp only [pu, pa, pz, ps]
        refine tk 2 (v := ?_) (hy := ?_) (h := ?_); rotate_left
        · intro wt hSw; (try dsimp only at hSw); go_simp <;> with_reducible rfl
        try simp only [pu, pa, pz, ps]
        refine tk 3 (v := ?_) (hy := ?_) (h := ?_); rotate_left
        · intro _ _; go_simp <;> with_reducible rfl
        try simp only [pu, pa, pz, ps]
        refine tk 4 (v := ?_) (hy := ?_) (h := ?_); rotate_left
        · intro wt hSw; (try dsimp only at hSw); go_simp <;> with_reducible rfl
        try simp only [pu, pa, pz, ps]
        refine wpAnyH_ready (rs := [5]) (by kernel_rfl) (by simp) ?_
        refine AllReadyH.cons (o := ⟨_, _, _, _, _, _⟩) rfl (fun K hK => ?_) AllReadyH.nil
        go_simp
        refine (HXc.out _ trivial hHeld).mono ?_; rintro r w2 ⟨rfl, hb⟩; have hHeld := hHeld.trans (hb.mono hHeld.size)
        go_wp2_with fail
        refine hK.out _ _ ?_ (fun hHeld => ?_)
        · (try dsimp only); first | assumption | exact Below.alloc hHeld hHeld.size _ | exact (Below.refl _ _).drew | exact Below.drew (Below.refl _ _) | exact Below_drewN _ _ _ | exact Below.refl _ _
        clear hK K
        try simp only [pu, pa, pz, ps]
        refine tk 6 (v := ?_) (hy := ?_) (h := ?_); rotate_left
        · intro _ _; go_simp <;> with_reducible rfl
        try simp only [pu, pa, pz, ps]
        refine wpAnyH_done (by kernel_rfl) ?_ _
        have HHw := Lib.hid (HB0.out.trans (hHeld.mono HB0.out.size))
        have g0 := cellB hHeld g0 z1
        have g1 := cellB hHeld g1 z1
        have g2 := cellB hHeld g2 z1
        have g3 := cellB hHeld g3 z1
        have g4 := cellB hHeld g4 z1
        clear hHeld s0 s1 s2 s3 d0 d1 d2 d3 d4
        go_wp2_with fail
        refine (hR _).mono ?_; rintro r w2 ⟨rfl, rfl⟩
        go_wp2_with fail
        refine (hK _).mono ?_; rintro r w2 ⟨rfl, rfl⟩
        go_wp2_with fail
        go_ret
        exact ⟨by rw [hres.out]; rfl, HHw.out⟩
    have em13 : (m == 13) = false := by simpa using hm13
    by_cases hm17 : m = 17
    · subst hm17
      have hR := ref07_Result 17 T
      have hb := aResult_le 17 T
      have HX := Lib.hid (show Z = aResult 17 T by rw [← HZ.out]; unfold singleT; simp [hT])
      generalize aResult 17 T = R at *
      have hK := ref01_Right R
      cases hk : kRight R
      · rw [hk] at hK
        have hR0 : R = 0 := by have := of_decide_eq_false hk; omega
        have hres := Lib.hid (HX.out.trans hR0)
        clear hT hk hb hR0 h8
        go_enter Tryd.func38, Tryd.ntmps38
        go_upto_region 5 with fail
        rw [← HW0.out]
        have qq0 := fun wt (h : Below W0.heap.size W0 wt) => cellB h s0 z0
        have qq1 := fun wt (h : Below W0.heap.size W0 wt) => cellB h s1 z0
        have qq2 := fun wt (h : Below W0.heap.size W0 wt) => cellB h s2 z0
        have qq3 := fun wt (h : Below W0.heap.size W0 wt) => cellB h s3 z0
        have qq4 := fun wt (h : Below W0.heap.size W0 wt) => cellB h g4 z1
        have qq5 := fun wt (h : Below W0.heap.size W0 wt) => cellB h d0 zb
        have qq6 := fun wt (h : Below W0.heap.size W0 wt) => cellB h d1 zb
        have qq7 := fun wt (h : Below W0.heap.size W0 wt) => cellB h d2 zb
        have qq8 := fun wt (h : Below W0.heap.size W0 wt) => cellB h d3 zb
        have qq9 := fun wt (h : Below W0.heap.size W0 wt) => cellB h d4 zb
        refine wp_region_held_drew (S := (fun w' => Below W0.heap.size W0 w')) (by kernel_rfl) ?_ (fun hHeld => ?_)
        · (try dsimp only); first | assumption | exact Below.alloc hHeld hHeld.size _ | exact (Below.refl _ _).drew | exact Below.drew (Below.refl _ _) | exact Below_drewN _ _ _ | exact Below.refl _ _
        refine tk 0 (v := ?_) (hy := ?_) (h := ?_); rotate_left
        · intro wt hSw; (try dsimp only at hSw); go_simp <;> with_reducible rfl
        try simp only [pu, pa, pz, ps]
        refine tk 1 (v := ?_) (hy := ?_) (h := ?_); rotate_left
        · intro _ _; go_simp <;> with_reducible rfl
        try simp only [pu, pa, pz, ps]
        refine tk 2 (v := ?_) (hy := ?_) (h := ?_); rotate_left
        · intro wt hSw; (try dsimp only at hSw); go_simp <;> with_reducible rfl
        try simp only [pu, pa, pz, ps]
        refine tk 3 (v := ?_) (hy := ?_) (h := ?_); rotate_left
        · intro _ _; go_simp <;> with_reducible rfl
        try simp only [pu, pa, pz, ps]
        refine tk 4 (v := ?_) (hy := ?_) (h := ?_); rotate_left
        · intro wt hSw; (try dsimp only at hSw); go_simp <;> with_reducible rfl
        try simp only [pu, pa, pz, ps]
        refine wpAnyH_ready (rs := [5]) (by kernel_rfl) (by simp) ?_
        refine AllReadyH.cons (o := ⟨_, _, _, _, _, _⟩) rfl (fun K hK => ?_) AllReadyH.nil
        go_simp
        refine (HXc.out _ trivial hHeld).mono ?_; rintro r w2 ⟨rfl, hb⟩; have hHeld := hHeld.trans (hb.mono hHeld.size)
        go_wp2_with fail
        refine hK.out _ _ ?_ (fun hHeld => ?_)
        · (try dsimp only); first | assumption | exact Below.alloc hHeld hHeld.size _ | exact (Below.refl _ _).drew | exact Below.drew (Below.refl _ _) | exact Below_drewN _ _ _ | exact Below.refl _ _
        clear hK K
        try simp only [pu, pa, pz, ps]
        refine tk 6 (v := ?_) (hy := ?_) (h := ?_); rotate_left
        · intro _ _; go_simp <;> with_reducible rfl
        try simp only [pu, pa, pz, ps]
        refine wpAnyH_done (by kernel_rfl) ?_ _
        have HHw := Lib.hid (HB0.out.trans (hHeld.mono HB0.out.size))
        have g0 := cellB hHeld g0 z1
        have g1 := cellB hHeld g1 z1
        have g2 := cellB hHeld g2 z1
        have g3 := cellB hHeld g3 z1
        have g4 := cellB hHeld g4 z1
        clear hHeld s0 s1 s2 s3 d0 d1 d2 d3 d4
        go_wp2_with fail
        refine (hR _).mono ?_; rintro r w2 ⟨rfl, rfl⟩
        go_wp2_with fail
        refine (hK _).mono ?_; rintro r w2 ⟨rfl, rfl⟩
        go_wp2_with fail
        go_ret
        exact ⟨by rw [hres.out]; rfl, HHw.out⟩
      · rw [hk] at hK
        have hres := HX
        clear hT hk hb h8
        go_enter Tryd.func38, Tryd.ntmps38
        go_upto_region 5 with fail
        rw [← HW0.out]
        have qq0 := fun wt (h : Below W0.heap.size W0 wt) => cellB h s0 z0
        have qq1 := fun wt (h : Below W0.heap.size W0 wt) => cellB h s1 z0
        have qq2 := fun wt (h : Below W0.heap.size W0 wt) => cellB h s2 z0
        have qq3 := fun wt (h : Below W0.heap.size W0 wt) => cellB h s3 z0
        have qq4 := fun wt (h : Below W0.heap.size W0 wt) => cellB h g4 z1
        have qq5 := fun wt (h : Below W0.heap.size W0 wt) => cellB h d0 zb
        have qq6 := fun wt (h : Below W0.heap.size W0 wt) => cellB h d1 zb
        have qq7 := fun wt (h : Below W0.heap.size W0 wt) => cellB h d2 zb
        have qq8 := fun wt (h : Below W0.heap.size W0 wt) => cellB h d3 zb
        have qq9 := fun wt (h : Below W0.heap.size W0 wt) => cellB h d4 zb
        refine wp_region_held_drew (S := (fun w' => Below W0.heap.size W0 w')) (by kernel_rfl) ?_ (fun hHeld => ?_)
        · (try dsimp only); first | assumption | exact Below.alloc hHeld hHeld.size _ | exact (Below.refl _ _).drew | exact Below.drew (Below.refl _ _) | exact Below_drewN _ _ _ | exact Below.refl _ _
        refine tk 0 (v := ?_) (hy := ?_) (h := ?_); rotate_left
        · intro wt hSw; (try dsimp only at hSw); go_simp <;> with_reducible rfl
        try simp only [pu, pa, pz, ps]
        refine tk 1 (v := ?_) (hy := ?_) (h := ?_); rotate_left
        · intro _ _; go_simp <;> with_reducible rfl
        try simp only [pu, pa, pz, ps]
        refine tk 2 (v := ?_) (hy := ?_) (h := ?_); rotate_left
        · intro wt hSw; (try dsimp only at hSw); go_simp <;> with_reducible rfl
        try simp only [pu, pa, pz, ps]
        refine tk 3 (v := ?_) (hy := ?_) (h := ?_); rotate_left
        · intro _ _; go_simp <;> with_reducible rfl
        try simp only [pu, pa, pz, ps]
        refine tk 4 (v := ?_) (hy := ?_) (h := ?_); rotate_left
        · intro wt hSw; (try dsimp only at hSw); go_simp <;> with_reducible rfl
        try simp only [pu, pa, pz, ps]
        refine wpAnyH_ready (rs := [5]) (by kernel_rfl) (by simp) ?_
        refine AllReadyH.cons (o := ⟨_, _, _, _, _, _⟩) rfl (fun K hK => ?_) AllReadyH.nil
        go_simp
        refine (HXc.out _ trivial hHeld).mono ?_; rintro r w2 ⟨rfl, hb⟩; have hHeld := hHeld.trans (hb.mono hHeld.size)
        go_wp2_with fail
        refine hK.out _ _ ?_ (fun hHeld => ?_)
        · (try dsimp only); first | assumption | exact Below.alloc hHeld hHeld.size _ | exact (Below.refl _ _).drew | exact Below.drew (Below.refl _ _) | exact Below_drewN _ _ _ | exact Below.refl _ _
        clear hK K
        try simp only [pu, pa, pz, ps]
        refine tk 6 (v := ?_) (hy := ?_) (h := ?_); rotate_left
        · intro _ _; go_simp <;> with_reducible rfl
        try simp only [pu, pa, pz, ps]
        refine wpAnyH_done (by kernel_rfl) ?_ _
        have HHw := Lib.hid (HB0.out.trans (hHeld.mono HB0.out.size))
        have g0 := cellB hHeld g0 z1
        have g1 := cellB hHeld g1 z1
        have g2 := cellB hHeld g2 z1
        have g3 := cellB hHeld g3 z1
        have g4 := cellB hHeld g4 z1
        clear hHeld s0 s1 s2 s3 d0 d1 d2 d3 d4
        go_wp2_with fail
        refine (hR _).mono ?_; rintro r w2 ⟨rfl, rfl⟩
        go_wp2_with fail
        refine (hK _).mono ?_; rintro r w2 ⟨rfl, rfl⟩
        go_wp2_with fail
        go_ret
        exact ⟨by rw [hres.out]; rfl, HHw.out⟩
    have em17 : (m == 17) = false := by simpa using hm17
    have hres := Lib.hid (show Z = 0 by rw [← HZ.out]; unfold singleT; simp [hT, hm13, hm17])
    clear hT hm13 hm17 h8
    go_enter Tryd.func38, Tryd.ntmps38
    go_upto_region 5 with fail
    rw [← HW0.out]
    have qq0 := fun wt (h : Below W0.heap.size W0 wt) => cellB h s0 z0
    have qq1 := fun wt (h : Below W0.heap.size W0 wt) => cellB h s1 z0
    have qq2 := fun wt (h : Below W0.heap.size W0 wt) => cellB h s2 z0
    have qq3 := fun wt (h : Below W0.heap.size W0 wt) => cellB h s3 z0
    have qq4 := fun wt (h : Below W0.heap.size W0 wt) => cellB h g4 z1
    have qq5 := fun wt (h : Below W0.heap.size W0 wt) => cellB h d0 zb
    have qq6 := fun wt (h : Below W0.heap.size W0 wt) => cellB h d1 zb
    have qq7 := fun wt (h : Below W0.heap.size W0 wt) => cellB h d2 zb
    have qq8 := fun wt (h : Below W0.heap.size W0 wt) => cellB h d3 zb
    have qq9 := fun wt (h : Below W0.heap.size W0 wt) => cellB h d4 zb
    refine wp_region_held_drew (S := (fun w' => Below W0.heap.size W0 w')) (by kernel_rfl) ?_ (fun hHeld => ?_)
    · (try dsimp only); first | assumption | exact Below.alloc hHeld hHeld.size _ | exact (Below.refl _ _).drew | exact Below.drew (Below.refl _ _) | exact Below_drewN _ _ _ | exact Below.refl _ _
    refine tk 0 (v := ?_) (hy := ?_) (h := ?_); rotate_left
    · intro wt hSw; (try dsimp only at hSw); go_simp <;> with_reducible rfl
    try simp only [pu, pa, pz, ps]
    refine tk 1 (v := ?_) (hy := ?_) (h := ?_); rotate_left
    · intro _ _; go_simp <;> with_reducible rfl
    try simp only [pu, pa, pz, ps]
    refine tk 2 (v := ?_) (hy := ?_) (h := ?_); rotate_left
    · intro wt hSw; (try dsimp only at hSw); go_simp <;> with_reducible rfl
    try simp only [pu, pa, pz, ps]
    refine tk 3 (v := ?_) (hy := ?_) (h := ?_); rotate_left
    · intro _ _; go_simp <;> with_reducible rfl
    try simp only [pu, pa, pz, ps]
    refine tk 4 (v := ?_) (hy := ?_) (h := ?_); rotate_left
    · intro wt hSw; (try dsimp only at hSw); go_simp <;> with_reducible rfl
    try simp only [pu, pa, pz, ps]
    refine wpAnyH_ready (rs := [5]) (by kernel_rfl) (by simp) ?_
    refine AllReadyH.cons (o := ⟨_, _, _, _, _, _⟩) rfl (fun K hK => ?_) AllReadyH.nil
    go_simp
    refine (HXc.out _ trivial hHeld).mono ?_; rintro r w2 ⟨rfl, hb⟩; have hHeld := hHeld.trans (hb.mono hHeld.size)
    go_wp2_with fail
    refine hK.out _ _ ?_ (fun hHeld => ?_)
    · (try dsimp only); first | assumption | exact Below.alloc hHeld hHeld.size _ | exact (Below.refl _ _).drew | exact Below.drew (Below.refl _ _) | exact Below_drewN _ _ _ | exact Below.refl _ _
    clear hK K
    try simp only [pu, pa, pz, ps]
    refine tk 6 (v := ?_) (hy := ?_) (h := ?_); rotate_left
    · intro _ _; go_simp <;> with_reducible rfl
    try simp only [pu, pa, pz, ps]
    refine wpAnyH_done (by kernel_rfl) ?_ _
    have HHw := Lib.hid (HB0.out.trans (hHeld.mono HB0.out.size))
    have g0 := cellB hHeld g0 z1
    have g1 := cellB hHeld g1 z1
    have g2 := cellB hHeld g2 z1
    have g3 := cellB hHeld g3 z1
    have g4 := cellB hHeld g4 z1
    clear hHeld s0 s1 s2 s3 d0 d1 d2 d3 d4
    go_wp2_with fail
    refine (hK0 _).mono ?_; rintro r w2 ⟨rfl, rfl⟩
    go_wp2_with fail
    go_ret
    exact ⟨by rw [hres.out]; rfl, HHw.out⟩
  have e6 : (op == 6) = false := by simpa using h6
  have e2 : (op == 2) = false := by simpa using o2
  have e4 : (op == 4) = false := by simpa using o4
  by_cases h1 : op = 1
  · subst h1
    have hres := Lib.hid (show Z = 0 by rw [← HZ.out]; unfold singleT; simp [hT])
    clear hT h8 h6 o2 o4
    go_enter Tryd.func38, Tryd.ntmps38
    go_upto_region 5 with fail
    rw [← HW0.out]
    have qq0 := fun wt (h : Below W0.heap.size W0 wt) => cellB h s0 z0
    have qq1 := fun wt (h : Below W0.heap.size W0 wt) => cellB h s1 z0
    have qq2 := fun wt (h : Below W0.heap.size W0 wt) => cellB h s2 z0
    have qq3 := fun wt (h : Below W0.heap.size W0 wt) => cellB h s3 z0
    have qq4 := fun wt (h : Below W0.heap.size W0 wt) => cellB h g4 z1
    have qq5 := fun wt (h : Below W0.heap.size W0 wt) => cellB h d0 zb
    have qq6 := fun wt (h : Below W0.heap.size W0 wt) => cellB h d1 zb
    have qq7 := fun wt (h : Below W0.heap.size W0 wt) => cellB h d2 zb
    have qq8 := fun wt (h : Below W0.heap.size W0 wt) => cellB h d3 zb
    have qq9 := fun wt (h : Below W0.heap.size W0 wt) => cellB h d4 zb
    refine wp_region_held_drew (S := (fun w' => Below W0.heap.size W0 w')) (by kernel_rfl) ?_ (fun hHeld => ?_)
    · (try dsimp only); first | assumption | exact Below.alloc hHeld hHeld.size _ | exact (Below.refl _ _).drew | exact Below.drew (Below.refl _ _) | exact Below_drewN _ _ _ | exact Below.refl _ _
    refine tk 0 (v := ?_) (hy := ?_) (h := ?_); rotate_left
    · intro wt hSw; (try dsimp only at hSw); go_simp <;> with_reducible rfl
    try simp only [pu, pa, pz, ps]
    refine tk 1 (v := ?_) (hy := ?_) (h := ?_); rotate_left
    · intro _ _; go_simp <;> with_reducible rfl
    try simp only [pu, pa, pz, ps]
    refine tk 2 (v := ?_) (hy := ?_) (h := ?_); rotate_left
    · intro wt hSw; (try dsimp only at hSw); go_simp <;> with_reducible rfl
    try simp only [pu, pa, pz, ps]
    refine tk 3 (v := ?_) (hy := ?_) (h := ?_); rotate_left
    · intro _ _; go_simp <;> with_reducible rfl
    try simp only [pu, pa, pz, ps]
    refine tk 4 (v := ?_) (hy := ?_) (h := ?_); rotate_left
    · intro wt hSw; (try dsimp only at hSw); go_simp <;> with_reducible rfl
    try simp only [pu, pa, pz, ps]
    refine wpAnyH_ready (rs := [5]) (by kernel_rfl) (by simp) ?_
    refine AllReadyH.cons (o := ⟨_, _, _, _, _, _⟩) rfl (fun K hK => ?_) AllReadyH.nil
    go_simp
    refine (HXc.out _ trivial hHeld).mono ?_; rintro r w2 ⟨rfl, hb⟩; have hHeld := hHeld.trans (hb.mono hHeld.size)
    go_wp2_with fail
    refine hK.out _ _ ?_ (fun hHeld => ?_)
    · (try dsimp only); first | assumption | exact Below.alloc hHeld hHeld.size _ | exact (Below.refl _ _).drew | exact Below.drew (Below.refl _ _) | exact Below_drewN _ _ _ | exact Below.refl _ _
    clear hK K
    try simp only [pu, pa, pz, ps]
    refine tk 6 (v := ?_) (hy := ?_) (h := ?_); rotate_left
    · intro _ _; go_simp <;> with_reducible rfl
    try simp only [pu, pa, pz, ps]
    refine wpAnyH_done (by kernel_rfl) ?_ _
    have HHw := Lib.hid (HB0.out.trans (hHeld.mono HB0.out.size))
    have g0 := cellB hHeld g0 z1
    have g1 := cellB hHeld g1 z1
    have g2 := cellB hHeld g2 z1
    have g3 := cellB hHeld g3 z1
    have g4 := cellB hHeld g4 z1
    clear hHeld s0 s1 s2 s3 d0 d1 d2 d3 d4
    go_wp2_with fail
    refine (hK0 _).mono ?_; rintro r w2 ⟨rfl, rfl⟩
    go_wp2_with fail
    go_ret
    exact ⟨by rw [hres.out]; rfl, HHw.out⟩
  have e1 : (op == 1) = false := by simpa using h1
  by_cases h3 : op = 3
  · subst h3
    have hres := Lib.hid (show Z = 0 by rw [← HZ.out]; unfold singleT; simp [hT])
    clear hT h8 h6 o2 o4
    go_enter Tryd.func38, Tryd.ntmps38
    go_upto_region 5 with fail
    rw [← HW0.out]
    have qq0 := fun wt (h : Below W0.heap.size W0 wt) => cellB h s0 z0
    have qq1 := fun wt (h : Below W0.heap.size W0 wt) => cellB h s1 z0
    have qq2 := fun wt (h : Below W0.heap.size W0 wt) => cellB h s2 z0
    have qq3 := fun wt (h : Below W0.heap.size W0 wt) => cellB h s3 z0
    have qq4 := fun wt (h : Below W0.heap.size W0 wt) => cellB h g4 z1
    have qq5 := fun wt (h : Below W0.heap.size W0 wt) => cellB h d0 zb
    have qq6 := fun wt (h : Below W0.heap.size W0 wt) => cellB h d1 zb
    have qq7 := fun wt (h : Below W0.heap.size W0 wt) => cellB h d2 zb
    have qq8 := fun wt (h : Below W0.heap.size W0 wt) => cellB h d3 zb
    have qq9 := fun wt (h : Below W0.heap.size W0 wt) => cellB h d4 zb
    refine wp_region_held_drew (S := (fun w' => Below W0.heap.size W0 w')) (by kernel_rfl) ?_ (fun hHeld => ?_)
    · (try dsimp only); first | assumption | exact Below.alloc hHeld hHeld.size _ | exact (Below.refl _ _).drew | exact Below.drew (Below.refl _ _) | exact Below_drewN _ _ _ | exact Below.refl _ _
    refine tk 0 (v := ?_) (hy := ?_) (h := ?_); rotate_left
    · intro wt hSw; (try dsimp only at hSw); go_simp <;> with_reducible rfl
    try simp only [pu, pa, pz, ps]
    refine tk 1 (v := ?_) (hy := ?_) (h := ?_); rotate_left
    · intro _ _; go_simp <;> with_reducible rfl
    try simp only [pu, pa, pz, ps]
    refine tk 2 (v := ?_) (hy := ?_) (h := ?_); rotate_left
    · intro wt hSw; (try dsimp only at hSw); go_simp <;> with_reducible rfl
    try simp only [pu, pa, pz, ps]
    refine tk 3 (v := ?_) (hy := ?_) (h := ?_); rotate_left
    · intro _ _; go_simp <;> with_reducible rfl
    try simp only [pu, pa, pz, ps]
    refine tk 4 (v := ?_) (hy := ?_) (h := ?_); rotate_left
    · intro wt hSw; (try dsimp only at hSw); go_simp <;> with_reducible rfl
    try simp only [pu, pa, pz, ps]
    refine wpAnyH_ready (rs := [5]) (by kernel_rfl) (by simp) ?_
    refine AllReadyH.cons (o := ⟨_, _, _, _, _, _⟩) rfl (fun K hK => ?_) AllReadyH.nil
    go_simp
    refine (HXc.out _ trivial hHeld).mono ?_; rintro r w2 ⟨rfl, hb⟩; have hHeld := hHeld.trans (hb.mono hHeld.size)
    go_wp2_with fail
    refine hK.out _ _ ?_ (fun hHeld => ?_)
    · (try dsimp only); first | assumption | exact Below.alloc hHeld hHeld.size _ | exact (Below.refl _ _).drew | exact Below.drew (Below.refl _ _) | exact Below_drewN _ _ _ | exact Below.refl _ _
    clear hK K
    try simp only [pu, pa, pz, ps]
    refine tk 6 (v := ?_) (hy := ?_) (h := ?_); rotate_left
    · intro _ _; go_simp <;> with_reducible rfl
    try simp only [pu, pa, pz, ps]
    refine wpAnyH_done (by kernel_rfl) ?_ _
    have HHw := Lib.hid (HB0.out.trans (hHeld.mono HB0.out.size))
    have g0 := cellB hHeld g0 z1
    have g1 := cellB hHeld g1 z1
    have g2 := cellB hHeld g2 z1
    have g3 := cellB hHeld g3 z1
    have g4 := cellB hHeld g4 z1
    clear hHeld s0 s1 s2 s3 d0 d1 d2 d3 d4
    go_wp2_with fail
    refine (hK0 _).mono ?_; rintro r w2 ⟨rfl, rfl⟩
    go_wp2_with fail
    go_ret
    exact ⟨by rw [hres.out]; rfl, HHw.out⟩
  have e3 : (op == 3) = false := by simpa using h3
  by_cases h5 : op = 5
  · subst h5
    have hres := Lib.hid (show Z = 0 by rw [← HZ.out]; unfold singleT; simp [hT])
    clear hT h8 h6 o2 o4
    go_enter Tryd.func38, Tryd.ntmps38
    go_upto_region 5 with fail
    rw [← HW0.out]
    have qq0 := fun wt (h : Below W0.heap.size W0 wt) => cellB h s0 z0
    have qq1 := fun wt (h : Below W0.heap.size W0 wt) => cellB h s1 z0
    have qq2 := fun wt (h : Below W0.heap.size W0 wt) => cellB h s2 z0
    have qq3 := fun wt (h : Below W0.heap.size W0 wt) => cellB h s3 z0
    have qq4 := fun wt (h : Below W0.heap.size W0 wt) => cellB h g4 z1
    have qq5 := fun wt (h : Below W0.heap.size W0 wt) => cellB h d0 zb
    have qq6 := fun wt (h : Below W0.heap.size W0 wt) => cellB h d1 zb
    have qq7 := fun wt (h : Below W0.heap.size W0 wt) => cellB h d2 zb
    have qq8 := fun wt (h : Below W0.heap.size W0 wt) => cellB h d3 zb
    have qq9 := fun wt (h : Below W0.heap.size W0 wt) => cellB h d4 zb
    refine wp_region_held_drew (S := (fun w' => Below W0.heap.size W0 w')) (by kernel_rfl) ?_ (fun hHeld => ?_)
    · (try dsimp only); first | assumption | exact Below.alloc hHeld hHeld.size _ | exact (Below.refl _ _).drew | exact Below.drew (Below.refl _ _) | exact Below_drewN _ _ _ | exact Below.refl _ _
    refine tk 0 (v := ?_) (hy := ?_) (h := ?_); rotate_left
    · intro wt hSw; (try dsimp only at hSw); go_simp <;> with_reducible rfl
    try simp only [pu, pa, pz, ps]
    refine tk 1 (v := ?_) (hy := ?_) (h := ?_); rotate_left
    · intro _ _; go_simp <;> with_reducible rfl
    try simp only [pu, pa, pz, ps]
    refine tk 2 (v := ?_) (hy := ?_) (h := ?_); rotate_left
    · intro wt hSw; (try dsimp only at hSw); go_simp <;> with_reducible rfl
    try simp only [pu, pa, pz, ps]
    refine tk 3 (v := ?_) (hy := ?_) (h := ?_); rotate_left
    · intro _ _; go_simp <;> with_reducible rfl
    try simp only [pu, pa, pz, ps]
    refine tk 4 (v := ?_) (hy := ?_) (h := ?_); rotate_left
    · intro wt hSw; (try dsimp only at hSw); go_simp <;> with_reducible rfl
    try simp only [pu, pa, pz, ps]
    refine wpAnyH_ready (rs := [5]) (by kernel_rfl) (by simp) ?_
    refine AllReadyH.cons (o := ⟨_, _, _, _, _, _⟩) rfl (fun K hK => ?_) AllReadyH.nil
    go_simp
    refine (HXc.out _ trivial hHeld).mono ?_; rintro r w2 ⟨rfl, hb⟩; have hHeld := hHeld.trans (hb.mono hHeld.size)
    go_wp2_with fail
    refine hK.out _ _ ?_ (fun hHeld => ?_)
    · (try dsimp only); first | assumption | exact Below.alloc hHeld hHeld.size _ | exact (Below.refl _ _).drew | exact Below.drew (Below.refl _ _) | exact Below_drewN _ _ _ | exact Below.refl _ _
    clear hK K
    try simp only [pu, pa, pz, ps]
    refine tk 6 (v := ?_) (hy := ?_) (h := ?_); rotate_left
    · intro _ _; go_simp <;> with_reducible rfl
    try simp only [pu, pa, pz, ps]
    refine wpAnyH_done (by kernel_rfl) ?_ _
    have HHw := Lib.hid (HB0.out.trans (hHeld.mono HB0.out.size))
    have g0 := cellB hHeld g0 z1
    have g1 := cellB hHeld g1 z1
    have g2 := cellB hHeld g2 z1
    have g3 := cellB hHeld g3 z1
    have g4 := cellB hHeld g4 z1
    clear hHeld s0 s1 s2 s3 d0 d1 d2 d3 d4
    go_wp2_with fail
    refine (hK0 _).mono ?_; rintro r w2 ⟨rfl, rfl⟩
    go_wp2_with fail
    go_ret
    exact ⟨by rw [hres.out]; rfl, HHw.out⟩
  have e5 : (op == 5) = false := by simpa using h5
  by_cases h7 : op = 7
  · subst h7
    have hres := Lib.hid (show Z = 0 by rw [← HZ.out]; unfold singleT; simp [hT])
    clear hT h8 h6 o2 o4
    go_enter Tryd.func38, Tryd.ntmps38
    go_upto_region 5 with fail
    rw [← HW0.out]
    have qq0 := fun wt (h : Below W0.heap.size W0 wt) => cellB h s0 z0
    have qq1 := fun wt (h : Below W0.heap.size W0 wt) => cellB h s1 z0
    have qq2 := fun wt (h : Below W0.heap.size W0 wt) => cellB h s2 z0
    have qq3 := fun wt (h : Below W0.heap.size W0 wt) => cellB h s3 z0
    have qq4 := fun wt (h : Below W0.heap.size W0 wt) => cellB h g4 z1
    have qq5 := fun wt (h : Below W0.heap.size W0 wt) => cellB h d0 zb
    have qq6 := fun wt (h : Below W0.heap.size W0 wt) => cellB h d1 zb
    have qq7 := fun wt (h : Below W0.heap.size W0 wt) => cellB h d2 zb
    have qq8 := fun wt (h : Below W0.heap.size W0 wt) => cellB h d3 zb
    have qq9 := fun wt (h : Below W0.heap.size W0 wt) => cellB h d4 zb
    refine wp_region_held_drew (S := (fun w' => Below W0.heap.size W0 w')) (by kernel_rfl) ?_ (fun hHeld => ?_)
    · (try dsimp only); first | assumption | exact Below.alloc hHeld hHeld.size _ | exact (Below.refl _ _).drew | exact Below.drew (Below.refl _ _) | exact Below_drewN _ _ _ | exact Below.refl _ _
    refine tk 0 (v := ?_) (hy := ?_) (h := ?_); rotate_left
    · intro wt hSw; (try dsimp only at hSw); go_simp <;> with_reducible rfl
    try simp only [pu, pa, pz, ps]
    refine tk 1 (v := ?_) (hy := ?_) (h := ?_); rotate_left
    · intro _ _; go_simp <;> with_reducible rfl
    try simp only [pu, pa, pz, ps]
    refine tk 2 (v := ?_) (hy := ?_) (h := ?_); rotate_left
    · intro wt hSw; (try dsimp only at hSw); go_simp <;> with_reducible rfl
    try simp only [pu, pa, pz, ps]
    refine tk 3 (v := ?_) (hy := ?_) (h := ?_); rotate_left
    · intro _ _; go_simp <;> with_reducible rfl
    try simp only [pu, pa, pz, ps]
    refine tk 4 (v := ?_) (hy := ?_) (h := ?_); rotate_left
    · intro wt hSw; (try dsimp only at hSw); go_simp <;> with_reducible rfl
    try simp only [pu, pa, pz, ps]
    refine wpAnyH_ready (rs := [5]) (by kernel_rfl) (by simp) ?_
    refine AllReadyH.cons (o := ⟨_, _, _, _, _, _⟩) rfl (fun K hK => ?_) AllReadyH.nil
    go_simp
    refine (HXc.out _ trivial hHeld).mono ?_; rintro r w2 ⟨rfl, hb⟩; have hHeld := hHeld.trans (hb.mono hHeld.size)
    go_wp2_with fail
    refine hK.out _ _ ?_ (fun hHeld => ?_)
    · (try dsimp only); first | assumption | exact Below.alloc hHeld hHeld.size _ | exact (Below.refl _ _).drew | exact Below.drew (Below.refl _ _) | exact Below_drewN _ _ _ | exact Below.refl _ _
    clear hK K
    try simp only [pu, pa, pz, ps]
    refine tk 6 (v := ?_) (hy := ?_) (h := ?_); rotate_left
    · intro _ _; go_simp <;> with_reducible rfl
    try simp only [pu, pa, pz, ps]
    refine wpAnyH_done (by kernel_rfl) ?_ _
    have HHw := Lib.hid (HB0.out.trans (hHeld.mono HB0.out.size))
    have g0 := cellB hHeld g0 z1
    have g1 := cellB hHeld g1 z1
    have g2 := cellB hHeld g2 z1
    have g3 := cellB hHeld g3 z1
    have g4 := cellB hHeld g4 z1
    clear hHeld s0 s1 s2 s3 d0 d1 d2 d3 d4
    go_wp2_with fail
    refine (hK0 _).mono ?_; rintro r w2 ⟨rfl, rfl⟩
    go_wp2_with fail
    go_ret
    exact ⟨by rw [hres.out]; rfl, HHw.out⟩
  have e7 : (op == 7) = false := by simpa using h7
  have hres := Lib.hid (show Z = 0 by rw [← HZ.out]; unfold singleT; simp [hT, h8, h6, o4])
  clear hT h8 h6 o2 o4 h1 h3 h5 h7
  go_enter Tryd.func38, Tryd.ntmps38
  go_upto_region 5 with fail
  rw [← HW0.out]
  have qq0 := fun wt (h : Below W0.heap.size W0 wt) => cellB h s0 z0
  have qq1 := fun wt (h : Below W0.heap.size W0 wt) => cellB h s1 z0
  have qq2 := fun wt (h : Below W0.heap.size W0 wt) => cellB h s2 z0
  have qq3 := fun wt (h : Below W0.heap.size W0 wt) => cellB h s3 z0
  have qq4 := fun wt (h : Below W0.heap.size W0 wt) => cellB h g4 z1
  have qq5 := fun wt (h : Below W0.heap.size W0 wt) => cellB h d0 zb
  have qq6 := fun wt (h : Below W0.heap.size W0 wt) => cellB h d1 zb
  have qq7 := fun wt (h : Below W0.heap.size W0 wt) => cellB h d2 zb
  have qq8 := fun wt (h : Below W0.heap.size W0 wt) => cellB h d3 zb
  have qq9 := fun wt (h : Below W0.heap.size W0 wt) => cellB h d4 zb
  refine wp_region_held_drew (S := (fun w' => Below W0.heap.size W0 w')) (by kernel_rfl) ?_ (fun hHeld => ?_)
  · (try dsimp only); first | assumption | exact Below.alloc hHeld hHeld.size _ | exact (Below.refl _ _).drew | exact Below.drew (Below.refl _ _) | exact Below_drewN _ _ _ | exact Below.refl _ _
  refine tk 0 (v := ?_) (hy := ?_) (h := ?_); rotate_left
  · intro wt hSw; (try dsimp only at hSw); go_simp <;> with_reducible rfl
  try simp only [pu, pa, pz, ps]
  refine tk 1 (v := ?_) (hy := ?_) (h := ?_); rotate_left
  · intro _ _; go_simp <;> with_reducible rfl
  try simp only [pu, pa, pz, ps]
  refine tk 2 (v := ?_) (hy := ?_) (h := ?_); rotate_left
  · intro wt hSw; (try dsimp only at hSw); go_simp <;> with_reducible rfl
  try simp only [pu, pa, pz, ps]
  refine tk 3 (v := ?_) (hy := ?_) (h := ?_); rotate_left
  · intro _ _; go_simp <;> with_reducible rfl
  try simp only [pu, pa, pz, ps]
  refine tk 4 (v := ?_) (hy := ?_) (h := ?_); rotate_left
  · intro wt hSw; (try dsimp only at hSw); go_simp <;> with_reducible rfl
  try simp only [pu, pa, pz, ps]
  refine wpAnyH_ready (rs := [5]) (by kernel_rfl) (by simp) ?_
  refine AllReadyH.cons (o := ⟨_, _, _, _, _, _⟩) rfl (fun K hK => ?_) AllReadyH.nil
  go_simp
  refine (HXc.out _ trivial hHeld).mono ?_; rintro r w2 ⟨rfl, hb⟩; have hHeld := hHeld.trans (hb.mono hHeld.size)
  go_wp2_with fail
  refine hK.out _ _ ?_ (fun hHeld => ?_)
  · (try dsimp only); first | assumption | exact Below.alloc hHeld hHeld.size _ | exact (Below.refl _ _).drew | exact Below.drew (Below.refl _ _) | exact Below_drewN _ _ _ | exact Below.refl _ _
  clear hK K
  try simp only [pu, pa, pz, ps]
  refine tk 6 (v := ?_) (hy := ?_) (h := ?_); rotate_left
  · intro _ _; go_simp <;> with_reducible rfl
  try simp only [pu, pa, pz, ps]
  refine wpAnyH_done (by kernel_rfl) ?_ _
  have HHw := Lib.hid (HB0.out.trans (hHeld.mono HB0.out.size))
  have g0 := cellB hHeld g0 z1
  have g1 := cellB hHeld g1 z1
  have g2 := cellB hHeld g2 z1
  have g3 := cellB hHeld g3 z1
  have g4 := cellB hHeld g4 z1
  clear hHeld s0 s1 s2 s3 d0 d1 d2 d3 d4
  go_wp2_with fail
  refine (hK0 _).mono ?_; rintro r w2 ⟨rfl, rfl⟩
  go_wp2_with fail
  go_ret
  exact ⟨by rw [hres.out]; rfl, HHw.out⟩
end Go.Proofs.YtknbomikiakpmaaDoor
/- Layer 26: the document's Type, of an expression with none within it. -/
namespace Go.Proofs.YtknbomikiakpmaaDoor
open Go.RowKit
set_option linter.unusedSimpArgs false
set_option linter.unusedVariables false
set_option maxRecDepth 100000 in
set_option maxHeartbeats 8000000 in
theorem ref26_Type0Two (a b c d : Value) (s : Sc) (op t n m : Int) (h2 : op = 2) (v : Value) (w : World) (hs : ScAt w a b d s) (hv : ExV w v ⟨op, t, n, m, []⟩) : Calls Tryd.prog 38 #[.agg #[a, b, c, d], v] w fun r w' => r = .returned (.int .i64 (leafT s ⟨op, t, n, m, []⟩)) ∧ Below w.heap.size w w' := by
  obtain ⟨sl, rfl, _, hrl⟩ := hv
  obtain ⟨al, cl, rfl⟩ := row_get hrl
  have HS := Lib.hid (fun W (h : Below w.heap.size w W) => hs.below h)
  obtain ⟨sa, ca, rfl⟩ := row_get hs.vs
  obtain ⟨sb, cb, rfl⟩ := row_get hs.bs
  obtain ⟨sd, cd, rfl⟩ := row_get hs.ss
  obtain ⟨NV, hNV⟩ : ∃ N, s.vars.length = N := ⟨_, rfl⟩
  obtain ⟨NB, hNB⟩ : ∃ N, s.blocks.length = N := ⟨_, rfl⟩
  obtain ⟨NS, hNS⟩ : ∃ N, s.slots.length = N := ⟨_, rfl⟩
  have HNV := Lib.hid hNV
  have HNB := Lib.hid hNB
  have HNS := Lib.hid hNS
  have hlv := hs.vs.len
  have hlb := hs.bs.len
  have hls := hs.ss.len
  simp only [List.length_nil] at HS ⊢
  rw [hNV, hNB, hNS] at HS
  rw [hNV] at hlv ⊢
  rw [hNB] at hlb ⊢
  rw [hNS] at hls ⊢
  clear hs hNV hNB hNS hrl
  have hK0 := ref01_Right 0
  rw [show kRight 0 = false from rfl] at hK0
  have hKt := ref01_Right t
  have HW := Lib.hid (show ∀ W, W = (w.alloc (.cells #[.slice sa NV ca, .slice sb NB cb, c, .slice sd NS cd] 43)).alloc (.cells #[.int .i64 op, .int .i64 t, .int .i64 n, .int .i64 m, .slice al 0 cl] 37) → Below w.heap.size w W ∧ W.heap[w.heap.size]? = some (.cells #[.slice sa NV ca, .slice sb NB cb, c, .slice sd NS cd] 43) ∧ W.heap[w.heap.size + 1]? = some (.cells #[.int .i64 op, .int .i64 t, .int .i64 n, .int .i64 m, .slice al 0 cl] 37) from by
    rintro W rfl
    refine ⟨by (repeat' (first | (with_reducible exact Below.refl _ _) | (with_reducible assumption) | (with_reducible refine below_drewN ?_ _) | (with_reducible refine Below.alloc ?_ ?_ _) | (with_reducible refine Below.drew ?_) | (with_reducible refine Below.setCell ?_ ?_ _) | go_size)), ?_, get_last (by simp)⟩
    rw [get_past (by simp)]; exact get_last rfl)
  · subst h2
    obtain ⟨W0, hW0⟩ : ∃ W0, W0 = (w.alloc (.cells #[.slice sa NV ca, .slice sb NB cb, c, .slice sd NS cd] 43)).alloc (.cells #[.int .i64 2, .int .i64 t, .int .i64 n, .int .i64 m, .slice al 0 cl] 37) := ⟨_, rfl⟩
    obtain ⟨hbW, ho0, ho1⟩ := HW.out W0 hW0
    have HW0 := Lib.hid hW0
    have HB0 := Lib.hid hbW
    have z0 := heap_lt ho0
    have z1 := heap_lt ho1
    have s0 : W0.cell? ⟨w.heap.size, 0, none⟩ = some (.slice sa NV ca) := obj_cell ho0 (i := 0) rfl
    have g0 : W0.cell? ⟨w.heap.size + 1, 0, none⟩ = some (.int .i64 2) := obj_cell ho1 (i := 0) rfl
    have g1 : W0.cell? ⟨w.heap.size + 1, 1, none⟩ = some (.int .i64 t) := obj_cell ho1 (i := 1) rfl
    have g2 : W0.cell? ⟨w.heap.size + 1, 2, none⟩ = some (.int .i64 n) := obj_cell ho1 (i := 2) rfl
    have g3 : W0.cell? ⟨w.heap.size + 1, 3, none⟩ = some (.int .i64 m) := obj_cell ho1 (i := 3) rfl
    clear hW0 hbW ho0 ho1 hKt HW
    by_cases h0 : t = 0
    case neg =>
      have e0 : (t == 0) = false := by simpa using h0
      have hres := Lib.hid (show leafT s ⟨2, t, n, m, []⟩ = 0 by unfold leafT; simp [h0])
      clear h0
      go_enter Tryd.func38, Tryd.ntmps38
      go_upto_region 17 with fail
      rw [← HW0.out]
      have qq0 := fun wt (h : Below W0.heap.size W0 wt) => cellB h s0 z0
      have qq1 := fun wt (h : Below W0.heap.size W0 wt) => cellB h g0 z1
      have qq2 := fun wt (h : Below W0.heap.size W0 wt) => cellB h g1 z1
      have qq3 := fun wt (h : Below W0.heap.size W0 wt) => cellB h g2 z1
      have qq4 := fun wt (h : Below W0.heap.size W0 wt) => cellB h g3 z1
      refine wp_region_held_drew (S := (fun w' => Below W0.heap.size W0 w')) (by kernel_rfl) ?_ (fun hHeld => ?_)
      · (try dsimp only); first | assumption | exact Below.alloc hHeld hHeld.size _ | exact (Below.refl _ _).drew | exact Below.drew (Below.refl _ _) | exact Below_drewN _ _ _ | exact Below.refl _ _
      refine tk 0 (v := ?_) (hy := ?_) (h := ?_); rotate_left
      · intro _ _; go_simp <;> with_reducible rfl
      try simp only [pu, pa, pz, ps]
      refine tk 1 (v := ?_) (hy := ?_) (h := ?_); rotate_left
      · intro _ _; go_simp <;> with_reducible rfl
      try simp only [pu, pa, pz, ps]
      refine tk 2 (v := ?_) (hy := ?_) (h := ?_); rotate_left
      · intro wt hSw; (try dsimp only at hSw); go_simp <;> with_reducible rfl
      try simp only [pu, pa, pz, ps]
      refine tk 3 (v := ?_) (hy := ?_) (h := ?_); rotate_left
      · intro _ _; go_simp <;> with_reducible rfl
      try simp only [pu, pa, pz, ps]
      refine tk 4 (v := ?_) (hy := ?_) (h := ?_); rotate_left
      · intro _ _; go_simp <;> with_reducible rfl
      try simp only [pu, pa, pz, ps]
      refine tk 5 (v := ?_) (hy := ?_) (h := ?_); rotate_left
      · intro _ _; go_simp <;> with_reducible rfl
      try simp only [pu, pa, pz, ps]
      refine tk 6 (v := ?_) (hy := ?_) (h := ?_); rotate_left
      · intro _ _; go_simp <;> with_reducible rfl
      try simp only [pu, pa, pz, ps]
      refine tk 7 (v := ?_) (hy := ?_) (h := ?_); rotate_left
      · intro _ _; go_simp <;> with_reducible rfl
      try simp only [pu, pa, pz, ps]
      refine tk 8 (v := ?_) (hy := ?_) (h := ?_); rotate_left
      · intro wt hSw; (try dsimp only at hSw); go_simp <;> with_reducible rfl
      try simp only [pu, pa, pz, ps]
      refine tk 9 (v := ?_) (hy := ?_) (h := ?_); rotate_left
      · intro _ _; go_simp <;> with_reducible rfl
      try simp only [pu, pa, pz, ps]
      refine tk 10 (v := ?_) (hy := ?_) (h := ?_); rotate_left
      · intro _ _; go_simp <;> with_reducible rfl
      try simp only [pu, pa, pz, ps]
      refine tk 11 (v := ?_) (hy := ?_) (h := ?_); rotate_left
      · intro _ _; go_simp <;> with_reducible rfl
      try simp only [pu, pa, pz, ps]
      refine sk 12 (h := ?_)
      try simp only [pu, pa, pz, ps]
      refine sk 13 (h := ?_)
      try simp only [pu, pa, pz, ps]
      refine sk 14 (h := ?_)
      try simp only [pu, pa, pz, ps]
      refine tk 15 (v := ?_) (hy := ?_) (h := ?_); rotate_left
      · intro _ _; go_simp <;> with_reducible rfl
      try simp only [pu, pa, pz, ps]
      refine tk 16 (v := ?_) (hy := ?_) (h := ?_); rotate_left
      · intro _ _; go_simp <;> with_reducible rfl
      try simp only [pu, pa, pz, ps]
      refine sk 17 (h := ?_)
      try simp only [pu, pa, pz, ps]
      refine sk 18 (h := ?_)
      try simp only [pu, pa, pz, ps]
      refine sk 19 (h := ?_)
      try simp only [pu, pa, pz, ps]
      refine tk 20 (v := ?_) (hy := ?_) (h := ?_); rotate_left
      · intro _ _; go_simp <;> with_reducible rfl
      try simp only [pu, pa, pz, ps]
      refine tk 21 (v := ?_) (hy := ?_) (h := ?_); rotate_left
      · intro _ _; go_simp <;> with_reducible rfl
      try simp only [pu, pa, pz, ps]
      refine sk 22 (h := ?_)
      try simp only [pu, pa, pz, ps]
      refine sk 23 (h := ?_)
      try simp only [pu, pa, pz, ps]
      refine sk 24 (h := ?_)
      try simp only [pu, pa, pz, ps]
      refine sk 25 (h := ?_)
      try simp only [pu, pa, pz, ps]
      refine sk 26 (h := ?_)
      try simp only [pu, pa, pz, ps]
      refine sk 27 (h := ?_)
      try simp only [pu, pa, pz, ps]
      refine tk 28 (v := ?_) (hy := ?_) (h := ?_); rotate_left
      · intro _ _; go_simp <;> with_reducible rfl
      try simp only [pu, pa, pz, ps]
      refine tk 29 (v := ?_) (hy := ?_) (h := ?_); rotate_left
      · intro _ _; go_simp <;> with_reducible rfl
      try simp only [pu, pa, pz, ps]
      refine sk 30 (h := ?_)
      try simp only [pu, pa, pz, ps]
      refine sk 31 (h := ?_)
      try simp only [pu, pa, pz, ps]
      refine sk 32 (h := ?_)
      try simp only [pu, pa, pz, ps]
      refine sk 33 (h := ?_)
      try simp only [pu, pa, pz, ps]
      refine sk 34 (h := ?_)
      try simp only [pu, pa, pz, ps]
      refine sk 35 (h := ?_)
      try simp only [pu, pa, pz, ps]
      refine sk 36 (h := ?_)
      try simp only [pu, pa, pz, ps]
      refine sk 37 (h := ?_)
      try simp only [pu, pa, pz, ps]
      refine sk 38 (h := ?_)
      try simp only [pu, pa, pz, ps]
      refine sk 39 (h := ?_)
      try simp only [pu, pa, pz, ps]
      refine sk 40 (h := ?_)
      try simp only [pu, pa, pz, ps]
      refine sk 41 (h := ?_)
      try simp only [pu, pa, pz, ps]
      refine tk 42 (v := ?_) (hy := ?_) (h := ?_); rotate_left
      · intro _ _; go_simp <;> with_reducible rfl
      try simp only [pu, pa, pz, ps]
      refine tk 43 (v := ?_) (hy := ?_) (h := ?_); rotate_left
      · intro _ _; go_simp <;> with_reducible rfl
      try simp only [pu, pa, pz, ps]
      refine sk 44 (h := ?_)
      try simp only [pu, pa, pz, ps]
      refine sk 45 (h := ?_)
      try simp only [pu, pa, pz, ps]
      refine sk 46 (h := ?_)
      try simp only [pu, pa, pz, ps]
      refine sk 47 (h := ?_)
      try simp only [pu, pa, pz, ps]
      refine sk 48 (h := ?_)
      try simp only [pu, pa, pz, ps]
      refine sk 49 (h := ?_)
      try simp only [pu, pa, pz, ps]
      refine tk 50 (v := ?_) (hy := ?_) (h := ?_); rotate_left
      · intro _ _; go_simp <;> with_reducible rfl
      try simp only [pu, pa, pz, ps]
      refine wpAnyH_done (by kernel_rfl) ?_ _
      have HHw := Lib.hid (HB0.out.trans (hHeld.mono HB0.out.size))
      have s0 := cellB hHeld s0 z0
      have g2 := cellB hHeld g2 z1
      clear hHeld
      go_wp2_with fail
      refine (hK0 _).mono ?_; rintro r w2 ⟨rfl, rfl⟩
      go_wp2_with fail
      go_ret
      exact ⟨by rw [hres.out]; rfl, HHw.out⟩
    subst h0
    by_cases hm : m = 0
    case neg =>
      have em : (m == 0) = false := by simpa using hm
      have hres := Lib.hid (show leafT s ⟨2, 0, n, m, []⟩ = 0 by unfold leafT; simp [hm])
      clear hm
      go_enter Tryd.func38, Tryd.ntmps38
      go_upto_region 17 with fail
      rw [← HW0.out]
      have qq0 := fun wt (h : Below W0.heap.size W0 wt) => cellB h s0 z0
      have qq1 := fun wt (h : Below W0.heap.size W0 wt) => cellB h g0 z1
      have qq2 := fun wt (h : Below W0.heap.size W0 wt) => cellB h g1 z1
      have qq3 := fun wt (h : Below W0.heap.size W0 wt) => cellB h g2 z1
      have qq4 := fun wt (h : Below W0.heap.size W0 wt) => cellB h g3 z1
      refine wp_region_held_drew (S := (fun w' => Below W0.heap.size W0 w')) (by kernel_rfl) ?_ (fun hHeld => ?_)
      · (try dsimp only); first | assumption | exact Below.alloc hHeld hHeld.size _ | exact (Below.refl _ _).drew | exact Below.drew (Below.refl _ _) | exact Below_drewN _ _ _ | exact Below.refl _ _
      refine tk 0 (v := ?_) (hy := ?_) (h := ?_); rotate_left
      · intro _ _; go_simp <;> with_reducible rfl
      try simp only [pu, pa, pz, ps]
      refine tk 1 (v := ?_) (hy := ?_) (h := ?_); rotate_left
      · intro _ _; go_simp <;> with_reducible rfl
      try simp only [pu, pa, pz, ps]
      refine tk 2 (v := ?_) (hy := ?_) (h := ?_); rotate_left
      · intro wt hSw; (try dsimp only at hSw); go_simp <;> with_reducible rfl
      try simp only [pu, pa, pz, ps]
      refine tk 3 (v := ?_) (hy := ?_) (h := ?_); rotate_left
      · intro _ _; go_simp <;> with_reducible rfl
      try simp only [pu, pa, pz, ps]
      refine tk 4 (v := ?_) (hy := ?_) (h := ?_); rotate_left
      · intro _ _; go_simp <;> with_reducible rfl
      try simp only [pu, pa, pz, ps]
      refine tk 5 (v := ?_) (hy := ?_) (h := ?_); rotate_left
      · intro _ _; go_simp <;> with_reducible rfl
      try simp only [pu, pa, pz, ps]
      refine tk 6 (v := ?_) (hy := ?_) (h := ?_); rotate_left
      · intro _ _; go_simp <;> with_reducible rfl
      try simp only [pu, pa, pz, ps]
      refine tk 7 (v := ?_) (hy := ?_) (h := ?_); rotate_left
      · intro _ _; go_simp <;> with_reducible rfl
      try simp only [pu, pa, pz, ps]
      refine tk 8 (v := ?_) (hy := ?_) (h := ?_); rotate_left
      · intro wt hSw; (try dsimp only at hSw); go_simp <;> with_reducible rfl
      try simp only [pu, pa, pz, ps]
      refine tk 9 (v := ?_) (hy := ?_) (h := ?_); rotate_left
      · intro _ _; go_simp <;> with_reducible rfl
      try simp only [pu, pa, pz, ps]
      refine tk 10 (v := ?_) (hy := ?_) (h := ?_); rotate_left
      · intro _ _; go_simp <;> with_reducible rfl
      try simp only [pu, pa, pz, ps]
      refine tk 11 (v := ?_) (hy := ?_) (h := ?_); rotate_left
      · intro _ _; go_simp <;> with_reducible rfl
      try simp only [pu, pa, pz, ps]
      refine tk 12 (v := ?_) (hy := ?_) (h := ?_); rotate_left
      · intro _ _; go_simp <;> with_reducible rfl
      try simp only [pu, pa, pz, ps]
      refine tk 13 (v := ?_) (hy := ?_) (h := ?_); rotate_left
      · intro wt hSw; (try dsimp only at hSw); go_simp <;> with_reducible rfl
      try simp only [pu, pa, pz, ps]
      refine tk 14 (v := ?_) (hy := ?_) (h := ?_); rotate_left
      · intro _ _; go_simp <;> with_reducible rfl
      try simp only [pu, pa, pz, ps]
      refine tk 15 (v := ?_) (hy := ?_) (h := ?_); rotate_left
      · intro _ _; go_simp <;> with_reducible rfl
      try simp only [pu, pa, pz, ps]
      refine tk 16 (v := ?_) (hy := ?_) (h := ?_); rotate_left
      · intro _ _; go_simp <;> with_reducible rfl
      try simp only [pu, pa, pz, ps]
      refine sk 17 (h := ?_)
      try simp only [pu, pa, pz, ps]
      refine sk 18 (h := ?_)
      try simp only [pu, pa, pz, ps]
      refine sk 19 (h := ?_)
      try simp only [pu, pa, pz, ps]
      refine tk 20 (v := ?_) (hy := ?_) (h := ?_); rotate_left
      · intro _ _; go_simp <;> with_reducible rfl
      try simp only [pu, pa, pz, ps]
      refine tk 21 (v := ?_) (hy := ?_) (h := ?_); rotate_left
      · intro _ _; go_simp <;> with_reducible rfl
      try simp only [pu, pa, pz, ps]
      refine sk 22 (h := ?_)
      try simp only [pu, pa, pz, ps]
      refine sk 23 (h := ?_)
      try simp only [pu, pa, pz, ps]
      refine sk 24 (h := ?_)
      try simp only [pu, pa, pz, ps]
      refine sk 25 (h := ?_)
      try simp only [pu, pa, pz, ps]
      refine sk 26 (h := ?_)
      try simp only [pu, pa, pz, ps]
      refine sk 27 (h := ?_)
      try simp only [pu, pa, pz, ps]
      refine tk 28 (v := ?_) (hy := ?_) (h := ?_); rotate_left
      · intro _ _; go_simp <;> with_reducible rfl
      try simp only [pu, pa, pz, ps]
      refine tk 29 (v := ?_) (hy := ?_) (h := ?_); rotate_left
      · intro _ _; go_simp <;> with_reducible rfl
      try simp only [pu, pa, pz, ps]
      refine sk 30 (h := ?_)
      try simp only [pu, pa, pz, ps]
      refine sk 31 (h := ?_)
      try simp only [pu, pa, pz, ps]
      refine sk 32 (h := ?_)
      try simp only [pu, pa, pz, ps]
      refine sk 33 (h := ?_)
      try simp only [pu, pa, pz, ps]
      refine sk 34 (h := ?_)
      try simp only [pu, pa, pz, ps]
      refine sk 35 (h := ?_)
      try simp only [pu, pa, pz, ps]
      refine sk 36 (h := ?_)
      try simp only [pu, pa, pz, ps]
      refine sk 37 (h := ?_)
      try simp only [pu, pa, pz, ps]
      refine sk 38 (h := ?_)
      try simp only [pu, pa, pz, ps]
      refine sk 39 (h := ?_)
      try simp only [pu, pa, pz, ps]
      refine sk 40 (h := ?_)
      try simp only [pu, pa, pz, ps]
      refine sk 41 (h := ?_)
      try simp only [pu, pa, pz, ps]
      refine tk 42 (v := ?_) (hy := ?_) (h := ?_); rotate_left
      · intro _ _; go_simp <;> with_reducible rfl
      try simp only [pu, pa, pz, ps]
      refine tk 43 (v := ?_) (hy := ?_) (h := ?_); rotate_left
      · intro _ _; go_simp <;> with_reducible rfl
      try simp only [pu, pa, pz, ps]
      refine sk 44 (h := ?_)
      try simp only [pu, pa, pz, ps]
      refine sk 45 (h := ?_)
      try simp only [pu, pa, pz, ps]
      refine sk 46 (h := ?_)
      try simp only [pu, pa, pz, ps]
      refine sk 47 (h := ?_)
      try simp only [pu, pa, pz, ps]
      refine sk 48 (h := ?_)
      try simp only [pu, pa, pz, ps]
      refine sk 49 (h := ?_)
      try simp only [pu, pa, pz, ps]
      refine tk 50 (v := ?_) (hy := ?_) (h := ?_); rotate_left
      · intro _ _; go_simp <;> with_reducible rfl
      try simp only [pu, pa, pz, ps]
      refine wpAnyH_done (by kernel_rfl) ?_ _
      have HHw := Lib.hid (HB0.out.trans (hHeld.mono HB0.out.size))
      have s0 := cellB hHeld s0 z0
      have g2 := cellB hHeld g2 z1
      clear hHeld
      go_wp2_with fail
      refine (hK0 _).mono ?_; rintro r w2 ⟨rfl, rfl⟩
      go_wp2_with fail
      go_ret
      exact ⟨by rw [hres.out]; rfl, HHw.out⟩
    subst hm
    by_cases hn : 0 ≤ n
    case neg =>
      have en : (0 ≤ n) = False := eq_false hn
      have hin : inb n NV = false := decide_eq_false (fun h => hn h.1)
      have hres := Lib.hid (show leafT s ⟨2, 0, n, 0, []⟩ = 0 by unfold leafT; simp [HNV.out, hin])
      clear hn hin
      go_enter Tryd.func38, Tryd.ntmps38
      go_upto_region 17 with fail
      rw [← HW0.out]
      have qq0 := fun wt (h : Below W0.heap.size W0 wt) => cellB h s0 z0
      have qq1 := fun wt (h : Below W0.heap.size W0 wt) => cellB h g0 z1
      have qq2 := fun wt (h : Below W0.heap.size W0 wt) => cellB h g1 z1
      have qq3 := fun wt (h : Below W0.heap.size W0 wt) => cellB h g2 z1
      have qq4 := fun wt (h : Below W0.heap.size W0 wt) => cellB h g3 z1
      refine wp_region_held_drew (S := (fun w' => Below W0.heap.size W0 w')) (by kernel_rfl) ?_ (fun hHeld => ?_)
      · (try dsimp only); first | assumption | exact Below.alloc hHeld hHeld.size _ | exact (Below.refl _ _).drew | exact Below.drew (Below.refl _ _) | exact Below_drewN _ _ _ | exact Below.refl _ _
      refine tk 0 (v := ?_) (hy := ?_) (h := ?_); rotate_left
      · intro _ _; go_simp <;> with_reducible rfl
      try simp only [pu, pa, pz, ps]
      refine tk 1 (v := ?_) (hy := ?_) (h := ?_); rotate_left
      · intro _ _; go_simp <;> with_reducible rfl
      try simp only [pu, pa, pz, ps]
      refine tk 2 (v := ?_) (hy := ?_) (h := ?_); rotate_left
      · intro wt hSw; (try dsimp only at hSw); go_simp <;> with_reducible rfl
      try simp only [pu, pa, pz, ps]
      refine tk 3 (v := ?_) (hy := ?_) (h := ?_); rotate_left
      · intro _ _; go_simp <;> with_reducible rfl
      try simp only [pu, pa, pz, ps]
      refine tk 4 (v := ?_) (hy := ?_) (h := ?_); rotate_left
      · intro _ _; go_simp <;> with_reducible rfl
      try simp only [pu, pa, pz, ps]
      refine tk 5 (v := ?_) (hy := ?_) (h := ?_); rotate_left
      · intro _ _; go_simp <;> with_reducible rfl
      try simp only [pu, pa, pz, ps]
      refine tk 6 (v := ?_) (hy := ?_) (h := ?_); rotate_left
      · intro _ _; go_simp <;> with_reducible rfl
      try simp only [pu, pa, pz, ps]
      refine tk 7 (v := ?_) (hy := ?_) (h := ?_); rotate_left
      · intro _ _; go_simp <;> with_reducible rfl
      try simp only [pu, pa, pz, ps]
      refine tk 8 (v := ?_) (hy := ?_) (h := ?_); rotate_left
      · intro wt hSw; (try dsimp only at hSw); go_simp <;> with_reducible rfl
      try simp only [pu, pa, pz, ps]
      refine tk 9 (v := ?_) (hy := ?_) (h := ?_); rotate_left
      · intro _ _; go_simp <;> with_reducible rfl
      try simp only [pu, pa, pz, ps]
      refine tk 10 (v := ?_) (hy := ?_) (h := ?_); rotate_left
      · intro _ _; go_simp <;> with_reducible rfl
      try simp only [pu, pa, pz, ps]
      refine tk 11 (v := ?_) (hy := ?_) (h := ?_); rotate_left
      · intro _ _; go_simp <;> with_reducible rfl
      try simp only [pu, pa, pz, ps]
      refine tk 12 (v := ?_) (hy := ?_) (h := ?_); rotate_left
      · intro _ _; go_simp <;> with_reducible rfl
      try simp only [pu, pa, pz, ps]
      refine tk 13 (v := ?_) (hy := ?_) (h := ?_); rotate_left
      · intro wt hSw; (try dsimp only at hSw); go_simp <;> with_reducible rfl
      try simp only [pu, pa, pz, ps]
      refine tk 14 (v := ?_) (hy := ?_) (h := ?_); rotate_left
      · intro _ _; go_simp <;> with_reducible rfl
      try simp only [pu, pa, pz, ps]
      refine tk 15 (v := ?_) (hy := ?_) (h := ?_); rotate_left
      · intro _ _; go_simp <;> with_reducible rfl
      try simp only [pu, pa, pz, ps]
      refine tk 16 (v := ?_) (hy := ?_) (h := ?_); rotate_left
      · intro _ _; go_simp <;> with_reducible rfl
      try simp only [pu, pa, pz, ps]
      refine tk 17 (v := ?_) (hy := ?_) (h := ?_); rotate_left
      · intro _ _; go_simp <;> with_reducible rfl
      try simp only [pu, pa, pz, ps]
      refine tk 18 (v := ?_) (hy := ?_) (h := ?_); rotate_left
      · intro wt hSw; (try dsimp only at hSw); go_simp <;> with_reducible rfl
      try simp only [pu, pa, pz, ps]
      refine tk 19 (v := ?_) (hy := ?_) (h := ?_); rotate_left
      · intro _ _; go_simp <;> with_reducible rfl
      try simp only [pu, pa, pz, ps]
      refine tk 20 (v := ?_) (hy := ?_) (h := ?_); rotate_left
      · intro _ _; go_simp <;> with_reducible rfl
      try simp only [pu, pa, pz, ps]
      refine tk 21 (v := ?_) (hy := ?_) (h := ?_); rotate_left
      · intro _ _; go_simp <;> with_reducible rfl
      try simp only [pu, pa, pz, ps]
      refine sk 22 (h := ?_)
      try simp only [pu, pa, pz, ps]
      refine sk 23 (h := ?_)
      try simp only [pu, pa, pz, ps]
      refine sk 24 (h := ?_)
      try simp only [pu, pa, pz, ps]
      refine sk 25 (h := ?_)
      try simp only [pu, pa, pz, ps]
      refine sk 26 (h := ?_)
      try simp only [pu, pa, pz, ps]
      refine sk 27 (h := ?_)
      try simp only [pu, pa, pz, ps]
      refine tk 28 (v := ?_) (hy := ?_) (h := ?_); rotate_left
      · intro _ _; go_simp <;> with_reducible rfl
      try simp only [pu, pa, pz, ps]
      refine tk 29 (v := ?_) (hy := ?_) (h := ?_); rotate_left
      · intro _ _; go_simp <;> with_reducible rfl
      try simp only [pu, pa, pz, ps]
      refine sk 30 (h := ?_)
      try simp only [pu, pa, pz, ps]
      refine sk 31 (h := ?_)
      try simp only [pu, pa, pz, ps]
      refine sk 32 (h := ?_)
      try simp only [pu, pa, pz, ps]
      refine sk 33 (h := ?_)
      try simp only [pu, pa, pz, ps]
      refine sk 34 (h := ?_)
      try simp only [pu, pa, pz, ps]
      refine sk 35 (h := ?_)
      try simp only [pu, pa, pz, ps]
      refine sk 36 (h := ?_)
      try simp only [pu, pa, pz, ps]
      refine sk 37 (h := ?_)
      try simp only [pu, pa, pz, ps]
      refine sk 38 (h := ?_)
      try simp only [pu, pa, pz, ps]
      refine sk 39 (h := ?_)
      try simp only [pu, pa, pz, ps]
      refine sk 40 (h := ?_)
      try simp only [pu, pa, pz, ps]
      refine sk 41 (h := ?_)
      try simp only [pu, pa, pz, ps]
      refine tk 42 (v := ?_) (hy := ?_) (h := ?_); rotate_left
      · intro _ _; go_simp <;> with_reducible rfl
      try simp only [pu, pa, pz, ps]
      refine tk 43 (v := ?_) (hy := ?_) (h := ?_); rotate_left
      · intro _ _; go_simp <;> with_reducible rfl
      try simp only [pu, pa, pz, ps]
      refine sk 44 (h := ?_)
      try simp only [pu, pa, pz, ps]
      refine sk 45 (h := ?_)
      try simp only [pu, pa, pz, ps]
      refine sk 46 (h := ?_)
      try simp only [pu, pa, pz, ps]
      refine sk 47 (h := ?_)
      try simp only [pu, pa, pz, ps]
      refine sk 48 (h := ?_)
      try simp only [pu, pa, pz, ps]
      refine sk 49 (h := ?_)
      try simp only [pu, pa, pz, ps]
      refine tk 50 (v := ?_) (hy := ?_) (h := ?_); rotate_left
      · intro _ _; go_simp <;> with_reducible rfl
      try simp only [pu, pa, pz, ps]
      refine wpAnyH_done (by kernel_rfl) ?_ _
      have HHw := Lib.hid (HB0.out.trans (hHeld.mono HB0.out.size))
      have s0 := cellB hHeld s0 z0
      have g2 := cellB hHeld g2 z1
      clear hHeld
      go_wp2_with fail
      refine (hK0 _).mono ?_; rintro r w2 ⟨rfl, rfl⟩
      go_wp2_with fail
      go_ret
      exact ⟨by rw [hres.out]; rfl, HHw.out⟩
    obtain ⟨k, rfl⟩ : ∃ k : Nat, n = (k : Int) := ⟨n.toNat, by omega⟩
    by_cases hk : k < NV
    case neg =>
      have ek : ((k : Int) < (NV : Int)) = False := eq_false (by omega)
      have ek2 : (k < NV) = False := eq_false hk
      have hin : inb (k : Int) NV = false := decide_eq_false (by omega)
      have hres := Lib.hid (show leafT s ⟨2, 0, (k : Int), 0, []⟩ = 0 by unfold leafT; simp [HNV.out, hin])
      clear hn hin hk
      go_enter Tryd.func38, Tryd.ntmps38
      go_upto_region 17 with fail
      rw [← HW0.out]
      have qq0 := fun wt (h : Below W0.heap.size W0 wt) => cellB h s0 z0
      have qq1 := fun wt (h : Below W0.heap.size W0 wt) => cellB h g0 z1
      have qq2 := fun wt (h : Below W0.heap.size W0 wt) => cellB h g1 z1
      have qq3 := fun wt (h : Below W0.heap.size W0 wt) => cellB h g2 z1
      have qq4 := fun wt (h : Below W0.heap.size W0 wt) => cellB h g3 z1
      refine wp_region_held_drew (S := (fun w' => Below W0.heap.size W0 w')) (by kernel_rfl) ?_ (fun hHeld => ?_)
      · (try dsimp only); first | assumption | exact Below.alloc hHeld hHeld.size _ | exact (Below.refl _ _).drew | exact Below.drew (Below.refl _ _) | exact Below_drewN _ _ _ | exact Below.refl _ _
      refine tk 0 (v := ?_) (hy := ?_) (h := ?_); rotate_left
      · intro _ _; go_simp <;> with_reducible rfl
      try simp only [pu, pa, pz, ps]
      refine tk 1 (v := ?_) (hy := ?_) (h := ?_); rotate_left
      · intro _ _; go_simp <;> with_reducible rfl
      try simp only [pu, pa, pz, ps]
      refine tk 2 (v := ?_) (hy := ?_) (h := ?_); rotate_left
      · intro wt hSw; (try dsimp only at hSw); go_simp <;> with_reducible rfl
      try simp only [pu, pa, pz, ps]
      refine tk 3 (v := ?_) (hy := ?_) (h := ?_); rotate_left
      · intro _ _; go_simp <;> with_reducible rfl
      try simp only [pu, pa, pz, ps]
      refine tk 4 (v := ?_) (hy := ?_) (h := ?_); rotate_left
      · intro _ _; go_simp <;> with_reducible rfl
      try simp only [pu, pa, pz, ps]
      refine tk 5 (v := ?_) (hy := ?_) (h := ?_); rotate_left
      · intro _ _; go_simp <;> with_reducible rfl
      try simp only [pu, pa, pz, ps]
      refine tk 6 (v := ?_) (hy := ?_) (h := ?_); rotate_left
      · intro _ _; go_simp <;> with_reducible rfl
      try simp only [pu, pa, pz, ps]
      refine tk 7 (v := ?_) (hy := ?_) (h := ?_); rotate_left
      · intro _ _; go_simp <;> with_reducible rfl
      try simp only [pu, pa, pz, ps]
      refine tk 8 (v := ?_) (hy := ?_) (h := ?_); rotate_left
      · intro wt hSw; (try dsimp only at hSw); go_simp <;> with_reducible rfl
      try simp only [pu, pa, pz, ps]
      refine tk 9 (v := ?_) (hy := ?_) (h := ?_); rotate_left
      · intro _ _; go_simp <;> with_reducible rfl
      try simp only [pu, pa, pz, ps]
      refine tk 10 (v := ?_) (hy := ?_) (h := ?_); rotate_left
      · intro _ _; go_simp <;> with_reducible rfl
      try simp only [pu, pa, pz, ps]
      refine tk 11 (v := ?_) (hy := ?_) (h := ?_); rotate_left
      · intro _ _; go_simp <;> with_reducible rfl
      try simp only [pu, pa, pz, ps]
      refine tk 12 (v := ?_) (hy := ?_) (h := ?_); rotate_left
      · intro _ _; go_simp <;> with_reducible rfl
      try simp only [pu, pa, pz, ps]
      refine tk 13 (v := ?_) (hy := ?_) (h := ?_); rotate_left
      · intro wt hSw; (try dsimp only at hSw); go_simp <;> with_reducible rfl
      try simp only [pu, pa, pz, ps]
      refine tk 14 (v := ?_) (hy := ?_) (h := ?_); rotate_left
      · intro _ _; go_simp <;> with_reducible rfl
      try simp only [pu, pa, pz, ps]
      refine tk 15 (v := ?_) (hy := ?_) (h := ?_); rotate_left
      · intro _ _; go_simp <;> with_reducible rfl
      try simp only [pu, pa, pz, ps]
      refine tk 16 (v := ?_) (hy := ?_) (h := ?_); rotate_left
      · intro _ _; go_simp <;> with_reducible rfl
      try simp only [pu, pa, pz, ps]
      refine tk 17 (v := ?_) (hy := ?_) (h := ?_); rotate_left
      · intro _ _; go_simp <;> with_reducible rfl
      try simp only [pu, pa, pz, ps]
      refine tk 18 (v := ?_) (hy := ?_) (h := ?_); rotate_left
      · intro wt hSw; (try dsimp only at hSw); go_simp <;> with_reducible rfl
      try simp only [pu, pa, pz, ps]
      refine tk 19 (v := ?_) (hy := ?_) (h := ?_); rotate_left
      · intro _ _; go_simp <;> with_reducible rfl
      try simp only [pu, pa, pz, ps]
      refine tk 20 (v := ?_) (hy := ?_) (h := ?_); rotate_left
      · intro _ _; go_simp <;> with_reducible rfl
      try simp only [pu, pa, pz, ps]
      refine tk 21 (v := ?_) (hy := ?_) (h := ?_); rotate_left
      · intro _ _; go_simp <;> with_reducible rfl
      try simp only [pu, pa, pz, ps]
      refine tk 22 (v := ?_) (hy := ?_) (h := ?_); rotate_left
      · intro _ _; go_simp <;> with_reducible rfl
      try simp only [pu, pa, pz, ps]
      refine tk 23 (v := ?_) (hy := ?_) (h := ?_); rotate_left
      · intro wt hSw; (try dsimp only at hSw); go_simp <;> with_reducible rfl
      try simp only [pu, pa, pz, ps]
      refine tk 24 (v := ?_) (hy := ?_) (h := ?_); rotate_left
      · intro _ _; go_simp <;> with_reducible rfl
      try simp only [pu, pa, pz, ps]
      refine tk 25 (v := ?_) (hy := ?_) (h := ?_); rotate_left
      · intro wt hSw; (try dsimp only at hSw); go_simp <;> with_reducible rfl
      try simp only [pu, pa, pz, ps]
      refine tk 26 (v := ?_) (hy := ?_) (h := ?_); rotate_left
      · intro _ _; go_simp <;> with_reducible rfl
      try simp only [pu, pa, pz, ps]
      refine tk 27 (v := ?_) (hy := ?_) (h := ?_); rotate_left
      · intro _ _; go_simp <;> with_reducible rfl
      try simp only [pu, pa, pz, ps]
      refine tk 28 (v := ?_) (hy := ?_) (h := ?_); rotate_left
      · intro _ _; go_simp <;> with_reducible rfl
      try simp only [pu, pa, pz, ps]
      refine tk 29 (v := ?_) (hy := ?_) (h := ?_); rotate_left
      · intro _ _; go_simp <;> with_reducible rfl
      try simp only [pu, pa, pz, ps]
      refine sk 30 (h := ?_)
      try simp only [pu, pa, pz, ps]
      refine sk 31 (h := ?_)
      try simp only [pu, pa, pz, ps]
      refine sk 32 (h := ?_)
      try simp only [pu, pa, pz, ps]
      refine sk 33 (h := ?_)
      try simp only [pu, pa, pz, ps]
      refine sk 34 (h := ?_)
      try simp only [pu, pa, pz, ps]
      refine sk 35 (h := ?_)
      try simp only [pu, pa, pz, ps]
      refine sk 36 (h := ?_)
      try simp only [pu, pa, pz, ps]
      refine sk 37 (h := ?_)
      try simp only [pu, pa, pz, ps]
      refine sk 38 (h := ?_)
      try simp only [pu, pa, pz, ps]
      refine sk 39 (h := ?_)
      try simp only [pu, pa, pz, ps]
      refine sk 40 (h := ?_)
      try simp only [pu, pa, pz, ps]
      refine sk 41 (h := ?_)
      try simp only [pu, pa, pz, ps]
      refine tk 42 (v := ?_) (hy := ?_) (h := ?_); rotate_left
      · intro _ _; go_simp <;> with_reducible rfl
      try simp only [pu, pa, pz, ps]
      refine tk 43 (v := ?_) (hy := ?_) (h := ?_); rotate_left
      · intro _ _; go_simp <;> with_reducible rfl
      try simp only [pu, pa, pz, ps]
      refine sk 44 (h := ?_)
      try simp only [pu, pa, pz, ps]
      refine sk 45 (h := ?_)
      try simp only [pu, pa, pz, ps]
      refine sk 46 (h := ?_)
      try simp only [pu, pa, pz, ps]
      refine sk 47 (h := ?_)
      try simp only [pu, pa, pz, ps]
      refine sk 48 (h := ?_)
      try simp only [pu, pa, pz, ps]
      refine sk 49 (h := ?_)
      try simp only [pu, pa, pz, ps]
      refine tk 50 (v := ?_) (hy := ?_) (h := ?_); rotate_left
      · intro _ _; go_simp <;> with_reducible rfl
      try simp only [pu, pa, pz, ps]
      refine wpAnyH_done (by kernel_rfl) ?_ _
      have HHw := Lib.hid (HB0.out.trans (hHeld.mono HB0.out.size))
      have s0 := cellB hHeld s0 z0
      have g2 := cellB hHeld g2 z1
      clear hHeld
      go_wp2_with fail
      refine (hK0 _).mono ?_; rintro r w2 ⟨rfl, rfl⟩
      go_wp2_with fail
      go_ret
      exact ⟨by rw [hres.out]; rfl, HHw.out⟩
    have hin : inb (k : Int) NV = true := decide_eq_true (by omega)
    obtain ⟨x, hx⟩ := get_some (L := s.vars) (n := k) (by rw [HNV.out]; exact hk)
    obtain ⟨b, off, rfl, hbw, hc⟩ := var_at (HS.out w (Below.refl _ _)).vs (k := k) (by rw [HNV.out]; exact hk)
    obtain ⟨_, d1, d2, _, _, _⟩ := hc k x hx
    have d1 := (HB0.out.cell (p := ⟨b, off + k * 5 + 1, none⟩) hbw).trans d1
    have d2 := (HB0.out.cell (p := ⟨b, off + k * 5 + 2, none⟩) hbw).trans d2
    have zb : b < W0.heap.size := Nat.lt_of_lt_of_le hbw HB0.out.size
    have hxv : s.v (k : Int) = x := by unfold Sc.v; simp [List.getD, hx]
    have qk : ((k : Int) < (NV : Int)) = True := eq_true (by omega)
    have qk' : (k < NV) = True := eq_true hk
    have hcap := cap_row (HS.out w (Below.refl _ _)).vs hk
    have HX := Lib.hid (show leafT s ⟨2, 0, (k : Int), 0, []⟩ = if x.n < 2 then keepR x.t else 0 by unfold leafT; simp [HNV.out, hin, hxv])
    have hK := ref01_Right x.t
    generalize x.n = xn at *
    generalize x.t = xt at *
    clear hin hn hc hx hxv hk
    by_cases h2 : xn < 2
    case neg =>
      have e2 : (1 < xn) = True := eq_true (by omega)
      have hres := Lib.hid (show leafT s ⟨2, 0, (k : Int), 0, []⟩ = 0 by rw [HX.out, if_neg h2])
      clear h2
      go_enter Tryd.func38, Tryd.ntmps38
      go_upto_region 17 with fail
      rw [← HW0.out]
      have qq0 := fun wt (h : Below W0.heap.size W0 wt) => cellB h s0 z0
      have qq1 := fun wt (h : Below W0.heap.size W0 wt) => cellB h g0 z1
      have qq2 := fun wt (h : Below W0.heap.size W0 wt) => cellB h g1 z1
      have qq3 := fun wt (h : Below W0.heap.size W0 wt) => cellB h g2 z1
      have qq4 := fun wt (h : Below W0.heap.size W0 wt) => cellB h g3 z1
      have qq5 := fun wt (h : Below W0.heap.size W0 wt) => cellB h d2 zb
      refine wp_region_held_drew (S := (fun w' => Below W0.heap.size W0 w')) (by kernel_rfl) ?_ (fun hHeld => ?_)
      · (try dsimp only); first | assumption | exact Below.alloc hHeld hHeld.size _ | exact (Below.refl _ _).drew | exact Below.drew (Below.refl _ _) | exact Below_drewN _ _ _ | exact Below.refl _ _
      refine tk 0 (v := ?_) (hy := ?_) (h := ?_); rotate_left
      · intro _ _; go_simp <;> with_reducible rfl
      try simp only [pu, pa, pz, ps]
      refine tk 1 (v := ?_) (hy := ?_) (h := ?_); rotate_left
      · intro _ _; go_simp <;> with_reducible rfl
      try simp only [pu, pa, pz, ps]
      refine tk 2 (v := ?_) (hy := ?_) (h := ?_); rotate_left
      · intro wt hSw; (try dsimp only at hSw); go_simp <;> with_reducible rfl
      try simp only [pu, pa, pz, ps]
      refine tk 3 (v := ?_) (hy := ?_) (h := ?_); rotate_left
      · intro _ _; go_simp <;> with_reducible rfl
      try simp only [pu, pa, pz, ps]
      refine tk 4 (v := ?_) (hy := ?_) (h := ?_); rotate_left
      · intro _ _; go_simp <;> with_reducible rfl
      try simp only [pu, pa, pz, ps]
      refine tk 5 (v := ?_) (hy := ?_) (h := ?_); rotate_left
      · intro _ _; go_simp <;> with_reducible rfl
      try simp only [pu, pa, pz, ps]
      refine tk 6 (v := ?_) (hy := ?_) (h := ?_); rotate_left
      · intro _ _; go_simp <;> with_reducible rfl
      try simp only [pu, pa, pz, ps]
      refine tk 7 (v := ?_) (hy := ?_) (h := ?_); rotate_left
      · intro _ _; go_simp <;> with_reducible rfl
      try simp only [pu, pa, pz, ps]
      refine tk 8 (v := ?_) (hy := ?_) (h := ?_); rotate_left
      · intro wt hSw; (try dsimp only at hSw); go_simp <;> with_reducible rfl
      try simp only [pu, pa, pz, ps]
      refine tk 9 (v := ?_) (hy := ?_) (h := ?_); rotate_left
      · intro _ _; go_simp <;> with_reducible rfl
      try simp only [pu, pa, pz, ps]
      refine tk 10 (v := ?_) (hy := ?_) (h := ?_); rotate_left
      · intro _ _; go_simp <;> with_reducible rfl
      try simp only [pu, pa, pz, ps]
      refine tk 11 (v := ?_) (hy := ?_) (h := ?_); rotate_left
      · intro _ _; go_simp <;> with_reducible rfl
      try simp only [pu, pa, pz, ps]
      refine tk 12 (v := ?_) (hy := ?_) (h := ?_); rotate_left
      · intro _ _; go_simp <;> with_reducible rfl
      try simp only [pu, pa, pz, ps]
      refine tk 13 (v := ?_) (hy := ?_) (h := ?_); rotate_left
      · intro wt hSw; (try dsimp only at hSw); go_simp <;> with_reducible rfl
      try simp only [pu, pa, pz, ps]
      refine tk 14 (v := ?_) (hy := ?_) (h := ?_); rotate_left
      · intro _ _; go_simp <;> with_reducible rfl
      try simp only [pu, pa, pz, ps]
      refine tk 15 (v := ?_) (hy := ?_) (h := ?_); rotate_left
      · intro _ _; go_simp <;> with_reducible rfl
      try simp only [pu, pa, pz, ps]
      refine tk 16 (v := ?_) (hy := ?_) (h := ?_); rotate_left
      · intro _ _; go_simp <;> with_reducible rfl
      try simp only [pu, pa, pz, ps]
      refine tk 17 (v := ?_) (hy := ?_) (h := ?_); rotate_left
      · intro _ _; go_simp <;> with_reducible rfl
      try simp only [pu, pa, pz, ps]
      refine tk 18 (v := ?_) (hy := ?_) (h := ?_); rotate_left
      · intro wt hSw; (try dsimp only at hSw); go_simp <;> with_reducible rfl
      try simp only [pu, pa, pz, ps]
      refine tk 19 (v := ?_) (hy := ?_) (h := ?_); rotate_left
      · intro _ _; go_simp <;> with_reducible rfl
      try simp only [pu, pa, pz, ps]
      refine tk 20 (v := ?_) (hy := ?_) (h := ?_); rotate_left
      · intro _ _; go_simp <;> with_reducible rfl
      try simp only [pu, pa, pz, ps]
      refine tk 21 (v := ?_) (hy := ?_) (h := ?_); rotate_left
      · intro _ _; go_simp <;> with_reducible rfl
      try simp only [pu, pa, pz, ps]
      refine tk 22 (v := ?_) (hy := ?_) (h := ?_); rotate_left
      · intro _ _; go_simp <;> with_reducible rfl
      try simp only [pu, pa, pz, ps]
      refine tk 23 (v := ?_) (hy := ?_) (h := ?_); rotate_left
      · intro wt hSw; (try dsimp only at hSw); go_simp <;> with_reducible rfl
      try simp only [pu, pa, pz, ps]
      refine tk 24 (v := ?_) (hy := ?_) (h := ?_); rotate_left
      · intro _ _; go_simp <;> with_reducible rfl
      try simp only [pu, pa, pz, ps]
      refine tk 25 (v := ?_) (hy := ?_) (h := ?_); rotate_left
      · intro wt hSw; (try dsimp only at hSw); go_simp <;> with_reducible rfl
      try simp only [pu, pa, pz, ps]
      refine tk 26 (v := ?_) (hy := ?_) (h := ?_); rotate_left
      · intro _ _; go_simp <;> with_reducible rfl
      try simp only [pu, pa, pz, ps]
      refine tk 27 (v := ?_) (hy := ?_) (h := ?_); rotate_left
      · intro _ _; go_simp <;> with_reducible rfl
      try simp only [pu, pa, pz, ps]
      refine tk 28 (v := ?_) (hy := ?_) (h := ?_); rotate_left
      · intro _ _; go_simp <;> with_reducible rfl
      try simp only [pu, pa, pz, ps]
      refine tk 29 (v := ?_) (hy := ?_) (h := ?_); rotate_left
      · intro _ _; go_simp <;> with_reducible rfl
      try simp only [pu, pa, pz, ps]
      refine tk 30 (v := ?_) (hy := ?_) (h := ?_); rotate_left
      · intro _ _; go_simp <;> with_reducible rfl
      try simp only [pu, pa, pz, ps]
      refine tk 31 (v := ?_) (hy := ?_) (h := ?_); rotate_left
      · intro wt hSw; (try dsimp only at hSw); go_simp <;> with_reducible rfl
      try simp only [pu, pa, pz, ps]
      refine tk 32 (v := ?_) (hy := ?_) (h := ?_); rotate_left
      · intro _ _; go_simp <;> with_reducible rfl
      try simp only [pu, pa, pz, ps]
      refine tk 33 (v := ?_) (hy := ?_) (h := ?_); rotate_left
      · intro wt hSw; (try dsimp only at hSw); go_simp <;> with_reducible rfl
      try simp only [pu, pa, pz, ps]
      refine tk 34 (v := ?_) (hy := ?_) (h := ?_); rotate_left
      · intro _ _; go_simp <;> with_reducible rfl
      try simp only [pu, pa, pz, ps]
      refine tk 35 (v := ?_) (hy := ?_) (h := ?_); rotate_left
      · intro _ _; go_simp <;> with_reducible rfl
      try simp only [pu, pa, pz, ps]
      refine tk 36 (v := ?_) (hy := ?_) (h := ?_); rotate_left
      · intro wt hSw; (try dsimp only at hSw); go_simp <;> with_reducible rfl
      try simp only [pu, pa, pz, ps]
      refine tk 37 (v := ?_) (hy := ?_) (h := ?_); rotate_left
      · intro _ _; go_simp <;> with_reducible rfl
      try simp only [pu, pa, pz, ps]
      refine tk 38 (v := ?_) (hy := ?_) (h := ?_); rotate_left
      · intro _ _; go_simp <;> with_reducible rfl
      try simp only [pu, pa, pz, ps]
      refine tk 39 (v := ?_) (hy := ?_) (h := ?_); rotate_left
      · intro wt hSw; (try dsimp only at hSw); go_simp <;> with_reducible rfl
      try simp only [pu, pa, pz, ps]
      refine tk 40 (v := ?_) (hy := ?_) (h := ?_); rotate_left
      · intro _ _; go_simp <;> with_reducible rfl
      try simp only [pu, pa, pz, ps]
      refine tk 41 (v := ?_) (hy := ?_) (h := ?_); rotate_left
      · intro _ _; go_simp <;> with_reducible rfl
      try simp only [pu, pa, pz, ps]
      refine tk 42 (v := ?_) (hy := ?_) (h := ?_); rotate_left
      · intro _ _; go_simp <;> with_reducible rfl
      try simp only [pu, pa, pz, ps]
      refine tk 43 (v := ?_) (hy := ?_) (h := ?_); rotate_left
      · intro _ _; go_simp <;> with_reducible rfl
      try simp only [pu, pa, pz, ps]
      refine sk 44 (h := ?_)
      try simp only [pu, pa, pz, ps]
      refine sk 45 (h := ?_)
      try simp only [pu, pa, pz, ps]
      refine sk 46 (h := ?_)
      try simp only [pu, pa, pz, ps]
      refine sk 47 (h := ?_)
      try simp only [pu, pa, pz, ps]
      refine sk 48 (h := ?_)
      try simp only [pu, pa, pz, ps]
      refine sk 49 (h := ?_)
      try simp only [pu, pa, pz, ps]
      refine tk 50 (v := ?_) (hy := ?_) (h := ?_); rotate_left
      · intro _ _; go_simp <;> with_reducible rfl
      try simp only [pu, pa, pz, ps]
      refine wpAnyH_done (by kernel_rfl) ?_ _
      have HHw := Lib.hid (HB0.out.trans (hHeld.mono HB0.out.size))
      have s0 := cellB hHeld s0 z0
      have g2 := cellB hHeld g2 z1
      clear hHeld
      go_wp2_with fail
      refine (hK0 _).mono ?_; rintro r w2 ⟨rfl, rfl⟩
      go_wp2_with fail
      go_ret
      exact ⟨by rw [hres.out]; rfl, HHw.out⟩
    have e2 : (1 < xn) = False := eq_false (by omega)
    cases hkr : kRight xt
    · rw [hkr] at hK
      have hres := Lib.hid (show leafT s ⟨2, 0, (k : Int), 0, []⟩ = 0 by rw [HX.out, if_pos h2]; unfold keepR; rw [hkr]; rfl)
      clear hkr h2
      go_enter Tryd.func38, Tryd.ntmps38
      go_upto_region 17 with fail
      rw [← HW0.out]
      have qq0 := fun wt (h : Below W0.heap.size W0 wt) => cellB h s0 z0
      have qq1 := fun wt (h : Below W0.heap.size W0 wt) => cellB h g0 z1
      have qq2 := fun wt (h : Below W0.heap.size W0 wt) => cellB h g1 z1
      have qq3 := fun wt (h : Below W0.heap.size W0 wt) => cellB h g2 z1
      have qq4 := fun wt (h : Below W0.heap.size W0 wt) => cellB h g3 z1
      have qq5 := fun wt (h : Below W0.heap.size W0 wt) => cellB h d2 zb
      refine wp_region_held_drew (S := (fun w' => Below W0.heap.size W0 w')) (by kernel_rfl) ?_ (fun hHeld => ?_)
      · (try dsimp only); first | assumption | exact Below.alloc hHeld hHeld.size _ | exact (Below.refl _ _).drew | exact Below.drew (Below.refl _ _) | exact Below_drewN _ _ _ | exact Below.refl _ _
      refine tk 0 (v := ?_) (hy := ?_) (h := ?_); rotate_left
      · intro _ _; go_simp <;> with_reducible rfl
      try simp only [pu, pa, pz, ps]
      refine tk 1 (v := ?_) (hy := ?_) (h := ?_); rotate_left
      · intro _ _; go_simp <;> with_reducible rfl
      try simp only [pu, pa, pz, ps]
      refine tk 2 (v := ?_) (hy := ?_) (h := ?_); rotate_left
      · intro wt hSw; (try dsimp only at hSw); go_simp <;> with_reducible rfl
      try simp only [pu, pa, pz, ps]
      refine tk 3 (v := ?_) (hy := ?_) (h := ?_); rotate_left
      · intro _ _; go_simp <;> with_reducible rfl
      try simp only [pu, pa, pz, ps]
      refine tk 4 (v := ?_) (hy := ?_) (h := ?_); rotate_left
      · intro _ _; go_simp <;> with_reducible rfl
      try simp only [pu, pa, pz, ps]
      refine tk 5 (v := ?_) (hy := ?_) (h := ?_); rotate_left
      · intro _ _; go_simp <;> with_reducible rfl
      try simp only [pu, pa, pz, ps]
      refine tk 6 (v := ?_) (hy := ?_) (h := ?_); rotate_left
      · intro _ _; go_simp <;> with_reducible rfl
      try simp only [pu, pa, pz, ps]
      refine tk 7 (v := ?_) (hy := ?_) (h := ?_); rotate_left
      · intro _ _; go_simp <;> with_reducible rfl
      try simp only [pu, pa, pz, ps]
      refine tk 8 (v := ?_) (hy := ?_) (h := ?_); rotate_left
      · intro wt hSw; (try dsimp only at hSw); go_simp <;> with_reducible rfl
      try simp only [pu, pa, pz, ps]
      refine tk 9 (v := ?_) (hy := ?_) (h := ?_); rotate_left
      · intro _ _; go_simp <;> with_reducible rfl
      try simp only [pu, pa, pz, ps]
      refine tk 10 (v := ?_) (hy := ?_) (h := ?_); rotate_left
      · intro _ _; go_simp <;> with_reducible rfl
      try simp only [pu, pa, pz, ps]
      refine tk 11 (v := ?_) (hy := ?_) (h := ?_); rotate_left
      · intro _ _; go_simp <;> with_reducible rfl
      try simp only [pu, pa, pz, ps]
      refine tk 12 (v := ?_) (hy := ?_) (h := ?_); rotate_left
      · intro _ _; go_simp <;> with_reducible rfl
      try simp only [pu, pa, pz, ps]
      refine tk 13 (v := ?_) (hy := ?_) (h := ?_); rotate_left
      · intro wt hSw; (try dsimp only at hSw); go_simp <;> with_reducible rfl
      try simp only [pu, pa, pz, ps]
      refine tk 14 (v := ?_) (hy := ?_) (h := ?_); rotate_left
      · intro _ _; go_simp <;> with_reducible rfl
      try simp only [pu, pa, pz, ps]
      refine tk 15 (v := ?_) (hy := ?_) (h := ?_); rotate_left
      · intro _ _; go_simp <;> with_reducible rfl
      try simp only [pu, pa, pz, ps]
      refine tk 16 (v := ?_) (hy := ?_) (h := ?_); rotate_left
      · intro _ _; go_simp <;> with_reducible rfl
      try simp only [pu, pa, pz, ps]
      refine tk 17 (v := ?_) (hy := ?_) (h := ?_); rotate_left
      · intro _ _; go_simp <;> with_reducible rfl
      try simp only [pu, pa, pz, ps]
      refine tk 18 (v := ?_) (hy := ?_) (h := ?_); rotate_left
      · intro wt hSw; (try dsimp only at hSw); go_simp <;> with_reducible rfl
      try simp only [pu, pa, pz, ps]
      refine tk 19 (v := ?_) (hy := ?_) (h := ?_); rotate_left
      · intro _ _; go_simp <;> with_reducible rfl
      try simp only [pu, pa, pz, ps]
      refine tk 20 (v := ?_) (hy := ?_) (h := ?_); rotate_left
      · intro _ _; go_simp <;> with_reducible rfl
      try simp only [pu, pa, pz, ps]
      refine tk 21 (v := ?_) (hy := ?_) (h := ?_); rotate_left
      · intro _ _; go_simp <;> with_reducible rfl
      try simp only [pu, pa, pz, ps]
      refine tk 22 (v := ?_) (hy := ?_) (h := ?_); rotate_left
      · intro _ _; go_simp <;> with_reducible rfl
      try simp only [pu, pa, pz, ps]
      refine tk 23 (v := ?_) (hy := ?_) (h := ?_); rotate_left
      · intro wt hSw; (try dsimp only at hSw); go_simp <;> with_reducible rfl
      try simp only [pu, pa, pz, ps]
      refine tk 24 (v := ?_) (hy := ?_) (h := ?_); rotate_left
      · intro _ _; go_simp <;> with_reducible rfl
      try simp only [pu, pa, pz, ps]
      refine tk 25 (v := ?_) (hy := ?_) (h := ?_); rotate_left
      · intro wt hSw; (try dsimp only at hSw); go_simp <;> with_reducible rfl
      try simp only [pu, pa, pz, ps]
      refine tk 26 (v := ?_) (hy := ?_) (h := ?_); rotate_left
      · intro _ _; go_simp <;> with_reducible rfl
      try simp only [pu, pa, pz, ps]
      refine tk 27 (v := ?_) (hy := ?_) (h := ?_); rotate_left
      · intro _ _; go_simp <;> with_reducible rfl
      try simp only [pu, pa, pz, ps]
      refine tk 28 (v := ?_) (hy := ?_) (h := ?_); rotate_left
      · intro _ _; go_simp <;> with_reducible rfl
      try simp only [pu, pa, pz, ps]
      refine tk 29 (v := ?_) (hy := ?_) (h := ?_); rotate_left
      · intro _ _; go_simp <;> with_reducible rfl
      try simp only [pu, pa, pz, ps]
      refine tk 30 (v := ?_) (hy := ?_) (h := ?_); rotate_left
      · intro _ _; go_simp <;> with_reducible rfl
      try simp only [pu, pa, pz, ps]
      refine tk 31 (v := ?_) (hy := ?_) (h := ?_); rotate_left
      · intro wt hSw; (try dsimp only at hSw); go_simp <;> with_reducible rfl
      try simp only [pu, pa, pz, ps]
      refine tk 32 (v := ?_) (hy := ?_) (h := ?_); rotate_left
      · intro _ _; go_simp <;> with_reducible rfl
      try simp only [pu, pa, pz, ps]
      refine tk 33 (v := ?_) (hy := ?_) (h := ?_); rotate_left
      · intro wt hSw; (try dsimp only at hSw); go_simp <;> with_reducible rfl
      try simp only [pu, pa, pz, ps]
      refine tk 34 (v := ?_) (hy := ?_) (h := ?_); rotate_left
      · intro _ _; go_simp <;> with_reducible rfl
      try simp only [pu, pa, pz, ps]
      refine tk 35 (v := ?_) (hy := ?_) (h := ?_); rotate_left
      · intro _ _; go_simp <;> with_reducible rfl
      try simp only [pu, pa, pz, ps]
      refine tk 36 (v := ?_) (hy := ?_) (h := ?_); rotate_left
      · intro wt hSw; (try dsimp only at hSw); go_simp <;> with_reducible rfl
      try simp only [pu, pa, pz, ps]
      refine tk 37 (v := ?_) (hy := ?_) (h := ?_); rotate_left
      · intro _ _; go_simp <;> with_reducible rfl
      try simp only [pu, pa, pz, ps]
      refine tk 38 (v := ?_) (hy := ?_) (h := ?_); rotate_left
      · intro _ _; go_simp <;> with_reducible rfl
      try simp only [pu, pa, pz, ps]
      refine tk 39 (v := ?_) (hy := ?_) (h := ?_); rotate_left
      · intro wt hSw; (try dsimp only at hSw); go_simp <;> with_reducible rfl
      try simp only [pu, pa, pz, ps]
      refine tk 40 (v := ?_) (hy := ?_) (h := ?_); rotate_left
      · intro _ _; go_simp <;> with_reducible rfl
      try simp only [pu, pa, pz, ps]
      refine tk 41 (v := ?_) (hy := ?_) (h := ?_); rotate_left
      · intro _ _; go_simp <;> with_reducible rfl
      try simp only [pu, pa, pz, ps]
      refine tk 42 (v := ?_) (hy := ?_) (h := ?_); rotate_left
      · intro _ _; go_simp <;> with_reducible rfl
      try simp only [pu, pa, pz, ps]
      refine tk 43 (v := ?_) (hy := ?_) (h := ?_); rotate_left
      · intro _ _; go_simp <;> with_reducible rfl
      try simp only [pu, pa, pz, ps]
      refine tk 44 (v := ?_) (hy := ?_) (h := ?_); rotate_left
      · intro _ _; go_simp <;> with_reducible rfl
      try simp only [pu, pa, pz, ps]
      refine tk 45 (v := ?_) (hy := ?_) (h := ?_); rotate_left
      · intro _ _; go_simp <;> with_reducible rfl
      try simp only [pu, pa, pz, ps]
      refine tk 46 (v := ?_) (hy := ?_) (h := ?_); rotate_left
      · intro _ _; go_simp <;> with_reducible rfl
      try simp only [pu, pa, pz, ps]
      refine sk 47 (h := ?_)
      try simp only [pu, pa, pz, ps]
      refine sk 48 (h := ?_)
      try simp only [pu, pa, pz, ps]
      refine tk 49 (v := ?_) (hy := ?_) (h := ?_); rotate_left
      · intro _ _; go_simp <;> with_reducible rfl
      try simp only [pu, pa, pz, ps]
      refine tk 50 (v := ?_) (hy := ?_) (h := ?_); rotate_left
      · intro _ _; go_simp <;> with_reducible rfl
      try simp only [pu, pa, pz, ps]
      refine wpAnyH_done (by kernel_rfl) ?_ _
      have HHw := Lib.hid (HB0.out.trans (hHeld.mono HB0.out.size))
      have s0 := cellB hHeld s0 z0
      have g2 := cellB hHeld g2 z1
      have d1 := cellB hHeld d1 zb
      clear hHeld
      go_wp2_with fail
      refine (hK _).mono ?_; rintro r w2 ⟨rfl, rfl⟩
      go_wp2_with fail
      go_ret
      exact ⟨by rw [hres.out]; rfl, HHw.out⟩
    · rw [hkr] at hK
      have hres := Lib.hid (show leafT s ⟨2, 0, (k : Int), 0, []⟩ = xt by rw [HX.out, if_pos h2]; unfold keepR; rw [hkr]; rfl)
      clear hkr h2
      go_enter Tryd.func38, Tryd.ntmps38
      go_upto_region 17 with fail
      rw [← HW0.out]
      have qq0 := fun wt (h : Below W0.heap.size W0 wt) => cellB h s0 z0
      have qq1 := fun wt (h : Below W0.heap.size W0 wt) => cellB h g0 z1
      have qq2 := fun wt (h : Below W0.heap.size W0 wt) => cellB h g1 z1
      have qq3 := fun wt (h : Below W0.heap.size W0 wt) => cellB h g2 z1
      have qq4 := fun wt (h : Below W0.heap.size W0 wt) => cellB h g3 z1
      have qq5 := fun wt (h : Below W0.heap.size W0 wt) => cellB h d2 zb
      refine wp_region_held_drew (S := (fun w' => Below W0.heap.size W0 w')) (by kernel_rfl) ?_ (fun hHeld => ?_)
      · (try dsimp only); first | assumption | exact Below.alloc hHeld hHeld.size _ | exact (Below.refl _ _).drew | exact Below.drew (Below.refl _ _) | exact Below_drewN _ _ _ | exact Below.refl _ _
      refine tk 0 (v := ?_) (hy := ?_) (h := ?_); rotate_left
      · intro _ _; go_simp <;> with_reducible rfl
      try simp only [pu, pa, pz, ps]
      refine tk 1 (v := ?_) (hy := ?_) (h := ?_); rotate_left
      · intro _ _; go_simp <;> with_reducible rfl
      try simp only [pu, pa, pz, ps]
      refine tk 2 (v := ?_) (hy := ?_) (h := ?_); rotate_left
      · intro wt hSw; (try dsimp only at hSw); go_simp <;> with_reducible rfl
      try simp only [pu, pa, pz, ps]
      refine tk 3 (v := ?_) (hy := ?_) (h := ?_); rotate_left
      · intro _ _; go_simp <;> with_reducible rfl
      try simp only [pu, pa, pz, ps]
      refine tk 4 (v := ?_) (hy := ?_) (h := ?_); rotate_left
      · intro _ _; go_simp <;> with_reducible rfl
      try simp only [pu, pa, pz, ps]
      refine tk 5 (v := ?_) (hy := ?_) (h := ?_); rotate_left
      · intro _ _; go_simp <;> with_reducible rfl
      try simp only [pu, pa, pz, ps]
      refine tk 6 (v := ?_) (hy := ?_) (h := ?_); rotate_left
      · intro _ _; go_simp <;> with_reducible rfl
      try simp only [pu, pa, pz, ps]
      refine tk 7 (v := ?_) (hy := ?_) (h := ?_); rotate_left
      · intro _ _; go_simp <;> with_reducible rfl
      try simp only [pu, pa, pz, ps]
      refine tk 8 (v := ?_) (hy := ?_) (h := ?_); rotate_left
      · intro wt hSw; (try dsimp only at hSw); go_simp <;> with_reducible rfl
      try simp only [pu, pa, pz, ps]
      refine tk 9 (v := ?_) (hy := ?_) (h := ?_); rotate_left
      · intro _ _; go_simp <;> with_reducible rfl
      try simp only [pu, pa, pz, ps]
      refine tk 10 (v := ?_) (hy := ?_) (h := ?_); rotate_left
      · intro _ _; go_simp <;> with_reducible rfl
      try simp only [pu, pa, pz, ps]
      refine tk 11 (v := ?_) (hy := ?_) (h := ?_); rotate_left
      · intro _ _; go_simp <;> with_reducible rfl
      try simp only [pu, pa, pz, ps]
      refine tk 12 (v := ?_) (hy := ?_) (h := ?_); rotate_left
      · intro _ _; go_simp <;> with_reducible rfl
      try simp only [pu, pa, pz, ps]
      refine tk 13 (v := ?_) (hy := ?_) (h := ?_); rotate_left
      · intro wt hSw; (try dsimp only at hSw); go_simp <;> with_reducible rfl
      try simp only [pu, pa, pz, ps]
      refine tk 14 (v := ?_) (hy := ?_) (h := ?_); rotate_left
      · intro _ _; go_simp <;> with_reducible rfl
      try simp only [pu, pa, pz, ps]
      refine tk 15 (v := ?_) (hy := ?_) (h := ?_); rotate_left
      · intro _ _; go_simp <;> with_reducible rfl
      try simp only [pu, pa, pz, ps]
      refine tk 16 (v := ?_) (hy := ?_) (h := ?_); rotate_left
      · intro _ _; go_simp <;> with_reducible rfl
      try simp only [pu, pa, pz, ps]
      refine tk 17 (v := ?_) (hy := ?_) (h := ?_); rotate_left
      · intro _ _; go_simp <;> with_reducible rfl
      try simp only [pu, pa, pz, ps]
      refine tk 18 (v := ?_) (hy := ?_) (h := ?_); rotate_left
      · intro wt hSw; (try dsimp only at hSw); go_simp <;> with_reducible rfl
      try simp only [pu, pa, pz, ps]
      refine tk 19 (v := ?_) (hy := ?_) (h := ?_); rotate_left
      · intro _ _; go_simp <;> with_reducible rfl
      try simp only [pu, pa, pz, ps]
      refine tk 20 (v := ?_) (hy := ?_) (h := ?_); rotate_left
      · intro _ _; go_simp <;> with_reducible rfl
      try simp only [pu, pa, pz, ps]
      refine tk 21 (v := ?_) (hy := ?_) (h := ?_); rotate_left
      · intro _ _; go_simp <;> with_reducible rfl
      try simp only [pu, pa, pz, ps]
      refine tk 22 (v := ?_) (hy := ?_) (h := ?_); rotate_left
      · intro _ _; go_simp <;> with_reducible rfl
      try simp only [pu, pa, pz, ps]
      refine tk 23 (v := ?_) (hy := ?_) (h := ?_); rotate_left
      · intro wt hSw; (try dsimp only at hSw); go_simp <;> with_reducible rfl
      try simp only [pu, pa, pz, ps]
      refine tk 24 (v := ?_) (hy := ?_) (h := ?_); rotate_left
      · intro _ _; go_simp <;> with_reducible rfl
      try simp only [pu, pa, pz, ps]
      refine tk 25 (v := ?_) (hy := ?_) (h := ?_); rotate_left
      · intro wt hSw; (try dsimp only at hSw); go_simp <;> with_reducible rfl
      try simp only [pu, pa, pz, ps]
      refine tk 26 (v := ?_) (hy := ?_) (h := ?_); rotate_left
      · intro _ _; go_simp <;> with_reducible rfl
      try simp only [pu, pa, pz, ps]
      refine tk 27 (v := ?_) (hy := ?_) (h := ?_); rotate_left
      · intro _ _; go_simp <;> with_reducible rfl
      try simp only [pu, pa, pz, ps]
      refine tk 28 (v := ?_) (hy := ?_) (h := ?_); rotate_left
      · intro _ _; go_simp <;> with_reducible rfl
      try simp only [pu, pa, pz, ps]
      refine tk 29 (v := ?_) (hy := ?_) (h := ?_); rotate_left
      · intro _ _; go_simp <;> with_reducible rfl
      try simp only [pu, pa, pz, ps]
      refine tk 30 (v := ?_) (hy := ?_) (h := ?_); rotate_left
      · intro _ _; go_simp <;> with_reducible rfl
      try simp only [pu, pa, pz, ps]
      refine tk 31 (v := ?_) (hy := ?_) (h := ?_); rotate_left
      · intro wt hSw; (try dsimp only at hSw); go_simp <;> with_reducible rfl
      try simp only [pu, pa, pz, ps]
      refine tk 32 (v := ?_) (hy := ?_) (h := ?_); rotate_left
      · intro _ _; go_simp <;> with_reducible rfl
      try simp only [pu, pa, pz, ps]
      refine tk 33 (v := ?_) (hy := ?_) (h := ?_); rotate_left
      · intro wt hSw; (try dsimp only at hSw); go_simp <;> with_reducible rfl
      try simp only [pu, pa, pz, ps]
      refine tk 34 (v := ?_) (hy := ?_) (h := ?_); rotate_left
      · intro _ _; go_simp <;> with_reducible rfl
      try simp only [pu, pa, pz, ps]
      refine tk 35 (v := ?_) (hy := ?_) (h := ?_); rotate_left
      · intro _ _; go_simp <;> with_reducible rfl
      try simp only [pu, pa, pz, ps]
      refine tk 36 (v := ?_) (hy := ?_) (h := ?_); rotate_left
      · intro wt hSw; (try dsimp only at hSw); go_simp <;> with_reducible rfl
      try simp only [pu, pa, pz, ps]
      refine tk 37 (v := ?_) (hy := ?_) (h := ?_); rotate_left
      · intro _ _; go_simp <;> with_reducible rfl
      try simp only [pu, pa, pz, ps]
      refine tk 38 (v := ?_) (hy := ?_) (h := ?_); rotate_left
      · intro _ _; go_simp <;> with_reducible rfl
      try simp only [pu, pa, pz, ps]
      refine tk 39 (v := ?_) (hy := ?_) (h := ?_); rotate_left
      · intro wt hSw; (try dsimp only at hSw); go_simp <;> with_reducible rfl
      try simp only [pu, pa, pz, ps]
      refine tk 40 (v := ?_) (hy := ?_) (h := ?_); rotate_left
      · intro _ _; go_simp <;> with_reducible rfl
      try simp only [pu, pa, pz, ps]
      refine tk 41 (v := ?_) (hy := ?_) (h := ?_); rotate_left
      · intro _ _; go_simp <;> with_reducible rfl
      try simp only [pu, pa, pz, ps]
      refine tk 42 (v := ?_) (hy := ?_) (h := ?_); rotate_left
      · intro _ _; go_simp <;> with_reducible rfl
      try simp only [pu, pa, pz, ps]
      refine tk 43 (v := ?_) (hy := ?_) (h := ?_); rotate_left
      · intro _ _; go_simp <;> with_reducible rfl
      try simp only [pu, pa, pz, ps]
      refine tk 44 (v := ?_) (hy := ?_) (h := ?_); rotate_left
      · intro _ _; go_simp <;> with_reducible rfl
      try simp only [pu, pa, pz, ps]
      refine tk 45 (v := ?_) (hy := ?_) (h := ?_); rotate_left
      · intro _ _; go_simp <;> with_reducible rfl
      try simp only [pu, pa, pz, ps]
      refine tk 46 (v := ?_) (hy := ?_) (h := ?_); rotate_left
      · intro _ _; go_simp <;> with_reducible rfl
      try simp only [pu, pa, pz, ps]
      refine sk 47 (h := ?_)
      try simp only [pu, pa, pz, ps]
      refine sk 48 (h := ?_)
      try simp only [pu, pa, pz, ps]
      refine tk 49 (v := ?_) (hy := ?_) (h := ?_); rotate_left
      · intro _ _; go_simp <;> with_reducible rfl
      try simp only [pu, pa, pz, ps]
      refine tk 50 (v := ?_) (hy := ?_) (h := ?_); rotate_left
      · intro _ _; go_simp <;> with_reducible rfl
      try simp only [pu, pa, pz, ps]
      refine wpAnyH_done (by kernel_rfl) ?_ _
      have HHw := Lib.hid (HB0.out.trans (hHeld.mono HB0.out.size))
      have s0 := cellB hHeld s0 z0
      have g2 := cellB hHeld g2 z1
      have d1 := cellB hHeld d1 zb
      clear hHeld
      go_wp2_with fail
      refine (hK _).mono ?_; rintro r w2 ⟨rfl, rfl⟩
      go_wp2_with fail
      go_ret
      exact ⟨by rw [hres.out]; rfl, HHw.out⟩
end Go.Proofs.YtknbomikiakpmaaDoor
/- Layer 26: the document's Type, of an expression with one within it (op 4). -/
namespace Go.Proofs.YtknbomikiakpmaaDoor
open Go.RowKit
set_option linter.unusedSimpArgs false
set_option linter.unusedVariables false
set_option maxRecDepth 100000 in
set_option maxHeartbeats 8000000 in
theorem ref26_Type14 (a b c d : Value) (s : Sc) (op t n m : Int) (x : Ex) (v : Value) (w : World) (hs : ScAt w a b d s) (hc0 : ∃ p q k, c = .slice p q k) (hv : ExV w v ⟨op, t, n, m, [x]⟩) (hx : Typed w a b c d s x) (o4 : op = 4) :
    Calls Tryd.prog 38 #[.agg #[a, b, c, d], v] w fun r w' => r = .returned (.int .i64 (if typeE s x = 0 then 0 else singleT s ⟨op, t, n, m, [x]⟩ (typeE s x))) ∧ Below w.heap.size w w' := by
  obtain ⟨sl, rfl, _, hrl⟩ := hv
  have HS := Lib.hid hs.vs
  obtain ⟨sa, ca, rfl⟩ := row_get hs.vs
  obtain ⟨sb, cb, rfl⟩ := row_get hs.bs
  obtain ⟨sd, cd, rfl⟩ := row_get hs.ss
  obtain ⟨p, q, k, rfl⟩ := hc0
  have hlen := hrl.len
  obtain ⟨al, cl, rfl⟩ := row_get hrl
  have hcap := cap_row hrl (k := 0) (by simp)
  obtain ⟨b, off, s1, sn1, sc1, rfl, hbw, _, _, d0, d1, d2, d3, d4, hxv⟩ := ex_at hrl (k := 0) (x := x) rfl
  simp only [Nat.zero_mul, Nat.one_mul, Nat.add_zero] at d0 d1 d2 d3 d4
  simp only [List.length_cons, List.length_nil, Nat.zero_add] at hlen hcap ⊢
  obtain ⟨NV, hNV⟩ : ∃ N, s.vars.length = N := ⟨_, rfl⟩
  have HNV := Lib.hid hNV
  have hlv := hs.vs.len
  rw [hNV] at HS hlv hx ⊢
  have q0 : ((0 : Int) < (1 : Int)) = True := by decide
  have r0 : (0 < 1) = True := by decide
  obtain ⟨W0, hW0⟩ : ∃ W0, W0 = (w.alloc (.cells #[.slice sa NV ca, .slice sb s.blocks.length cb, .slice p q k, .slice sd s.slots.length cd] 43)).alloc (.cells #[.int .i64 op, .int .i64 t, .int .i64 n, .int .i64 m, .slice (some ⟨b, off, none⟩) 1 cl] 37) := ⟨_, rfl⟩
  have ho0 : W0.heap[w.heap.size]? = some (.cells #[.slice sa NV ca, .slice sb s.blocks.length cb, .slice p q k, .slice sd s.slots.length cd] 43) := by rw [hW0, get_past (by simp)]; exact get_last rfl
  have ho1 : W0.heap[w.heap.size + 1]? = some (.cells #[.int .i64 op, .int .i64 t, .int .i64 n, .int .i64 m, .slice (some ⟨b, off, none⟩) 1 cl] 37) := by rw [hW0]; exact get_last (by simp)
  have hbW : Below w.heap.size w W0 := by rw [hW0]; exact by (repeat' (first | (with_reducible exact Below.refl _ _) | (with_reducible assumption) | (with_reducible refine below_drewN ?_ _) | (with_reducible refine Below.alloc ?_ ?_ _) | (with_reducible refine Below.drew ?_) | (with_reducible refine Below.setCell ?_ ?_ _) | go_size))
  have HW0 := Lib.hid hW0
  have HB0 := Lib.hid hbW
  have z0 := heap_lt ho0
  have z1 := heap_lt ho1
  have zb : b < W0.heap.size := Nat.lt_of_lt_of_le hbw hbW.size
  have s0 : W0.cell? ⟨w.heap.size, 0, none⟩ = some (.slice sa NV ca) := obj_cell ho0 (i := 0) rfl
  have s1 : W0.cell? ⟨w.heap.size, 1, none⟩ = some (.slice sb s.blocks.length cb) := obj_cell ho0 (i := 1) rfl
  have s2 : W0.cell? ⟨w.heap.size, 2, none⟩ = some (.slice p q k) := obj_cell ho0 (i := 2) rfl
  have s3 : W0.cell? ⟨w.heap.size, 3, none⟩ = some (.slice sd s.slots.length cd) := obj_cell ho0 (i := 3) rfl
  have g4 : W0.cell? ⟨w.heap.size + 1, 4, none⟩ = some (.slice (some ⟨b, off, none⟩) 1 cl) := obj_cell ho1 (i := 4) rfl
  have g0 : W0.cell? ⟨w.heap.size + 1, 0, none⟩ = some (.int .i64 op) := obj_cell ho1 (i := 0) rfl
  have g1 : W0.cell? ⟨w.heap.size + 1, 1, none⟩ = some (.int .i64 t) := obj_cell ho1 (i := 1) rfl
  have g2 : W0.cell? ⟨w.heap.size + 1, 2, none⟩ = some (.int .i64 n) := obj_cell ho1 (i := 2) rfl
  have g3 : W0.cell? ⟨w.heap.size + 1, 3, none⟩ = some (.int .i64 m) := obj_cell ho1 (i := 3) rfl
  have d0 := (hbW.cell (p := ⟨b, off, none⟩) hbw).trans d0
  have d1 := (hbW.cell (p := ⟨b, off + 1, none⟩) hbw).trans d1
  have d2 := (hbW.cell (p := ⟨b, off + 2, none⟩) hbw).trans d2
  have d3 := (hbW.cell (p := ⟨b, off + 3, none⟩) hbw).trans d3
  have d4 := (hbW.cell (p := ⟨b, off + 4, none⟩) hbw).trans d4
  have HXc := Lib.hid (fun W (_ : True) (h : Below W0.heap.size W0 W) => hx W _ (hbW.trans (h.mono hbW.size)) (hxv.below (hbW.trans (h.mono hbW.size))))
  generalize typeE s x = T at *
  clear hW0 hbW ho0 ho1 hx hxv hs hrl
  generalize hZ : (if T = 0 then 0 else singleT s ⟨op, t, n, m, [x]⟩ T) = Z
  have HZ := Lib.hid hZ
  clear hZ hNV
  have hK0 := ref01_Right 0
  rw [show kRight 0 = false from rfl] at hK0
  subst o4
  have hw2 : IntKind.i64.wrap 2 = 2 := by decide
  have hw1 : IntKind.i64.wrap 1 = 1 := by decide
  have hw0 : IntKind.i64.wrap 0 = 0 := by decide
  have hwt : IntKind.i64.wrap (Int.tdiv 2 2) = 1 := by decide
  have hwz : IntKind.i64.wrap (Int.tdiv 0 2) = 0 := by decide
  go_enter Tryd.func38, Tryd.ntmps38
  go_upto_region 5 with fail
  rw [← HW0.out]
  have qq0 := fun wt (h : Below W0.heap.size W0 wt) => cellB h s0 z0
  have qq1 := fun wt (h : Below W0.heap.size W0 wt) => cellB h s1 z0
  have qq2 := fun wt (h : Below W0.heap.size W0 wt) => cellB h s2 z0
  have qq3 := fun wt (h : Below W0.heap.size W0 wt) => cellB h s3 z0
  have qq4 := fun wt (h : Below W0.heap.size W0 wt) => cellB h g4 z1
  have qq5 := fun wt (h : Below W0.heap.size W0 wt) => cellB h d0 zb
  have qq6 := fun wt (h : Below W0.heap.size W0 wt) => cellB h d1 zb
  have qq7 := fun wt (h : Below W0.heap.size W0 wt) => cellB h d2 zb
  have qq8 := fun wt (h : Below W0.heap.size W0 wt) => cellB h d3 zb
  have qq9 := fun wt (h : Below W0.heap.size W0 wt) => cellB h d4 zb
  refine wp_region_held_drew (S := (fun w' => Below W0.heap.size W0 w')) (by kernel_rfl) ?_ (fun hHeld => ?_)
  · (try dsimp only); first | assumption | exact Below.alloc hHeld hHeld.size _ | exact (Below.refl _ _).drew | exact Below.drew (Below.refl _ _) | exact Below_drewN _ _ _ | exact Below.refl _ _
  refine tk 0 (v := ?_) (hy := ?_) (h := ?_); rotate_left
  · intro wt hSw; (try dsimp only at hSw); go_simp <;> with_reducible rfl
  try simp only [pu, pa, pz, ps]
  refine tk 1 (v := ?_) (hy := ?_) (h := ?_); rotate_left
  · intro _ _; go_simp <;> with_reducible rfl
  try simp only [pu, pa, pz, ps]
  refine tk 2 (v := ?_) (hy := ?_) (h := ?_); rotate_left
  · intro wt hSw; (try dsimp only at hSw); go_simp <;> with_reducible rfl
  try simp only [pu, pa, pz, ps]
  refine tk 3 (v := ?_) (hy := ?_) (h := ?_); rotate_left
  · intro _ _; go_simp <;> with_reducible rfl
  try simp only [pu, pa, pz, ps]
  refine tk 4 (v := ?_) (hy := ?_) (h := ?_); rotate_left
  · intro wt hSw; (try dsimp only at hSw); go_simp <;> with_reducible rfl
  try simp only [pu, pa, pz, ps]
  refine wpAnyH_ready (rs := [5]) (by kernel_rfl) (by simp) ?_
  refine AllReadyH.cons (o := ⟨_, _, _, _, _, _⟩) rfl (fun K hK => ?_) AllReadyH.nil
  go_simp
  refine (HXc.out _ trivial hHeld).mono ?_; rintro r w2 ⟨rfl, hb⟩; have hHeld := hHeld.trans (hb.mono hHeld.size)
  go_wp2_with fail
  refine hK.out _ _ ?_ (fun hHeld => ?_)
  · (try dsimp only); first | assumption | exact Below.alloc hHeld hHeld.size _ | exact (Below.refl _ _).drew | exact Below.drew (Below.refl _ _) | exact Below_drewN _ _ _ | exact Below.refl _ _
  clear hK K
  try simp only [pu, pa, pz, ps]
  refine tk 6 (v := ?_) (hy := ?_) (h := ?_); rotate_left
  · intro _ _; go_simp <;> with_reducible rfl
  try simp only [pu, pa, pz, ps]
  refine wpAnyH_done (by kernel_rfl) ?_ _
  have HHw := Lib.hid (HB0.out.trans (hHeld.mono HB0.out.size))
  have p0 := cellB hHeld g0 z1
  have p1 := cellB hHeld g1 z1
  have p2 := cellB hHeld g2 z1
  have p3 := cellB hHeld g3 z1
  have p4 := cellB hHeld g4 z1
  clear s1 s2 s3 d0 d1 d2 d3 d4
  by_cases hT : T = 0
  · subst hT
    have hres := Lib.hid (show Z = 0 by rw [← HZ.out]; simp)
    clear hHeld
    go_wp2_with fail
    go_ret
    exact ⟨by rw [hres.out]; rfl, HHw.out⟩
  have eT : (T == 0) = false := by simpa using hT
  by_cases h0 : t = 0
  case neg =>
    have e0 : (t == 0) = false := by simpa using h0
    have hres := Lib.hid (show Z = 0 by rw [← HZ.out]; unfold singleT; simp [hT, h0])
    clear h0 hT
    go_upto_region 17 with fail
    have qq0 := fun wt (h : Below W0.heap.size W0 wt) => cellB h s0 z0
    have qq1 := fun wt (h : Below W0.heap.size W0 wt) => cellB h g0 z1
    have qq2 := fun wt (h : Below W0.heap.size W0 wt) => cellB h g1 z1
    have qq3 := fun wt (h : Below W0.heap.size W0 wt) => cellB h g2 z1
    have qq4 := fun wt (h : Below W0.heap.size W0 wt) => cellB h g3 z1
    refine wp_region_held_drew (S := (fun w' => Below W0.heap.size W0 w')) (by kernel_rfl) ?_ (fun hHeld => ?_)
    · (try dsimp only); first | exact Below.drew hHeld | assumption
    refine tk 0 (v := ?_) (hy := ?_) (h := ?_); rotate_left
    · intro _ _; go_simp <;> with_reducible rfl
    try simp only [pu, pa, pz, ps]
    refine tk 1 (v := ?_) (hy := ?_) (h := ?_); rotate_left
    · intro _ _; go_simp <;> with_reducible rfl
    try simp only [pu, pa, pz, ps]
    refine tk 2 (v := ?_) (hy := ?_) (h := ?_); rotate_left
    · intro wt hSw; (try dsimp only at hSw); go_simp <;> with_reducible rfl
    try simp only [pu, pa, pz, ps]
    refine tk 3 (v := ?_) (hy := ?_) (h := ?_); rotate_left
    · intro _ _; go_simp <;> with_reducible rfl
    try simp only [pu, pa, pz, ps]
    refine tk 4 (v := ?_) (hy := ?_) (h := ?_); rotate_left
    · intro _ _; go_simp <;> with_reducible rfl
    try simp only [pu, pa, pz, ps]
    refine tk 5 (v := ?_) (hy := ?_) (h := ?_); rotate_left
    · intro _ _; go_simp <;> with_reducible rfl
    try simp only [pu, pa, pz, ps]
    refine tk 6 (v := ?_) (hy := ?_) (h := ?_); rotate_left
    · intro _ _; go_simp <;> with_reducible rfl
    try simp only [pu, pa, pz, ps]
    refine tk 7 (v := ?_) (hy := ?_) (h := ?_); rotate_left
    · intro _ _; go_simp <;> with_reducible rfl
    try simp only [pu, pa, pz, ps]
    refine tk 8 (v := ?_) (hy := ?_) (h := ?_); rotate_left
    · intro wt hSw; (try dsimp only at hSw); go_simp <;> with_reducible rfl
    try simp only [pu, pa, pz, ps]
    refine tk 9 (v := ?_) (hy := ?_) (h := ?_); rotate_left
    · intro _ _; go_simp <;> with_reducible rfl
    try simp only [pu, pa, pz, ps]
    refine tk 10 (v := ?_) (hy := ?_) (h := ?_); rotate_left
    · intro _ _; go_simp <;> with_reducible rfl
    try simp only [pu, pa, pz, ps]
    refine tk 11 (v := ?_) (hy := ?_) (h := ?_); rotate_left
    · intro _ _; go_simp <;> with_reducible rfl
    try simp only [pu, pa, pz, ps]
    refine sk 12 (h := ?_)
    try simp only [pu, pa, pz, ps]
    refine sk 13 (h := ?_)
    try simp only [pu, pa, pz, ps]
    refine sk 14 (h := ?_)
    try simp only [pu, pa, pz, ps]
    refine tk 15 (v := ?_) (hy := ?_) (h := ?_); rotate_left
    · intro _ _; go_simp <;> with_reducible rfl
    try simp only [pu, pa, pz, ps]
    refine tk 16 (v := ?_) (hy := ?_) (h := ?_); rotate_left
    · intro _ _; go_simp <;> with_reducible rfl
    try simp only [pu, pa, pz, ps]
    refine sk 17 (h := ?_)
    try simp only [pu, pa, pz, ps]
    refine sk 18 (h := ?_)
    try simp only [pu, pa, pz, ps]
    refine sk 19 (h := ?_)
    try simp only [pu, pa, pz, ps]
    refine tk 20 (v := ?_) (hy := ?_) (h := ?_); rotate_left
    · intro _ _; go_simp <;> with_reducible rfl
    try simp only [pu, pa, pz, ps]
    refine tk 21 (v := ?_) (hy := ?_) (h := ?_); rotate_left
    · intro _ _; go_simp <;> with_reducible rfl
    try simp only [pu, pa, pz, ps]
    refine sk 22 (h := ?_)
    try simp only [pu, pa, pz, ps]
    refine sk 23 (h := ?_)
    try simp only [pu, pa, pz, ps]
    refine sk 24 (h := ?_)
    try simp only [pu, pa, pz, ps]
    refine sk 25 (h := ?_)
    try simp only [pu, pa, pz, ps]
    refine sk 26 (h := ?_)
    try simp only [pu, pa, pz, ps]
    refine sk 27 (h := ?_)
    try simp only [pu, pa, pz, ps]
    refine tk 28 (v := ?_) (hy := ?_) (h := ?_); rotate_left
    · intro _ _; go_simp <;> with_reducible rfl
    try simp only [pu, pa, pz, ps]
    refine tk 29 (v := ?_) (hy := ?_) (h := ?_); rotate_left
    · intro _ _; go_simp <;> with_reducible rfl
    try simp only [pu, pa, pz, ps]
    refine sk 30 (h := ?_)
    try simp only [pu, pa, pz, ps]
    refine sk 31 (h := ?_)
    try simp only [pu, pa, pz, ps]
    refine sk 32 (h := ?_)
    try simp only [pu, pa, pz, ps]
    refine sk 33 (h := ?_)
    try simp only [pu, pa, pz, ps]
    refine sk 34 (h := ?_)
    try simp only [pu, pa, pz, ps]
    refine sk 35 (h := ?_)
    try simp only [pu, pa, pz, ps]
    refine sk 36 (h := ?_)
    try simp only [pu, pa, pz, ps]
    refine sk 37 (h := ?_)
    try simp only [pu, pa, pz, ps]
    refine sk 38 (h := ?_)
    try simp only [pu, pa, pz, ps]
    refine sk 39 (h := ?_)
    try simp only [pu, pa, pz, ps]
    refine sk 40 (h := ?_)
    try simp only [pu, pa, pz, ps]
    refine sk 41 (h := ?_)
    try simp only [pu, pa, pz, ps]
    refine tk 42 (v := ?_) (hy := ?_) (h := ?_); rotate_left
    · intro _ _; go_simp <;> with_reducible rfl
    try simp only [pu, pa, pz, ps]
    refine tk 43 (v := ?_) (hy := ?_) (h := ?_); rotate_left
    · intro _ _; go_simp <;> with_reducible rfl
    try simp only [pu, pa, pz, ps]
    refine sk 44 (h := ?_)
    try simp only [pu, pa, pz, ps]
    refine sk 45 (h := ?_)
    try simp only [pu, pa, pz, ps]
    refine sk 46 (h := ?_)
    try simp only [pu, pa, pz, ps]
    refine sk 47 (h := ?_)
    try simp only [pu, pa, pz, ps]
    refine sk 48 (h := ?_)
    try simp only [pu, pa, pz, ps]
    refine sk 49 (h := ?_)
    try simp only [pu, pa, pz, ps]
    refine tk 50 (v := ?_) (hy := ?_) (h := ?_); rotate_left
    · intro _ _; go_simp <;> with_reducible rfl
    try simp only [pu, pa, pz, ps]
    refine wpAnyH_done (by kernel_rfl) ?_ _
    have HHw := Lib.hid (HB0.out.trans (hHeld.mono HB0.out.size))
    clear p0 p1 p2 p3 p4
    have g0 := cellB hHeld g0 z1
    have g1 := cellB hHeld g1 z1
    have g2 := cellB hHeld g2 z1
    have g3 := cellB hHeld g3 z1
    have g4 := cellB hHeld g4 z1
    have s0 := cellB hHeld s0 z0
    clear hHeld
    go_wp2_with fail
    refine (hK0 _).mono ?_; rintro r w2 ⟨rfl, rfl⟩
    go_wp2_with fail
    go_ret
    exact ⟨by rw [hres.out]; rfl, HHw.out⟩
  subst h0
  by_cases hm : m = 0
  case neg =>
    have em : (m == 0) = false := by simpa using hm
    have hres := Lib.hid (show Z = 0 by rw [← HZ.out]; unfold singleT; simp [hT, hm])
    clear hm hT
    go_upto_region 17 with fail
    have qq0 := fun wt (h : Below W0.heap.size W0 wt) => cellB h s0 z0
    have qq1 := fun wt (h : Below W0.heap.size W0 wt) => cellB h g0 z1
    have qq2 := fun wt (h : Below W0.heap.size W0 wt) => cellB h g1 z1
    have qq3 := fun wt (h : Below W0.heap.size W0 wt) => cellB h g2 z1
    have qq4 := fun wt (h : Below W0.heap.size W0 wt) => cellB h g3 z1
    refine wp_region_held_drew (S := (fun w' => Below W0.heap.size W0 w')) (by kernel_rfl) ?_ (fun hHeld => ?_)
    · (try dsimp only); first | exact Below.drew hHeld | assumption
    refine tk 0 (v := ?_) (hy := ?_) (h := ?_); rotate_left
    · intro _ _; go_simp <;> with_reducible rfl
    try simp only [pu, pa, pz, ps]
    refine tk 1 (v := ?_) (hy := ?_) (h := ?_); rotate_left
    · intro _ _; go_simp <;> with_reducible rfl
    try simp only [pu, pa, pz, ps]
    refine tk 2 (v := ?_) (hy := ?_) (h := ?_); rotate_left
    · intro wt hSw; (try dsimp only at hSw); go_simp <;> with_reducible rfl
    try simp only [pu, pa, pz, ps]
    refine tk 3 (v := ?_) (hy := ?_) (h := ?_); rotate_left
    · intro _ _; go_simp <;> with_reducible rfl
    try simp only [pu, pa, pz, ps]
    refine tk 4 (v := ?_) (hy := ?_) (h := ?_); rotate_left
    · intro _ _; go_simp <;> with_reducible rfl
    try simp only [pu, pa, pz, ps]
    refine tk 5 (v := ?_) (hy := ?_) (h := ?_); rotate_left
    · intro _ _; go_simp <;> with_reducible rfl
    try simp only [pu, pa, pz, ps]
    refine tk 6 (v := ?_) (hy := ?_) (h := ?_); rotate_left
    · intro _ _; go_simp <;> with_reducible rfl
    try simp only [pu, pa, pz, ps]
    refine tk 7 (v := ?_) (hy := ?_) (h := ?_); rotate_left
    · intro _ _; go_simp <;> with_reducible rfl
    try simp only [pu, pa, pz, ps]
    refine tk 8 (v := ?_) (hy := ?_) (h := ?_); rotate_left
    · intro wt hSw; (try dsimp only at hSw); go_simp <;> with_reducible rfl
    try simp only [pu, pa, pz, ps]
    refine tk 9 (v := ?_) (hy := ?_) (h := ?_); rotate_left
    · intro _ _; go_simp <;> with_reducible rfl
    try simp only [pu, pa, pz, ps]
    refine tk 10 (v := ?_) (hy := ?_) (h := ?_); rotate_left
    · intro _ _; go_simp <;> with_reducible rfl
    try simp only [pu, pa, pz, ps]
    refine tk 11 (v := ?_) (hy := ?_) (h := ?_); rotate_left
    · intro _ _; go_simp <;> with_reducible rfl
    try simp only [pu, pa, pz, ps]
    refine tk 12 (v := ?_) (hy := ?_) (h := ?_); rotate_left
    · intro _ _; go_simp <;> with_reducible rfl
    try simp only [pu, pa, pz, ps]
    refine tk 13 (v := ?_) (hy := ?_) (h := ?_); rotate_left
    · intro wt hSw; (try dsimp only at hSw); go_simp <;> with_reducible rfl
    try simp only [pu, pa, pz, ps]
    refine tk 14 (v := ?_) (hy := ?_) (h := ?_); rotate_left
    · intro _ _; go_simp <;> with_reducible rfl
    try simp only [pu, pa, pz, ps]
    refine tk 15 (v := ?_) (hy := ?_) (h := ?_); rotate_left
    · intro _ _; go_simp <;> with_reducible rfl
    try simp only [pu, pa, pz, ps]
    refine tk 16 (v := ?_) (hy := ?_) (h := ?_); rotate_left
    · intro _ _; go_simp <;> with_reducible rfl
    try simp only [pu, pa, pz, ps]
    refine sk 17 (h := ?_)
    try simp only [pu, pa, pz, ps]
    refine sk 18 (h := ?_)
    try simp only [pu, pa, pz, ps]
    refine sk 19 (h := ?_)
    try simp only [pu, pa, pz, ps]
    refine tk 20 (v := ?_) (hy := ?_) (h := ?_); rotate_left
    · intro _ _; go_simp <;> with_reducible rfl
    try simp only [pu, pa, pz, ps]
    refine tk 21 (v := ?_) (hy := ?_) (h := ?_); rotate_left
    · intro _ _; go_simp <;> with_reducible rfl
    try simp only [pu, pa, pz, ps]
    refine sk 22 (h := ?_)
    try simp only [pu, pa, pz, ps]
    refine sk 23 (h := ?_)
    try simp only [pu, pa, pz, ps]
    refine sk 24 (h := ?_)
    try simp only [pu, pa, pz, ps]
    refine sk 25 (h := ?_)
    try simp only [pu, pa, pz, ps]
    refine sk 26 (h := ?_)
    try simp only [pu, pa, pz, ps]
    refine sk 27 (h := ?_)
    try simp only [pu, pa, pz, ps]
    refine tk 28 (v := ?_) (hy := ?_) (h := ?_); rotate_left
    · intro _ _; go_simp <;> with_reducible rfl
    try simp only [pu, pa, pz, ps]
    refine tk 29 (v := ?_) (hy := ?_) (h := ?_); rotate_left
    · intro _ _; go_simp <;> with_reducible rfl
    try simp only [pu, pa, pz, ps]
    refine sk 30 (h := ?_)
    try simp only [pu, pa, pz, ps]
    refine sk 31 (h := ?_)
    try simp only [pu, pa, pz, ps]
    refine sk 32 (h := ?_)
    try simp only [pu, pa, pz, ps]
    refine sk 33 (h := ?_)
    try simp only [pu, pa, pz, ps]
    refine sk 34 (h := ?_)
    try simp only [pu, pa, pz, ps]
    refine sk 35 (h := ?_)
    try simp only [pu, pa, pz, ps]
    refine sk 36 (h := ?_)
    try simp only [pu, pa, pz, ps]
    refine sk 37 (h := ?_)
    try simp only [pu, pa, pz, ps]
    refine sk 38 (h := ?_)
    try simp only [pu, pa, pz, ps]
    refine sk 39 (h := ?_)
    try simp only [pu, pa, pz, ps]
    refine sk 40 (h := ?_)
    try simp only [pu, pa, pz, ps]
    refine sk 41 (h := ?_)
    try simp only [pu, pa, pz, ps]
    refine tk 42 (v := ?_) (hy := ?_) (h := ?_); rotate_left
    · intro _ _; go_simp <;> with_reducible rfl
    try simp only [pu, pa, pz, ps]
    refine tk 43 (v := ?_) (hy := ?_) (h := ?_); rotate_left
    · intro _ _; go_simp <;> with_reducible rfl
    try simp only [pu, pa, pz, ps]
    refine sk 44 (h := ?_)
    try simp only [pu, pa, pz, ps]
    refine sk 45 (h := ?_)
    try simp only [pu, pa, pz, ps]
    refine sk 46 (h := ?_)
    try simp only [pu, pa, pz, ps]
    refine sk 47 (h := ?_)
    try simp only [pu, pa, pz, ps]
    refine sk 48 (h := ?_)
    try simp only [pu, pa, pz, ps]
    refine sk 49 (h := ?_)
    try simp only [pu, pa, pz, ps]
    refine tk 50 (v := ?_) (hy := ?_) (h := ?_); rotate_left
    · intro _ _; go_simp <;> with_reducible rfl
    try simp only [pu, pa, pz, ps]
    refine wpAnyH_done (by kernel_rfl) ?_ _
    have HHw := Lib.hid (HB0.out.trans (hHeld.mono HB0.out.size))
    clear p0 p1 p2 p3 p4
    have g0 := cellB hHeld g0 z1
    have g1 := cellB hHeld g1 z1
    have g2 := cellB hHeld g2 z1
    have g3 := cellB hHeld g3 z1
    have g4 := cellB hHeld g4 z1
    have s0 := cellB hHeld s0 z0
    clear hHeld
    go_wp2_with fail
    refine (hK0 _).mono ?_; rintro r w2 ⟨rfl, rfl⟩
    go_wp2_with fail
    go_ret
    exact ⟨by rw [hres.out]; rfl, HHw.out⟩
  subst hm
  by_cases hn : 0 ≤ n
  case neg =>
    have en : (0 ≤ n) = False := eq_false hn
    have hin : inb n NV = false := decide_eq_false (fun h => hn h.1)
    have hres := Lib.hid (show Z = 0 by rw [← HZ.out]; unfold singleT; simp [hT, HNV.out, hin])
    clear hn hin hT
    go_upto_region 17 with fail
    have qq0 := fun wt (h : Below W0.heap.size W0 wt) => cellB h s0 z0
    have qq1 := fun wt (h : Below W0.heap.size W0 wt) => cellB h g0 z1
    have qq2 := fun wt (h : Below W0.heap.size W0 wt) => cellB h g1 z1
    have qq3 := fun wt (h : Below W0.heap.size W0 wt) => cellB h g2 z1
    have qq4 := fun wt (h : Below W0.heap.size W0 wt) => cellB h g3 z1
    refine wp_region_held_drew (S := (fun w' => Below W0.heap.size W0 w')) (by kernel_rfl) ?_ (fun hHeld => ?_)
    · (try dsimp only); first | exact Below.drew hHeld | assumption
    refine tk 0 (v := ?_) (hy := ?_) (h := ?_); rotate_left
    · intro _ _; go_simp <;> with_reducible rfl
    try simp only [pu, pa, pz, ps]
    refine tk 1 (v := ?_) (hy := ?_) (h := ?_); rotate_left
    · intro _ _; go_simp <;> with_reducible rfl
    try simp only [pu, pa, pz, ps]
    refine tk 2 (v := ?_) (hy := ?_) (h := ?_); rotate_left
    · intro wt hSw; (try dsimp only at hSw); go_simp <;> with_reducible rfl
    try simp only [pu, pa, pz, ps]
    refine tk 3 (v := ?_) (hy := ?_) (h := ?_); rotate_left
    · intro _ _; go_simp <;> with_reducible rfl
    try simp only [pu, pa, pz, ps]
    refine tk 4 (v := ?_) (hy := ?_) (h := ?_); rotate_left
    · intro _ _; go_simp <;> with_reducible rfl
    try simp only [pu, pa, pz, ps]
    refine tk 5 (v := ?_) (hy := ?_) (h := ?_); rotate_left
    · intro _ _; go_simp <;> with_reducible rfl
    try simp only [pu, pa, pz, ps]
    refine tk 6 (v := ?_) (hy := ?_) (h := ?_); rotate_left
    · intro _ _; go_simp <;> with_reducible rfl
    try simp only [pu, pa, pz, ps]
    refine tk 7 (v := ?_) (hy := ?_) (h := ?_); rotate_left
    · intro _ _; go_simp <;> with_reducible rfl
    try simp only [pu, pa, pz, ps]
    refine tk 8 (v := ?_) (hy := ?_) (h := ?_); rotate_left
    · intro wt hSw; (try dsimp only at hSw); go_simp <;> with_reducible rfl
    try simp only [pu, pa, pz, ps]
    refine tk 9 (v := ?_) (hy := ?_) (h := ?_); rotate_left
    · intro _ _; go_simp <;> with_reducible rfl
    try simp only [pu, pa, pz, ps]
    refine tk 10 (v := ?_) (hy := ?_) (h := ?_); rotate_left
    · intro _ _; go_simp <;> with_reducible rfl
    try simp only [pu, pa, pz, ps]
    refine tk 11 (v := ?_) (hy := ?_) (h := ?_); rotate_left
    · intro _ _; go_simp <;> with_reducible rfl
    try simp only [pu, pa, pz, ps]
    refine tk 12 (v := ?_) (hy := ?_) (h := ?_); rotate_left
    · intro _ _; go_simp <;> with_reducible rfl
    try simp only [pu, pa, pz, ps]
    refine tk 13 (v := ?_) (hy := ?_) (h := ?_); rotate_left
    · intro wt hSw; (try dsimp only at hSw); go_simp <;> with_reducible rfl
    try simp only [pu, pa, pz, ps]
    refine tk 14 (v := ?_) (hy := ?_) (h := ?_); rotate_left
    · intro _ _; go_simp <;> with_reducible rfl
    try simp only [pu, pa, pz, ps]
    refine tk 15 (v := ?_) (hy := ?_) (h := ?_); rotate_left
    · intro _ _; go_simp <;> with_reducible rfl
    try simp only [pu, pa, pz, ps]
    refine tk 16 (v := ?_) (hy := ?_) (h := ?_); rotate_left
    · intro _ _; go_simp <;> with_reducible rfl
    try simp only [pu, pa, pz, ps]
    refine tk 17 (v := ?_) (hy := ?_) (h := ?_); rotate_left
    · intro _ _; go_simp <;> with_reducible rfl
    try simp only [pu, pa, pz, ps]
    refine tk 18 (v := ?_) (hy := ?_) (h := ?_); rotate_left
    · intro wt hSw; (try dsimp only at hSw); go_simp <;> with_reducible rfl
    try simp only [pu, pa, pz, ps]
    refine tk 19 (v := ?_) (hy := ?_) (h := ?_); rotate_left
    · intro _ _; go_simp <;> with_reducible rfl
    try simp only [pu, pa, pz, ps]
    refine tk 20 (v := ?_) (hy := ?_) (h := ?_); rotate_left
    · intro _ _; go_simp <;> with_reducible rfl
    try simp only [pu, pa, pz, ps]
    refine tk 21 (v := ?_) (hy := ?_) (h := ?_); rotate_left
    · intro _ _; go_simp <;> with_reducible rfl
    try simp only [pu, pa, pz, ps]
    refine sk 22 (h := ?_)
    try simp only [pu, pa, pz, ps]
    refine sk 23 (h := ?_)
    try simp only [pu, pa, pz, ps]
    refine sk 24 (h := ?_)
    try simp only [pu, pa, pz, ps]
    refine sk 25 (h := ?_)
    try simp only [pu, pa, pz, ps]
    refine sk 26 (h := ?_)
    try simp only [pu, pa, pz, ps]
    refine sk 27 (h := ?_)
    try simp only [pu, pa, pz, ps]
    refine tk 28 (v := ?_) (hy := ?_) (h := ?_); rotate_left
    · intro _ _; go_simp <;> with_reducible rfl
    try simp only [pu, pa, pz, ps]
    refine tk 29 (v := ?_) (hy := ?_) (h := ?_); rotate_left
    · intro _ _; go_simp <;> with_reducible rfl
    try simp only [pu, pa, pz, ps]
    refine sk 30 (h := ?_)
    try simp only [pu, pa, pz, ps]
    refine sk 31 (h := ?_)
    try simp only [pu, pa, pz, ps]
    refine sk 32 (h := ?_)
    try simp only [pu, pa, pz, ps]
    refine sk 33 (h := ?_)
    try simp only [pu, pa, pz, ps]
    refine sk 34 (h := ?_)
    try simp only [pu, pa, pz, ps]
    refine sk 35 (h := ?_)
    try simp only [pu, pa, pz, ps]
    refine sk 36 (h := ?_)
    try simp only [pu, pa, pz, ps]
    refine sk 37 (h := ?_)
    try simp only [pu, pa, pz, ps]
    refine sk 38 (h := ?_)
    try simp only [pu, pa, pz, ps]
    refine sk 39 (h := ?_)
    try simp only [pu, pa, pz, ps]
    refine sk 40 (h := ?_)
    try simp only [pu, pa, pz, ps]
    refine sk 41 (h := ?_)
    try simp only [pu, pa, pz, ps]
    refine tk 42 (v := ?_) (hy := ?_) (h := ?_); rotate_left
    · intro _ _; go_simp <;> with_reducible rfl
    try simp only [pu, pa, pz, ps]
    refine tk 43 (v := ?_) (hy := ?_) (h := ?_); rotate_left
    · intro _ _; go_simp <;> with_reducible rfl
    try simp only [pu, pa, pz, ps]
    refine sk 44 (h := ?_)
    try simp only [pu, pa, pz, ps]
    refine sk 45 (h := ?_)
    try simp only [pu, pa, pz, ps]
    refine sk 46 (h := ?_)
    try simp only [pu, pa, pz, ps]
    refine sk 47 (h := ?_)
    try simp only [pu, pa, pz, ps]
    refine sk 48 (h := ?_)
    try simp only [pu, pa, pz, ps]
    refine sk 49 (h := ?_)
    try simp only [pu, pa, pz, ps]
    refine tk 50 (v := ?_) (hy := ?_) (h := ?_); rotate_left
    · intro _ _; go_simp <;> with_reducible rfl
    try simp only [pu, pa, pz, ps]
    refine wpAnyH_done (by kernel_rfl) ?_ _
    have HHw := Lib.hid (HB0.out.trans (hHeld.mono HB0.out.size))
    clear p0 p1 p2 p3 p4
    have g0 := cellB hHeld g0 z1
    have g1 := cellB hHeld g1 z1
    have g2 := cellB hHeld g2 z1
    have g3 := cellB hHeld g3 z1
    have g4 := cellB hHeld g4 z1
    have s0 := cellB hHeld s0 z0
    clear hHeld
    go_wp2_with fail
    refine (hK0 _).mono ?_; rintro r w2 ⟨rfl, rfl⟩
    go_wp2_with fail
    go_ret
    exact ⟨by rw [hres.out]; rfl, HHw.out⟩
  obtain ⟨k, rfl⟩ : ∃ k : Nat, n = (k : Int) := ⟨n.toNat, by omega⟩
  by_cases hk : k < NV
  case neg =>
    have ek : ((k : Int) < (NV : Int)) = False := eq_false (by omega)
    have ek2 : (k < NV) = False := eq_false hk
    have hin : inb (k : Int) NV = false := decide_eq_false (by omega)
    have hres := Lib.hid (show Z = 0 by rw [← HZ.out]; unfold singleT; simp [hT, HNV.out, hin])
    clear hn hin hk hT
    go_upto_region 17 with fail
    have qq0 := fun wt (h : Below W0.heap.size W0 wt) => cellB h s0 z0
    have qq1 := fun wt (h : Below W0.heap.size W0 wt) => cellB h g0 z1
    have qq2 := fun wt (h : Below W0.heap.size W0 wt) => cellB h g1 z1
    have qq3 := fun wt (h : Below W0.heap.size W0 wt) => cellB h g2 z1
    have qq4 := fun wt (h : Below W0.heap.size W0 wt) => cellB h g3 z1
    refine wp_region_held_drew (S := (fun w' => Below W0.heap.size W0 w')) (by kernel_rfl) ?_ (fun hHeld => ?_)
    · (try dsimp only); first | exact Below.drew hHeld | assumption
    refine tk 0 (v := ?_) (hy := ?_) (h := ?_); rotate_left
    · intro _ _; go_simp <;> with_reducible rfl
    try simp only [pu, pa, pz, ps]
    refine tk 1 (v := ?_) (hy := ?_) (h := ?_); rotate_left
    · intro _ _; go_simp <;> with_reducible rfl
    try simp only [pu, pa, pz, ps]
    refine tk 2 (v := ?_) (hy := ?_) (h := ?_); rotate_left
    · intro wt hSw; (try dsimp only at hSw); go_simp <;> with_reducible rfl
    try simp only [pu, pa, pz, ps]
    refine tk 3 (v := ?_) (hy := ?_) (h := ?_); rotate_left
    · intro _ _; go_simp <;> with_reducible rfl
    try simp only [pu, pa, pz, ps]
    refine tk 4 (v := ?_) (hy := ?_) (h := ?_); rotate_left
    · intro _ _; go_simp <;> with_reducible rfl
    try simp only [pu, pa, pz, ps]
    refine tk 5 (v := ?_) (hy := ?_) (h := ?_); rotate_left
    · intro _ _; go_simp <;> with_reducible rfl
    try simp only [pu, pa, pz, ps]
    refine tk 6 (v := ?_) (hy := ?_) (h := ?_); rotate_left
    · intro _ _; go_simp <;> with_reducible rfl
    try simp only [pu, pa, pz, ps]
    refine tk 7 (v := ?_) (hy := ?_) (h := ?_); rotate_left
    · intro _ _; go_simp <;> with_reducible rfl
    try simp only [pu, pa, pz, ps]
    refine tk 8 (v := ?_) (hy := ?_) (h := ?_); rotate_left
    · intro wt hSw; (try dsimp only at hSw); go_simp <;> with_reducible rfl
    try simp only [pu, pa, pz, ps]
    refine tk 9 (v := ?_) (hy := ?_) (h := ?_); rotate_left
    · intro _ _; go_simp <;> with_reducible rfl
    try simp only [pu, pa, pz, ps]
    refine tk 10 (v := ?_) (hy := ?_) (h := ?_); rotate_left
    · intro _ _; go_simp <;> with_reducible rfl
    try simp only [pu, pa, pz, ps]
    refine tk 11 (v := ?_) (hy := ?_) (h := ?_); rotate_left
    · intro _ _; go_simp <;> with_reducible rfl
    try simp only [pu, pa, pz, ps]
    refine tk 12 (v := ?_) (hy := ?_) (h := ?_); rotate_left
    · intro _ _; go_simp <;> with_reducible rfl
    try simp only [pu, pa, pz, ps]
    refine tk 13 (v := ?_) (hy := ?_) (h := ?_); rotate_left
    · intro wt hSw; (try dsimp only at hSw); go_simp <;> with_reducible rfl
    try simp only [pu, pa, pz, ps]
    refine tk 14 (v := ?_) (hy := ?_) (h := ?_); rotate_left
    · intro _ _; go_simp <;> with_reducible rfl
    try simp only [pu, pa, pz, ps]
    refine tk 15 (v := ?_) (hy := ?_) (h := ?_); rotate_left
    · intro _ _; go_simp <;> with_reducible rfl
    try simp only [pu, pa, pz, ps]
    refine tk 16 (v := ?_) (hy := ?_) (h := ?_); rotate_left
    · intro _ _; go_simp <;> with_reducible rfl
    try simp only [pu, pa, pz, ps]
    refine tk 17 (v := ?_) (hy := ?_) (h := ?_); rotate_left
    · intro _ _; go_simp <;> with_reducible rfl
    try simp only [pu, pa, pz, ps]
    refine tk 18 (v := ?_) (hy := ?_) (h := ?_); rotate_left
    · intro wt hSw; (try dsimp only at hSw); go_simp <;> with_reducible rfl
    try simp only [pu, pa, pz, ps]
    refine tk 19 (v := ?_) (hy := ?_) (h := ?_); rotate_left
    · intro _ _; go_simp <;> with_reducible rfl
    try simp only [pu, pa, pz, ps]
    refine tk 20 (v := ?_) (hy := ?_) (h := ?_); rotate_left
    · intro _ _; go_simp <;> with_reducible rfl
    try simp only [pu, pa, pz, ps]
    refine tk 21 (v := ?_) (hy := ?_) (h := ?_); rotate_left
    · intro _ _; go_simp <;> with_reducible rfl
    try simp only [pu, pa, pz, ps]
    refine tk 22 (v := ?_) (hy := ?_) (h := ?_); rotate_left
    · intro _ _; go_simp <;> with_reducible rfl
    try simp only [pu, pa, pz, ps]
    refine tk 23 (v := ?_) (hy := ?_) (h := ?_); rotate_left
    · intro wt hSw; (try dsimp only at hSw); go_simp <;> with_reducible rfl
    try simp only [pu, pa, pz, ps]
    refine tk 24 (v := ?_) (hy := ?_) (h := ?_); rotate_left
    · intro _ _; go_simp <;> with_reducible rfl
    try simp only [pu, pa, pz, ps]
    refine tk 25 (v := ?_) (hy := ?_) (h := ?_); rotate_left
    · intro wt hSw; (try dsimp only at hSw); go_simp <;> with_reducible rfl
    try simp only [pu, pa, pz, ps]
    refine tk 26 (v := ?_) (hy := ?_) (h := ?_); rotate_left
    · intro _ _; go_simp <;> with_reducible rfl
    try simp only [pu, pa, pz, ps]
    refine tk 27 (v := ?_) (hy := ?_) (h := ?_); rotate_left
    · intro _ _; go_simp <;> with_reducible rfl
    try simp only [pu, pa, pz, ps]
    refine tk 28 (v := ?_) (hy := ?_) (h := ?_); rotate_left
    · intro _ _; go_simp <;> with_reducible rfl
    try simp only [pu, pa, pz, ps]
    refine tk 29 (v := ?_) (hy := ?_) (h := ?_); rotate_left
    · intro _ _; go_simp <;> with_reducible rfl
    try simp only [pu, pa, pz, ps]
    refine sk 30 (h := ?_)
    try simp only [pu, pa, pz, ps]
    refine sk 31 (h := ?_)
    try simp only [pu, pa, pz, ps]
    refine sk 32 (h := ?_)
    try simp only [pu, pa, pz, ps]
    refine sk 33 (h := ?_)
    try simp only [pu, pa, pz, ps]
    refine sk 34 (h := ?_)
    try simp only [pu, pa, pz, ps]
    refine sk 35 (h := ?_)
    try simp only [pu, pa, pz, ps]
    refine sk 36 (h := ?_)
    try simp only [pu, pa, pz, ps]
    refine sk 37 (h := ?_)
    try simp only [pu, pa, pz, ps]
    refine sk 38 (h := ?_)
    try simp only [pu, pa, pz, ps]
    refine sk 39 (h := ?_)
    try simp only [pu, pa, pz, ps]
    refine sk 40 (h := ?_)
    try simp only [pu, pa, pz, ps]
    refine sk 41 (h := ?_)
    try simp only [pu, pa, pz, ps]
    refine tk 42 (v := ?_) (hy := ?_) (h := ?_); rotate_left
    · intro _ _; go_simp <;> with_reducible rfl
    try simp only [pu, pa, pz, ps]
    refine tk 43 (v := ?_) (hy := ?_) (h := ?_); rotate_left
    · intro _ _; go_simp <;> with_reducible rfl
    try simp only [pu, pa, pz, ps]
    refine sk 44 (h := ?_)
    try simp only [pu, pa, pz, ps]
    refine sk 45 (h := ?_)
    try simp only [pu, pa, pz, ps]
    refine sk 46 (h := ?_)
    try simp only [pu, pa, pz, ps]
    refine sk 47 (h := ?_)
    try simp only [pu, pa, pz, ps]
    refine sk 48 (h := ?_)
    try simp only [pu, pa, pz, ps]
    refine sk 49 (h := ?_)
    try simp only [pu, pa, pz, ps]
    refine tk 50 (v := ?_) (hy := ?_) (h := ?_); rotate_left
    · intro _ _; go_simp <;> with_reducible rfl
    try simp only [pu, pa, pz, ps]
    refine wpAnyH_done (by kernel_rfl) ?_ _
    have HHw := Lib.hid (HB0.out.trans (hHeld.mono HB0.out.size))
    clear p0 p1 p2 p3 p4
    have g0 := cellB hHeld g0 z1
    have g1 := cellB hHeld g1 z1
    have g2 := cellB hHeld g2 z1
    have g3 := cellB hHeld g3 z1
    have g4 := cellB hHeld g4 z1
    have s0 := cellB hHeld s0 z0
    clear hHeld
    go_wp2_with fail
    refine (hK0 _).mono ?_; rintro r w2 ⟨rfl, rfl⟩
    go_wp2_with fail
    go_ret
    exact ⟨by rw [hres.out]; rfl, HHw.out⟩
  have hin : inb (k : Int) NV = true := decide_eq_true (by omega)
  obtain ⟨x', hx⟩ := get_some (L := s.vars) (n := k) (by rw [HNV.out]; exact hk)
  obtain ⟨bv, ov, rfl, hbv, hc⟩ := var_at HS.out (k := k) (by rw [HNV.out]; exact hk)
  obtain ⟨_, f1, f2, _, _, _⟩ := hc k x' hx
  have f1 := (HB0.out.cell (p := ⟨bv, ov + k * 5 + 1, none⟩) hbv).trans f1
  have f2 := (HB0.out.cell (p := ⟨bv, ov + k * 5 + 2, none⟩) hbv).trans f2
  have zv : bv < W0.heap.size := Nat.lt_of_lt_of_le hbv HB0.out.size
  have hxv : s.v (k : Int) = x' := by unfold Sc.v; simp [List.getD, hx]
  have qk : ((k : Int) < (NV : Int)) = True := eq_true (by omega)
  have qk' : (k < NV) = True := eq_true hk
  have hcapv := cap_row HS.out hk
  have HX := Lib.hid (show Z = if T = 2 then (if 2 ≤ x'.n then keepR x'.t else 0) else 0 by
    rw [← HZ.out]
    unfold singleT
    by_cases h2 : T = 2
    · simp [h2, HNV.out, hin, hxv]
    · simp [h2, hT])
  have hK := ref01_Right x'.t
  generalize x'.n = xn at *
  generalize x'.t = xt at *
  clear hin hn hc hx hxv hk HZ
  by_cases h2 : 2 ≤ xn
  case neg =>
    have e2 : (1 < xn) = False := eq_false (by omega)
    have hres := Lib.hid (show Z = 0 by rw [HX.out]; simp [h2])
    clear h2 hT HX
    go_upto_region 17 with fail
    have qq0 := fun wt (h : Below W0.heap.size W0 wt) => cellB h s0 z0
    have qq1 := fun wt (h : Below W0.heap.size W0 wt) => cellB h g0 z1
    have qq2 := fun wt (h : Below W0.heap.size W0 wt) => cellB h g1 z1
    have qq3 := fun wt (h : Below W0.heap.size W0 wt) => cellB h g2 z1
    have qq4 := fun wt (h : Below W0.heap.size W0 wt) => cellB h g3 z1
    have qq5 := fun wt (h : Below W0.heap.size W0 wt) => cellB h f2 zv
    refine wp_region_held_drew (S := (fun w' => Below W0.heap.size W0 w')) (by kernel_rfl) ?_ (fun hHeld => ?_)
    · (try dsimp only); first | exact Below.drew hHeld | assumption
    refine tk 0 (v := ?_) (hy := ?_) (h := ?_); rotate_left
    · intro _ _; go_simp <;> with_reducible rfl
    try simp only [pu, pa, pz, ps]
    refine tk 1 (v := ?_) (hy := ?_) (h := ?_); rotate_left
    · intro _ _; go_simp <;> with_reducible rfl
    try simp only [pu, pa, pz, ps]
    refine tk 2 (v := ?_) (hy := ?_) (h := ?_); rotate_left
    · intro wt hSw; (try dsimp only at hSw); go_simp <;> with_reducible rfl
    try simp only [pu, pa, pz, ps]
    refine tk 3 (v := ?_) (hy := ?_) (h := ?_); rotate_left
    · intro _ _; go_simp <;> with_reducible rfl
    try simp only [pu, pa, pz, ps]
    refine tk 4 (v := ?_) (hy := ?_) (h := ?_); rotate_left
    · intro _ _; go_simp <;> with_reducible rfl
    try simp only [pu, pa, pz, ps]
    refine tk 5 (v := ?_) (hy := ?_) (h := ?_); rotate_left
    · intro _ _; go_simp <;> with_reducible rfl
    try simp only [pu, pa, pz, ps]
    refine tk 6 (v := ?_) (hy := ?_) (h := ?_); rotate_left
    · intro _ _; go_simp <;> with_reducible rfl
    try simp only [pu, pa, pz, ps]
    refine tk 7 (v := ?_) (hy := ?_) (h := ?_); rotate_left
    · intro _ _; go_simp <;> with_reducible rfl
    try simp only [pu, pa, pz, ps]
    refine tk 8 (v := ?_) (hy := ?_) (h := ?_); rotate_left
    · intro wt hSw; (try dsimp only at hSw); go_simp <;> with_reducible rfl
    try simp only [pu, pa, pz, ps]
    refine tk 9 (v := ?_) (hy := ?_) (h := ?_); rotate_left
    · intro _ _; go_simp <;> with_reducible rfl
    try simp only [pu, pa, pz, ps]
    refine tk 10 (v := ?_) (hy := ?_) (h := ?_); rotate_left
    · intro _ _; go_simp <;> with_reducible rfl
    try simp only [pu, pa, pz, ps]
    refine tk 11 (v := ?_) (hy := ?_) (h := ?_); rotate_left
    · intro _ _; go_simp <;> with_reducible rfl
    try simp only [pu, pa, pz, ps]
    refine tk 12 (v := ?_) (hy := ?_) (h := ?_); rotate_left
    · intro _ _; go_simp <;> with_reducible rfl
    try simp only [pu, pa, pz, ps]
    refine tk 13 (v := ?_) (hy := ?_) (h := ?_); rotate_left
    · intro wt hSw; (try dsimp only at hSw); go_simp <;> with_reducible rfl
    try simp only [pu, pa, pz, ps]
    refine tk 14 (v := ?_) (hy := ?_) (h := ?_); rotate_left
    · intro _ _; go_simp <;> with_reducible rfl
    try simp only [pu, pa, pz, ps]
    refine tk 15 (v := ?_) (hy := ?_) (h := ?_); rotate_left
    · intro _ _; go_simp <;> with_reducible rfl
    try simp only [pu, pa, pz, ps]
    refine tk 16 (v := ?_) (hy := ?_) (h := ?_); rotate_left
    · intro _ _; go_simp <;> with_reducible rfl
    try simp only [pu, pa, pz, ps]
    refine tk 17 (v := ?_) (hy := ?_) (h := ?_); rotate_left
    · intro _ _; go_simp <;> with_reducible rfl
    try simp only [pu, pa, pz, ps]
    refine tk 18 (v := ?_) (hy := ?_) (h := ?_); rotate_left
    · intro wt hSw; (try dsimp only at hSw); go_simp <;> with_reducible rfl
    try simp only [pu, pa, pz, ps]
    refine tk 19 (v := ?_) (hy := ?_) (h := ?_); rotate_left
    · intro _ _; go_simp <;> with_reducible rfl
    try simp only [pu, pa, pz, ps]
    refine tk 20 (v := ?_) (hy := ?_) (h := ?_); rotate_left
    · intro _ _; go_simp <;> with_reducible rfl
    try simp only [pu, pa, pz, ps]
    refine tk 21 (v := ?_) (hy := ?_) (h := ?_); rotate_left
    · intro _ _; go_simp <;> with_reducible rfl
    try simp only [pu, pa, pz, ps]
    refine tk 22 (v := ?_) (hy := ?_) (h := ?_); rotate_left
    · intro _ _; go_simp <;> with_reducible rfl
    try simp only [pu, pa, pz, ps]
    refine tk 23 (v := ?_) (hy := ?_) (h := ?_); rotate_left
    · intro wt hSw; (try dsimp only at hSw); go_simp <;> with_reducible rfl
    try simp only [pu, pa, pz, ps]
    refine tk 24 (v := ?_) (hy := ?_) (h := ?_); rotate_left
    · intro _ _; go_simp <;> with_reducible rfl
    try simp only [pu, pa, pz, ps]
    refine tk 25 (v := ?_) (hy := ?_) (h := ?_); rotate_left
    · intro wt hSw; (try dsimp only at hSw); go_simp <;> with_reducible rfl
    try simp only [pu, pa, pz, ps]
    refine tk 26 (v := ?_) (hy := ?_) (h := ?_); rotate_left
    · intro _ _; go_simp <;> with_reducible rfl
    try simp only [pu, pa, pz, ps]
    refine tk 27 (v := ?_) (hy := ?_) (h := ?_); rotate_left
    · intro _ _; go_simp <;> with_reducible rfl
    try simp only [pu, pa, pz, ps]
    refine tk 28 (v := ?_) (hy := ?_) (h := ?_); rotate_left
    · intro _ _; go_simp <;> with_reducible rfl
    try simp only [pu, pa, pz, ps]
    refine tk 29 (v := ?_) (hy := ?_) (h := ?_); rotate_left
    · intro _ _; go_simp <;> with_reducible rfl
    try simp only [pu, pa, pz, ps]
    refine tk 30 (v := ?_) (hy := ?_) (h := ?_); rotate_left
    · intro _ _; go_simp <;> with_reducible rfl
    try simp only [pu, pa, pz, ps]
    refine tk 31 (v := ?_) (hy := ?_) (h := ?_); rotate_left
    · intro wt hSw; (try dsimp only at hSw); go_simp <;> with_reducible rfl
    try simp only [pu, pa, pz, ps]
    refine tk 32 (v := ?_) (hy := ?_) (h := ?_); rotate_left
    · intro _ _; go_simp <;> with_reducible rfl
    try simp only [pu, pa, pz, ps]
    refine tk 33 (v := ?_) (hy := ?_) (h := ?_); rotate_left
    · intro wt hSw; (try dsimp only at hSw); go_simp <;> with_reducible rfl
    try simp only [pu, pa, pz, ps]
    refine tk 34 (v := ?_) (hy := ?_) (h := ?_); rotate_left
    · intro _ _; go_simp <;> with_reducible rfl
    try simp only [pu, pa, pz, ps]
    refine tk 35 (v := ?_) (hy := ?_) (h := ?_); rotate_left
    · intro _ _; go_simp <;> with_reducible rfl
    try simp only [pu, pa, pz, ps]
    refine tk 36 (v := ?_) (hy := ?_) (h := ?_); rotate_left
    · intro wt hSw; (try dsimp only at hSw); go_simp <;> with_reducible rfl
    try simp only [pu, pa, pz, ps]
    refine tk 37 (v := ?_) (hy := ?_) (h := ?_); rotate_left
    · intro _ _; go_simp <;> with_reducible rfl
    try simp only [pu, pa, pz, ps]
    refine tk 38 (v := ?_) (hy := ?_) (h := ?_); rotate_left
    · intro _ _; go_simp <;> with_reducible rfl
    try simp only [pu, pa, pz, ps]
    refine tk 39 (v := ?_) (hy := ?_) (h := ?_); rotate_left
    · intro wt hSw; (try dsimp only at hSw); go_simp <;> with_reducible rfl
    try simp only [pu, pa, pz, ps]
    refine tk 40 (v := ?_) (hy := ?_) (h := ?_); rotate_left
    · intro _ _; go_simp <;> with_reducible rfl
    try simp only [pu, pa, pz, ps]
    refine tk 41 (v := ?_) (hy := ?_) (h := ?_); rotate_left
    · intro _ _; go_simp <;> with_reducible rfl
    try simp only [pu, pa, pz, ps]
    refine tk 42 (v := ?_) (hy := ?_) (h := ?_); rotate_left
    · intro _ _; go_simp <;> with_reducible rfl
    try simp only [pu, pa, pz, ps]
    refine tk 43 (v := ?_) (hy := ?_) (h := ?_); rotate_left
    · intro _ _; go_simp <;> with_reducible rfl
    try simp only [pu, pa, pz, ps]
    refine sk 44 (h := ?_)
    try simp only [pu, pa, pz, ps]
    refine sk 45 (h := ?_)
    try simp only [pu, pa, pz, ps]
    refine sk 46 (h := ?_)
    try simp only [pu, pa, pz, ps]
    refine sk 47 (h := ?_)
    try simp only [pu, pa, pz, ps]
    refine sk 48 (h := ?_)
    try simp only [pu, pa, pz, ps]
    refine sk 49 (h := ?_)
    try simp only [pu, pa, pz, ps]
    refine tk 50 (v := ?_) (hy := ?_) (h := ?_); rotate_left
    · intro _ _; go_simp <;> with_reducible rfl
    try simp only [pu, pa, pz, ps]
    refine wpAnyH_done (by kernel_rfl) ?_ _
    have HHw := Lib.hid (HB0.out.trans (hHeld.mono HB0.out.size))
    clear p0 p1 p2 p3 p4
    have g0 := cellB hHeld g0 z1
    have g1 := cellB hHeld g1 z1
    have g2 := cellB hHeld g2 z1
    have g3 := cellB hHeld g3 z1
    have g4 := cellB hHeld g4 z1
    have s0 := cellB hHeld s0 z0
    clear hHeld
    go_wp2_with fail
    refine (hK0 _).mono ?_; rintro r w2 ⟨rfl, rfl⟩
    go_wp2_with fail
    go_ret
    exact ⟨by rw [hres.out]; rfl, HHw.out⟩
  have e2 : (1 < xn) = True := eq_true (by omega)
  by_cases hT2 : T = 2
  case neg =>
    have eT2 : (T == 2) = false := by simpa using hT2
    have hres := Lib.hid (show Z = 0 by rw [HX.out, if_neg hT2])
    clear h2 hT HX hT2
    go_upto_region 17 with fail
    have qq0 := fun wt (h : Below W0.heap.size W0 wt) => cellB h s0 z0
    have qq1 := fun wt (h : Below W0.heap.size W0 wt) => cellB h g0 z1
    have qq2 := fun wt (h : Below W0.heap.size W0 wt) => cellB h g1 z1
    have qq3 := fun wt (h : Below W0.heap.size W0 wt) => cellB h g2 z1
    have qq4 := fun wt (h : Below W0.heap.size W0 wt) => cellB h g3 z1
    have qq5 := fun wt (h : Below W0.heap.size W0 wt) => cellB h f2 zv
    refine wp_region_held_drew (S := (fun w' => Below W0.heap.size W0 w')) (by kernel_rfl) ?_ (fun hHeld => ?_)
    · (try dsimp only); first | exact Below.drew hHeld | assumption
    refine tk 0 (v := ?_) (hy := ?_) (h := ?_); rotate_left
    · intro _ _; go_simp <;> with_reducible rfl
    try simp only [pu, pa, pz, ps]
    refine tk 1 (v := ?_) (hy := ?_) (h := ?_); rotate_left
    · intro _ _; go_simp <;> with_reducible rfl
    try simp only [pu, pa, pz, ps]
    refine tk 2 (v := ?_) (hy := ?_) (h := ?_); rotate_left
    · intro wt hSw; (try dsimp only at hSw); go_simp <;> with_reducible rfl
    try simp only [pu, pa, pz, ps]
    refine tk 3 (v := ?_) (hy := ?_) (h := ?_); rotate_left
    · intro _ _; go_simp <;> with_reducible rfl
    try simp only [pu, pa, pz, ps]
    refine tk 4 (v := ?_) (hy := ?_) (h := ?_); rotate_left
    · intro _ _; go_simp <;> with_reducible rfl
    try simp only [pu, pa, pz, ps]
    refine tk 5 (v := ?_) (hy := ?_) (h := ?_); rotate_left
    · intro _ _; go_simp <;> with_reducible rfl
    try simp only [pu, pa, pz, ps]
    refine tk 6 (v := ?_) (hy := ?_) (h := ?_); rotate_left
    · intro _ _; go_simp <;> with_reducible rfl
    try simp only [pu, pa, pz, ps]
    refine tk 7 (v := ?_) (hy := ?_) (h := ?_); rotate_left
    · intro _ _; go_simp <;> with_reducible rfl
    try simp only [pu, pa, pz, ps]
    refine tk 8 (v := ?_) (hy := ?_) (h := ?_); rotate_left
    · intro wt hSw; (try dsimp only at hSw); go_simp <;> with_reducible rfl
    try simp only [pu, pa, pz, ps]
    refine tk 9 (v := ?_) (hy := ?_) (h := ?_); rotate_left
    · intro _ _; go_simp <;> with_reducible rfl
    try simp only [pu, pa, pz, ps]
    refine tk 10 (v := ?_) (hy := ?_) (h := ?_); rotate_left
    · intro _ _; go_simp <;> with_reducible rfl
    try simp only [pu, pa, pz, ps]
    refine tk 11 (v := ?_) (hy := ?_) (h := ?_); rotate_left
    · intro _ _; go_simp <;> with_reducible rfl
    try simp only [pu, pa, pz, ps]
    refine tk 12 (v := ?_) (hy := ?_) (h := ?_); rotate_left
    · intro _ _; go_simp <;> with_reducible rfl
    try simp only [pu, pa, pz, ps]
    refine tk 13 (v := ?_) (hy := ?_) (h := ?_); rotate_left
    · intro wt hSw; (try dsimp only at hSw); go_simp <;> with_reducible rfl
    try simp only [pu, pa, pz, ps]
    refine tk 14 (v := ?_) (hy := ?_) (h := ?_); rotate_left
    · intro _ _; go_simp <;> with_reducible rfl
    try simp only [pu, pa, pz, ps]
    refine tk 15 (v := ?_) (hy := ?_) (h := ?_); rotate_left
    · intro _ _; go_simp <;> with_reducible rfl
    try simp only [pu, pa, pz, ps]
    refine tk 16 (v := ?_) (hy := ?_) (h := ?_); rotate_left
    · intro _ _; go_simp <;> with_reducible rfl
    try simp only [pu, pa, pz, ps]
    refine tk 17 (v := ?_) (hy := ?_) (h := ?_); rotate_left
    · intro _ _; go_simp <;> with_reducible rfl
    try simp only [pu, pa, pz, ps]
    refine tk 18 (v := ?_) (hy := ?_) (h := ?_); rotate_left
    · intro wt hSw; (try dsimp only at hSw); go_simp <;> with_reducible rfl
    try simp only [pu, pa, pz, ps]
    refine tk 19 (v := ?_) (hy := ?_) (h := ?_); rotate_left
    · intro _ _; go_simp <;> with_reducible rfl
    try simp only [pu, pa, pz, ps]
    refine tk 20 (v := ?_) (hy := ?_) (h := ?_); rotate_left
    · intro _ _; go_simp <;> with_reducible rfl
    try simp only [pu, pa, pz, ps]
    refine tk 21 (v := ?_) (hy := ?_) (h := ?_); rotate_left
    · intro _ _; go_simp <;> with_reducible rfl
    try simp only [pu, pa, pz, ps]
    refine tk 22 (v := ?_) (hy := ?_) (h := ?_); rotate_left
    · intro _ _; go_simp <;> with_reducible rfl
    try simp only [pu, pa, pz, ps]
    refine tk 23 (v := ?_) (hy := ?_) (h := ?_); rotate_left
    · intro wt hSw; (try dsimp only at hSw); go_simp <;> with_reducible rfl
    try simp only [pu, pa, pz, ps]
    refine tk 24 (v := ?_) (hy := ?_) (h := ?_); rotate_left
    · intro _ _; go_simp <;> with_reducible rfl
    try simp only [pu, pa, pz, ps]
    refine tk 25 (v := ?_) (hy := ?_) (h := ?_); rotate_left
    · intro wt hSw; (try dsimp only at hSw); go_simp <;> with_reducible rfl
    try simp only [pu, pa, pz, ps]
    refine tk 26 (v := ?_) (hy := ?_) (h := ?_); rotate_left
    · intro _ _; go_simp <;> with_reducible rfl
    try simp only [pu, pa, pz, ps]
    refine tk 27 (v := ?_) (hy := ?_) (h := ?_); rotate_left
    · intro _ _; go_simp <;> with_reducible rfl
    try simp only [pu, pa, pz, ps]
    refine tk 28 (v := ?_) (hy := ?_) (h := ?_); rotate_left
    · intro _ _; go_simp <;> with_reducible rfl
    try simp only [pu, pa, pz, ps]
    refine tk 29 (v := ?_) (hy := ?_) (h := ?_); rotate_left
    · intro _ _; go_simp <;> with_reducible rfl
    try simp only [pu, pa, pz, ps]
    refine tk 30 (v := ?_) (hy := ?_) (h := ?_); rotate_left
    · intro _ _; go_simp <;> with_reducible rfl
    try simp only [pu, pa, pz, ps]
    refine tk 31 (v := ?_) (hy := ?_) (h := ?_); rotate_left
    · intro wt hSw; (try dsimp only at hSw); go_simp <;> with_reducible rfl
    try simp only [pu, pa, pz, ps]
    refine tk 32 (v := ?_) (hy := ?_) (h := ?_); rotate_left
    · intro _ _; go_simp <;> with_reducible rfl
    try simp only [pu, pa, pz, ps]
    refine tk 33 (v := ?_) (hy := ?_) (h := ?_); rotate_left
    · intro wt hSw; (try dsimp only at hSw); go_simp <;> with_reducible rfl
    try simp only [pu, pa, pz, ps]
    refine tk 34 (v := ?_) (hy := ?_) (h := ?_); rotate_left
    · intro _ _; go_simp <;> with_reducible rfl
    try simp only [pu, pa, pz, ps]
    refine tk 35 (v := ?_) (hy := ?_) (h := ?_); rotate_left
    · intro _ _; go_simp <;> with_reducible rfl
    try simp only [pu, pa, pz, ps]
    refine tk 36 (v := ?_) (hy := ?_) (h := ?_); rotate_left
    · intro wt hSw; (try dsimp only at hSw); go_simp <;> with_reducible rfl
    try simp only [pu, pa, pz, ps]
    refine tk 37 (v := ?_) (hy := ?_) (h := ?_); rotate_left
    · intro _ _; go_simp <;> with_reducible rfl
    try simp only [pu, pa, pz, ps]
    refine tk 38 (v := ?_) (hy := ?_) (h := ?_); rotate_left
    · intro _ _; go_simp <;> with_reducible rfl
    try simp only [pu, pa, pz, ps]
    refine tk 39 (v := ?_) (hy := ?_) (h := ?_); rotate_left
    · intro wt hSw; (try dsimp only at hSw); go_simp <;> with_reducible rfl
    try simp only [pu, pa, pz, ps]
    refine tk 40 (v := ?_) (hy := ?_) (h := ?_); rotate_left
    · intro _ _; go_simp <;> with_reducible rfl
    try simp only [pu, pa, pz, ps]
    refine tk 41 (v := ?_) (hy := ?_) (h := ?_); rotate_left
    · intro _ _; go_simp <;> with_reducible rfl
    try simp only [pu, pa, pz, ps]
    refine tk 42 (v := ?_) (hy := ?_) (h := ?_); rotate_left
    · intro _ _; go_simp <;> with_reducible rfl
    try simp only [pu, pa, pz, ps]
    refine tk 43 (v := ?_) (hy := ?_) (h := ?_); rotate_left
    · intro _ _; go_simp <;> with_reducible rfl
    try simp only [pu, pa, pz, ps]
    refine tk 44 (v := ?_) (hy := ?_) (h := ?_); rotate_left
    · intro _ _; go_simp <;> with_reducible rfl
    try simp only [pu, pa, pz, ps]
    refine tk 45 (v := ?_) (hy := ?_) (h := ?_); rotate_left
    · intro _ _; go_simp <;> with_reducible rfl
    try simp only [pu, pa, pz, ps]
    refine tk 46 (v := ?_) (hy := ?_) (h := ?_); rotate_left
    · intro _ _; go_simp <;> with_reducible rfl
    try simp only [pu, pa, pz, ps]
    refine tk 47 (v := ?_) (hy := ?_) (h := ?_); rotate_left
    · intro _ _; go_simp <;> with_reducible rfl
    try simp only [pu, pa, pz, ps]
    refine tk 48 (v := ?_) (hy := ?_) (h := ?_); rotate_left
    · intro _ _; go_simp <;> with_reducible rfl
    try simp only [pu, pa, pz, ps]
    refine tk 49 (v := ?_) (hy := ?_) (h := ?_); rotate_left
    · intro _ _; go_simp <;> with_reducible rfl
    try simp only [pu, pa, pz, ps]
    refine tk 50 (v := ?_) (hy := ?_) (h := ?_); rotate_left
    · intro _ _; go_simp <;> with_reducible rfl
    try simp only [pu, pa, pz, ps]
    refine wpAnyH_done (by kernel_rfl) ?_ _
    have HHw := Lib.hid (HB0.out.trans (hHeld.mono HB0.out.size))
    clear p0 p1 p2 p3 p4
    have g0 := cellB hHeld g0 z1
    have g1 := cellB hHeld g1 z1
    have g2 := cellB hHeld g2 z1
    have g3 := cellB hHeld g3 z1
    have g4 := cellB hHeld g4 z1
    have s0 := cellB hHeld s0 z0
    clear hHeld
    go_wp2_with fail
    refine (hK0 _).mono ?_; rintro r w2 ⟨rfl, rfl⟩
    go_wp2_with fail
    go_ret
    exact ⟨by rw [hres.out]; rfl, HHw.out⟩
  subst hT2
  have HX := Lib.hid (show Z = keepR xt by rw [HX.out, if_pos rfl, if_pos h2])
  clear h2 hT
  go_upto_region 17 with fail
  have qq0 := fun wt (h : Below W0.heap.size W0 wt) => cellB h s0 z0
  have qq1 := fun wt (h : Below W0.heap.size W0 wt) => cellB h g0 z1
  have qq2 := fun wt (h : Below W0.heap.size W0 wt) => cellB h g1 z1
  have qq3 := fun wt (h : Below W0.heap.size W0 wt) => cellB h g2 z1
  have qq4 := fun wt (h : Below W0.heap.size W0 wt) => cellB h g3 z1
  have qq5 := fun wt (h : Below W0.heap.size W0 wt) => cellB h f2 zv
  refine wp_region_held_drew (S := (fun w' => Below W0.heap.size W0 w')) (by kernel_rfl) ?_ (fun hHeld => ?_)
  · (try dsimp only); first | exact Below.drew hHeld | assumption
  refine tk 0 (v := ?_) (hy := ?_) (h := ?_); rotate_left
  · intro _ _; go_simp <;> with_reducible rfl
  try simp only [pu, pa, pz, ps]
  refine tk 1 (v := ?_) (hy := ?_) (h := ?_); rotate_left
  · intro _ _; go_simp <;> with_reducible rfl
  try simp only [pu, pa, pz, ps]
  refine tk 2 (v := ?_) (hy := ?_) (h := ?_); rotate_left
  · intro wt hSw; (try dsimp only at hSw); go_simp <;> with_reducible rfl
  try simp only [pu, pa, pz, ps]
  refine tk 3 (v := ?_) (hy := ?_) (h := ?_); rotate_left
  · intro _ _; go_simp <;> with_reducible rfl
  try simp only [pu, pa, pz, ps]
  refine tk 4 (v := ?_) (hy := ?_) (h := ?_); rotate_left
  · intro _ _; go_simp <;> with_reducible rfl
  try simp only [pu, pa, pz, ps]
  refine tk 5 (v := ?_) (hy := ?_) (h := ?_); rotate_left
  · intro _ _; go_simp <;> with_reducible rfl
  try simp only [pu, pa, pz, ps]
  refine tk 6 (v := ?_) (hy := ?_) (h := ?_); rotate_left
  · intro _ _; go_simp <;> with_reducible rfl
  try simp only [pu, pa, pz, ps]
  refine tk 7 (v := ?_) (hy := ?_) (h := ?_); rotate_left
  · intro _ _; go_simp <;> with_reducible rfl
  try simp only [pu, pa, pz, ps]
  refine tk 8 (v := ?_) (hy := ?_) (h := ?_); rotate_left
  · intro wt hSw; (try dsimp only at hSw); go_simp <;> with_reducible rfl
  try simp only [pu, pa, pz, ps]
  refine tk 9 (v := ?_) (hy := ?_) (h := ?_); rotate_left
  · intro _ _; go_simp <;> with_reducible rfl
  try simp only [pu, pa, pz, ps]
  refine tk 10 (v := ?_) (hy := ?_) (h := ?_); rotate_left
  · intro _ _; go_simp <;> with_reducible rfl
  try simp only [pu, pa, pz, ps]
  refine tk 11 (v := ?_) (hy := ?_) (h := ?_); rotate_left
  · intro _ _; go_simp <;> with_reducible rfl
  try simp only [pu, pa, pz, ps]
  refine tk 12 (v := ?_) (hy := ?_) (h := ?_); rotate_left
  · intro _ _; go_simp <;> with_reducible rfl
  try simp only [pu, pa, pz, ps]
  refine tk 13 (v := ?_) (hy := ?_) (h := ?_); rotate_left
  · intro wt hSw; (try dsimp only at hSw); go_simp <;> with_reducible rfl
  try simp only [pu, pa, pz, ps]
  refine tk 14 (v := ?_) (hy := ?_) (h := ?_); rotate_left
  · intro _ _; go_simp <;> with_reducible rfl
  try simp only [pu, pa, pz, ps]
  refine tk 15 (v := ?_) (hy := ?_) (h := ?_); rotate_left
  · intro _ _; go_simp <;> with_reducible rfl
  try simp only [pu, pa, pz, ps]
  refine tk 16 (v := ?_) (hy := ?_) (h := ?_); rotate_left
  · intro _ _; go_simp <;> with_reducible rfl
  try simp only [pu, pa, pz, ps]
  refine tk 17 (v := ?_) (hy := ?_) (h := ?_); rotate_left
  · intro _ _; go_simp <;> with_reducible rfl
  try simp only [pu, pa, pz, ps]
  refine tk 18 (v := ?_) (hy := ?_) (h := ?_); rotate_left
  · intro wt hSw; (try dsimp only at hSw); go_simp <;> with_reducible rfl
  try simp only [pu, pa, pz, ps]
  refine tk 19 (v := ?_) (hy := ?_) (h := ?_); rotate_left
  · intro _ _; go_simp <;> with_reducible rfl
  try simp only [pu, pa, pz, ps]
  refine tk 20 (v := ?_) (hy := ?_) (h := ?_); rotate_left
  · intro _ _; go_simp <;> with_reducible rfl
  try simp only [pu, pa, pz, ps]
  refine tk 21 (v := ?_) (hy := ?_) (h := ?_); rotate_left
  · intro _ _; go_simp <;> with_reducible rfl
  try simp only [pu, pa, pz, ps]
  refine tk 22 (v := ?_) (hy := ?_) (h := ?_); rotate_left
  · intro _ _; go_simp <;> with_reducible rfl
  try simp only [pu, pa, pz, ps]
  refine tk 23 (v := ?_) (hy := ?_) (h := ?_); rotate_left
  · intro wt hSw; (try dsimp only at hSw); go_simp <;> with_reducible rfl
  try simp only [pu, pa, pz, ps]
  refine tk 24 (v := ?_) (hy := ?_) (h := ?_); rotate_left
  · intro _ _; go_simp <;> with_reducible rfl
  try simp only [pu, pa, pz, ps]
  refine tk 25 (v := ?_) (hy := ?_) (h := ?_); rotate_left
  · intro wt hSw; (try dsimp only at hSw); go_simp <;> with_reducible rfl
  try simp only [pu, pa, pz, ps]
  refine tk 26 (v := ?_) (hy := ?_) (h := ?_); rotate_left
  · intro _ _; go_simp <;> with_reducible rfl
  try simp only [pu, pa, pz, ps]
  refine tk 27 (v := ?_) (hy := ?_) (h := ?_); rotate_left
  · intro _ _; go_simp <;> with_reducible rfl
  try simp only [pu, pa, pz, ps]
  refine tk 28 (v := ?_) (hy := ?_) (h := ?_); rotate_left
  · intro _ _; go_simp <;> with_reducible rfl
  try simp only [pu, pa, pz, ps]
  refine tk 29 (v := ?_) (hy := ?_) (h := ?_); rotate_left
  · intro _ _; go_simp <;> with_reducible rfl
  try simp only [pu, pa, pz, ps]
  refine tk 30 (v := ?_) (hy := ?_) (h := ?_); rotate_left
  · intro _ _; go_simp <;> with_reducible rfl
  try simp only [pu, pa, pz, ps]
  refine tk 31 (v := ?_) (hy := ?_) (h := ?_); rotate_left
  · intro wt hSw; (try dsimp only at hSw); go_simp <;> with_reducible rfl
  try simp only [pu, pa, pz, ps]
  refine tk 32 (v := ?_) (hy := ?_) (h := ?_); rotate_left
  · intro _ _; go_simp <;> with_reducible rfl
  try simp only [pu, pa, pz, ps]
  refine tk 33 (v := ?_) (hy := ?_) (h := ?_); rotate_left
  · intro wt hSw; (try dsimp only at hSw); go_simp <;> with_reducible rfl
  try simp only [pu, pa, pz, ps]
  refine tk 34 (v := ?_) (hy := ?_) (h := ?_); rotate_left
  · intro _ _; go_simp <;> with_reducible rfl
  try simp only [pu, pa, pz, ps]
  refine tk 35 (v := ?_) (hy := ?_) (h := ?_); rotate_left
  · intro _ _; go_simp <;> with_reducible rfl
  try simp only [pu, pa, pz, ps]
  refine tk 36 (v := ?_) (hy := ?_) (h := ?_); rotate_left
  · intro wt hSw; (try dsimp only at hSw); go_simp <;> with_reducible rfl
  try simp only [pu, pa, pz, ps]
  refine tk 37 (v := ?_) (hy := ?_) (h := ?_); rotate_left
  · intro _ _; go_simp <;> with_reducible rfl
  try simp only [pu, pa, pz, ps]
  refine tk 38 (v := ?_) (hy := ?_) (h := ?_); rotate_left
  · intro _ _; go_simp <;> with_reducible rfl
  try simp only [pu, pa, pz, ps]
  refine tk 39 (v := ?_) (hy := ?_) (h := ?_); rotate_left
  · intro wt hSw; (try dsimp only at hSw); go_simp <;> with_reducible rfl
  try simp only [pu, pa, pz, ps]
  refine tk 40 (v := ?_) (hy := ?_) (h := ?_); rotate_left
  · intro _ _; go_simp <;> with_reducible rfl
  try simp only [pu, pa, pz, ps]
  refine tk 41 (v := ?_) (hy := ?_) (h := ?_); rotate_left
  · intro _ _; go_simp <;> with_reducible rfl
  try simp only [pu, pa, pz, ps]
  refine tk 42 (v := ?_) (hy := ?_) (h := ?_); rotate_left
  · intro _ _; go_simp <;> with_reducible rfl
  try simp only [pu, pa, pz, ps]
  refine tk 43 (v := ?_) (hy := ?_) (h := ?_); rotate_left
  · intro _ _; go_simp <;> with_reducible rfl
  try simp only [pu, pa, pz, ps]
  refine tk 44 (v := ?_) (hy := ?_) (h := ?_); rotate_left
  · intro _ _; go_simp <;> with_reducible rfl
  try simp only [pu, pa, pz, ps]
  refine tk 45 (v := ?_) (hy := ?_) (h := ?_); rotate_left
  · intro _ _; go_simp <;> with_reducible rfl
  try simp only [pu, pa, pz, ps]
  refine tk 46 (v := ?_) (hy := ?_) (h := ?_); rotate_left
  · intro _ _; go_simp <;> with_reducible rfl
  try simp only [pu, pa, pz, ps]
  refine tk 47 (v := ?_) (hy := ?_) (h := ?_); rotate_left
  · intro _ _; go_simp <;> with_reducible rfl
  try simp only [pu, pa, pz, ps]
  refine tk 48 (v := ?_) (hy := ?_) (h := ?_); rotate_left
  · intro _ _; go_simp <;> with_reducible rfl
  try simp only [pu, pa, pz, ps]
  refine tk 49 (v := ?_) (hy := ?_) (h := ?_); rotate_left
  · intro _ _; go_simp <;> with_reducible rfl
  try simp only [pu, pa, pz, ps]
  refine tk 50 (v := ?_) (hy := ?_) (h := ?_); rotate_left
  · intro _ _; go_simp <;> with_reducible rfl
  try simp only [pu, pa, pz, ps]
  refine wpAnyH_done (by kernel_rfl) ?_ _
  have HHw := Lib.hid (HB0.out.trans (hHeld.mono HB0.out.size))
  clear p0 p1 p2 p3 p4
  have g0 := cellB hHeld g0 z1
  have g1 := cellB hHeld g1 z1
  have g2 := cellB hHeld g2 z1
  have g3 := cellB hHeld g3 z1
  have g4 := cellB hHeld g4 z1
  have s0 := cellB hHeld s0 z0
  have f1 := cellB hHeld f1 zv
  clear hHeld
  cases hkr : kRight xt
  · rw [hkr] at hK
    have hres := Lib.hid (show Z = 0 by rw [HX.out]; unfold keepR; rw [hkr]; rfl)
    clear hkr
    go_wp2_with fail
    refine (hK _).mono ?_; rintro r w2 ⟨rfl, rfl⟩
    go_wp2_with fail
    go_ret
    exact ⟨by rw [hres.out]; rfl, HHw.out⟩
  · rw [hkr] at hK
    have hres := Lib.hid (show Z = xt by rw [HX.out]; unfold keepR; rw [hkr]; rfl)
    clear hkr
    go_wp2_with fail
    refine (hK _).mono ?_; rintro r w2 ⟨rfl, rfl⟩
    go_wp2_with fail
    go_ret
    exact ⟨by rw [hres.out]; rfl, HHw.out⟩
end Go.Proofs.YtknbomikiakpmaaDoor
/- Layer 26: the document's Type, of an expression with one within it (op 2). -/
namespace Go.Proofs.YtknbomikiakpmaaDoor
open Go.RowKit
set_option linter.unusedSimpArgs false
set_option linter.unusedVariables false
set_option maxRecDepth 100000 in
set_option maxHeartbeats 8000000 in
theorem ref26_Type12 (a b c d : Value) (s : Sc) (op t n m : Int) (x : Ex) (v : Value) (w : World) (hs : ScAt w a b d s) (hc0 : ∃ p q k, c = .slice p q k) (hv : ExV w v ⟨op, t, n, m, [x]⟩) (hx : Typed w a b c d s x) (o4 : op = 2) :
    Calls Tryd.prog 38 #[.agg #[a, b, c, d], v] w fun r w' => r = .returned (.int .i64 (if typeE s x = 0 then 0 else singleT s ⟨op, t, n, m, [x]⟩ (typeE s x))) ∧ Below w.heap.size w w' := by
  obtain ⟨sl, rfl, _, hrl⟩ := hv
  have HS := Lib.hid hs.vs
  obtain ⟨sa, ca, rfl⟩ := row_get hs.vs
  obtain ⟨sb, cb, rfl⟩ := row_get hs.bs
  obtain ⟨sd, cd, rfl⟩ := row_get hs.ss
  obtain ⟨p, q, k, rfl⟩ := hc0
  have hlen := hrl.len
  obtain ⟨al, cl, rfl⟩ := row_get hrl
  have hcap := cap_row hrl (k := 0) (by simp)
  obtain ⟨b, off, s1, sn1, sc1, rfl, hbw, _, _, d0, d1, d2, d3, d4, hxv⟩ := ex_at hrl (k := 0) (x := x) rfl
  simp only [Nat.zero_mul, Nat.one_mul, Nat.add_zero] at d0 d1 d2 d3 d4
  simp only [List.length_cons, List.length_nil, Nat.zero_add] at hlen hcap ⊢
  obtain ⟨NV, hNV⟩ : ∃ N, s.vars.length = N := ⟨_, rfl⟩
  have HNV := Lib.hid hNV
  have hlv := hs.vs.len
  rw [hNV] at HS hlv hx ⊢
  have q0 : ((0 : Int) < (1 : Int)) = True := by decide
  have r0 : (0 < 1) = True := by decide
  obtain ⟨W0, hW0⟩ : ∃ W0, W0 = (w.alloc (.cells #[.slice sa NV ca, .slice sb s.blocks.length cb, .slice p q k, .slice sd s.slots.length cd] 43)).alloc (.cells #[.int .i64 op, .int .i64 t, .int .i64 n, .int .i64 m, .slice (some ⟨b, off, none⟩) 1 cl] 37) := ⟨_, rfl⟩
  have ho0 : W0.heap[w.heap.size]? = some (.cells #[.slice sa NV ca, .slice sb s.blocks.length cb, .slice p q k, .slice sd s.slots.length cd] 43) := by rw [hW0, get_past (by simp)]; exact get_last rfl
  have ho1 : W0.heap[w.heap.size + 1]? = some (.cells #[.int .i64 op, .int .i64 t, .int .i64 n, .int .i64 m, .slice (some ⟨b, off, none⟩) 1 cl] 37) := by rw [hW0]; exact get_last (by simp)
  have hbW : Below w.heap.size w W0 := by rw [hW0]; exact by (repeat' (first | (with_reducible exact Below.refl _ _) | (with_reducible assumption) | (with_reducible refine below_drewN ?_ _) | (with_reducible refine Below.alloc ?_ ?_ _) | (with_reducible refine Below.drew ?_) | (with_reducible refine Below.setCell ?_ ?_ _) | go_size))
  have HW0 := Lib.hid hW0
  have HB0 := Lib.hid hbW
  have z0 := heap_lt ho0
  have z1 := heap_lt ho1
  have zb : b < W0.heap.size := Nat.lt_of_lt_of_le hbw hbW.size
  have s0 : W0.cell? ⟨w.heap.size, 0, none⟩ = some (.slice sa NV ca) := obj_cell ho0 (i := 0) rfl
  have s1 : W0.cell? ⟨w.heap.size, 1, none⟩ = some (.slice sb s.blocks.length cb) := obj_cell ho0 (i := 1) rfl
  have s2 : W0.cell? ⟨w.heap.size, 2, none⟩ = some (.slice p q k) := obj_cell ho0 (i := 2) rfl
  have s3 : W0.cell? ⟨w.heap.size, 3, none⟩ = some (.slice sd s.slots.length cd) := obj_cell ho0 (i := 3) rfl
  have g4 : W0.cell? ⟨w.heap.size + 1, 4, none⟩ = some (.slice (some ⟨b, off, none⟩) 1 cl) := obj_cell ho1 (i := 4) rfl
  have g0 : W0.cell? ⟨w.heap.size + 1, 0, none⟩ = some (.int .i64 op) := obj_cell ho1 (i := 0) rfl
  have g1 : W0.cell? ⟨w.heap.size + 1, 1, none⟩ = some (.int .i64 t) := obj_cell ho1 (i := 1) rfl
  have g2 : W0.cell? ⟨w.heap.size + 1, 2, none⟩ = some (.int .i64 n) := obj_cell ho1 (i := 2) rfl
  have g3 : W0.cell? ⟨w.heap.size + 1, 3, none⟩ = some (.int .i64 m) := obj_cell ho1 (i := 3) rfl
  have d0 := (hbW.cell (p := ⟨b, off, none⟩) hbw).trans d0
  have d1 := (hbW.cell (p := ⟨b, off + 1, none⟩) hbw).trans d1
  have d2 := (hbW.cell (p := ⟨b, off + 2, none⟩) hbw).trans d2
  have d3 := (hbW.cell (p := ⟨b, off + 3, none⟩) hbw).trans d3
  have d4 := (hbW.cell (p := ⟨b, off + 4, none⟩) hbw).trans d4
  have HXc := Lib.hid (fun W (_ : True) (h : Below W0.heap.size W0 W) => hx W _ (hbW.trans (h.mono hbW.size)) (hxv.below (hbW.trans (h.mono hbW.size))))
  generalize typeE s x = T at *
  clear hW0 hbW ho0 ho1 hx hxv hs hrl
  generalize hZ : (if T = 0 then 0 else singleT s ⟨op, t, n, m, [x]⟩ T) = Z
  have HZ := Lib.hid hZ
  clear hZ hNV
  have hK0 := ref01_Right 0
  rw [show kRight 0 = false from rfl] at hK0
  subst o4
  have hw2 : IntKind.i64.wrap 2 = 2 := by decide
  have hw1 : IntKind.i64.wrap 1 = 1 := by decide
  have hw0 : IntKind.i64.wrap 0 = 0 := by decide
  have hwt : IntKind.i64.wrap (Int.tdiv 2 2) = 1 := by decide
  have hwz : IntKind.i64.wrap (Int.tdiv 0 2) = 0 := by decide
  go_enter Tryd.func38, Tryd.ntmps38
  go_upto_region 5 with fail
  rw [← HW0.out]
  have qq0 := fun wt (h : Below W0.heap.size W0 wt) => cellB h s0 z0
  have qq1 := fun wt (h : Below W0.heap.size W0 wt) => cellB h s1 z0
  have qq2 := fun wt (h : Below W0.heap.size W0 wt) => cellB h s2 z0
  have qq3 := fun wt (h : Below W0.heap.size W0 wt) => cellB h s3 z0
  have qq4 := fun wt (h : Below W0.heap.size W0 wt) => cellB h g4 z1
  have qq5 := fun wt (h : Below W0.heap.size W0 wt) => cellB h d0 zb
  have qq6 := fun wt (h : Below W0.heap.size W0 wt) => cellB h d1 zb
  have qq7 := fun wt (h : Below W0.heap.size W0 wt) => cellB h d2 zb
  have qq8 := fun wt (h : Below W0.heap.size W0 wt) => cellB h d3 zb
  have qq9 := fun wt (h : Below W0.heap.size W0 wt) => cellB h d4 zb
  refine wp_region_held_drew (S := (fun w' => Below W0.heap.size W0 w')) (by kernel_rfl) ?_ (fun hHeld => ?_)
  · (try dsimp only); first | assumption | exact Below.alloc hHeld hHeld.size _ | exact (Below.refl _ _).drew | exact Below.drew (Below.refl _ _) | exact Below_drewN _ _ _ | exact Below.refl _ _
  refine tk 0 (v := ?_) (hy := ?_) (h := ?_); rotate_left
  · intro wt hSw; (try dsimp only at hSw); go_simp <;> with_reducible rfl
  try simp only [pu, pa, pz, ps]
  refine tk 1 (v := ?_) (hy := ?_) (h := ?_); rotate_left
  · intro _ _; go_simp <;> with_reducible rfl
  try simp only [pu, pa, pz, ps]
  refine tk 2 (v := ?_) (hy := ?_) (h := ?_); rotate_left
  · intro wt hSw; (try dsimp only at hSw); go_simp <;> with_reducible rfl
  try simp only [pu, pa, pz, ps]
  refine tk 3 (v := ?_) (hy := ?_) (h := ?_); rotate_left
  · intro _ _; go_simp <;> with_reducible rfl
  try simp only [pu, pa, pz, ps]
  refine tk 4 (v := ?_) (hy := ?_) (h := ?_); rotate_left
  · intro wt hSw; (try dsimp only at hSw); go_simp <;> with_reducible rfl
  try simp only [pu, pa, pz, ps]
  refine wpAnyH_ready (rs := [5]) (by kernel_rfl) (by simp) ?_
  refine AllReadyH.cons (o := ⟨_, _, _, _, _, _⟩) rfl (fun K hK => ?_) AllReadyH.nil
  go_simp
  refine (HXc.out _ trivial hHeld).mono ?_; rintro r w2 ⟨rfl, hb⟩; have hHeld := hHeld.trans (hb.mono hHeld.size)
  go_wp2_with fail
  refine hK.out _ _ ?_ (fun hHeld => ?_)
  · (try dsimp only); first | assumption | exact Below.alloc hHeld hHeld.size _ | exact (Below.refl _ _).drew | exact Below.drew (Below.refl _ _) | exact Below_drewN _ _ _ | exact Below.refl _ _
  clear hK K
  try simp only [pu, pa, pz, ps]
  refine tk 6 (v := ?_) (hy := ?_) (h := ?_); rotate_left
  · intro _ _; go_simp <;> with_reducible rfl
  try simp only [pu, pa, pz, ps]
  refine wpAnyH_done (by kernel_rfl) ?_ _
  have HHw := Lib.hid (HB0.out.trans (hHeld.mono HB0.out.size))
  have p0 := cellB hHeld g0 z1
  have p1 := cellB hHeld g1 z1
  have p2 := cellB hHeld g2 z1
  have p3 := cellB hHeld g3 z1
  have p4 := cellB hHeld g4 z1
  clear s1 s2 s3 d0 d1 d2 d3 d4
  by_cases hT : T = 0
  · subst hT
    have hres := Lib.hid (show Z = 0 by rw [← HZ.out]; simp)
    clear hHeld
    go_wp2_with fail
    go_ret
    exact ⟨by rw [hres.out]; rfl, HHw.out⟩
  have eT : (T == 0) = false := by simpa using hT
  have hres := Lib.hid (show Z = 0 by rw [← HZ.out]; unfold singleT; simp [hT])
  clear hT
  go_upto_region 17 with fail
  have qq0 := fun wt (h : Below W0.heap.size W0 wt) => cellB h s0 z0
  have qq1 := fun wt (h : Below W0.heap.size W0 wt) => cellB h g0 z1
  have qq2 := fun wt (h : Below W0.heap.size W0 wt) => cellB h g1 z1
  have qq3 := fun wt (h : Below W0.heap.size W0 wt) => cellB h g2 z1
  have qq4 := fun wt (h : Below W0.heap.size W0 wt) => cellB h g3 z1
  refine wp_region_held_drew (S := (fun w' => Below W0.heap.size W0 w')) (by kernel_rfl) ?_ (fun hHeld => ?_)
  · (try dsimp only); first | exact Below.drew hHeld | assumption
  refine tk 0 (v := ?_) (hy := ?_) (h := ?_); rotate_left
  · intro _ _; go_simp <;> with_reducible rfl
  try simp only [pu, pa, pz, ps]
  refine tk 1 (v := ?_) (hy := ?_) (h := ?_); rotate_left
  · intro _ _; go_simp <;> with_reducible rfl
  try simp only [pu, pa, pz, ps]
  refine tk 2 (v := ?_) (hy := ?_) (h := ?_); rotate_left
  · intro wt hSw; (try dsimp only at hSw); go_simp <;> with_reducible rfl
  try simp only [pu, pa, pz, ps]
  refine tk 3 (v := ?_) (hy := ?_) (h := ?_); rotate_left
  · intro _ _; go_simp <;> with_reducible rfl
  try simp only [pu, pa, pz, ps]
  refine tk 4 (v := ?_) (hy := ?_) (h := ?_); rotate_left
  · intro _ _; go_simp <;> with_reducible rfl
  try simp only [pu, pa, pz, ps]
  refine tk 5 (v := ?_) (hy := ?_) (h := ?_); rotate_left
  · intro _ _; go_simp <;> with_reducible rfl
  try simp only [pu, pa, pz, ps]
  refine tk 6 (v := ?_) (hy := ?_) (h := ?_); rotate_left
  · intro _ _; go_simp <;> with_reducible rfl
  try simp only [pu, pa, pz, ps]
  refine sk 7 (h := ?_)
  try simp only [pu, pa, pz, ps]
  refine sk 8 (h := ?_)
  try simp only [pu, pa, pz, ps]
  refine sk 9 (h := ?_)
  try simp only [pu, pa, pz, ps]
  refine tk 10 (v := ?_) (hy := ?_) (h := ?_); rotate_left
  · intro _ _; go_simp <;> with_reducible rfl
  try simp only [pu, pa, pz, ps]
  refine tk 11 (v := ?_) (hy := ?_) (h := ?_); rotate_left
  · intro _ _; go_simp <;> with_reducible rfl
  try simp only [pu, pa, pz, ps]
  refine sk 12 (h := ?_)
  try simp only [pu, pa, pz, ps]
  refine sk 13 (h := ?_)
  try simp only [pu, pa, pz, ps]
  refine sk 14 (h := ?_)
  try simp only [pu, pa, pz, ps]
  refine tk 15 (v := ?_) (hy := ?_) (h := ?_); rotate_left
  · intro _ _; go_simp <;> with_reducible rfl
  try simp only [pu, pa, pz, ps]
  refine tk 16 (v := ?_) (hy := ?_) (h := ?_); rotate_left
  · intro _ _; go_simp <;> with_reducible rfl
  try simp only [pu, pa, pz, ps]
  refine sk 17 (h := ?_)
  try simp only [pu, pa, pz, ps]
  refine sk 18 (h := ?_)
  try simp only [pu, pa, pz, ps]
  refine sk 19 (h := ?_)
  try simp only [pu, pa, pz, ps]
  refine tk 20 (v := ?_) (hy := ?_) (h := ?_); rotate_left
  · intro _ _; go_simp <;> with_reducible rfl
  try simp only [pu, pa, pz, ps]
  refine tk 21 (v := ?_) (hy := ?_) (h := ?_); rotate_left
  · intro _ _; go_simp <;> with_reducible rfl
  try simp only [pu, pa, pz, ps]
  refine sk 22 (h := ?_)
  try simp only [pu, pa, pz, ps]
  refine sk 23 (h := ?_)
  try simp only [pu, pa, pz, ps]
  refine sk 24 (h := ?_)
  try simp only [pu, pa, pz, ps]
  refine sk 25 (h := ?_)
  try simp only [pu, pa, pz, ps]
  refine sk 26 (h := ?_)
  try simp only [pu, pa, pz, ps]
  refine sk 27 (h := ?_)
  try simp only [pu, pa, pz, ps]
  refine tk 28 (v := ?_) (hy := ?_) (h := ?_); rotate_left
  · intro _ _; go_simp <;> with_reducible rfl
  try simp only [pu, pa, pz, ps]
  refine tk 29 (v := ?_) (hy := ?_) (h := ?_); rotate_left
  · intro _ _; go_simp <;> with_reducible rfl
  try simp only [pu, pa, pz, ps]
  refine sk 30 (h := ?_)
  try simp only [pu, pa, pz, ps]
  refine sk 31 (h := ?_)
  try simp only [pu, pa, pz, ps]
  refine sk 32 (h := ?_)
  try simp only [pu, pa, pz, ps]
  refine sk 33 (h := ?_)
  try simp only [pu, pa, pz, ps]
  refine sk 34 (h := ?_)
  try simp only [pu, pa, pz, ps]
  refine sk 35 (h := ?_)
  try simp only [pu, pa, pz, ps]
  refine sk 36 (h := ?_)
  try simp only [pu, pa, pz, ps]
  refine sk 37 (h := ?_)
  try simp only [pu, pa, pz, ps]
  refine sk 38 (h := ?_)
  try simp only [pu, pa, pz, ps]
  refine sk 39 (h := ?_)
  try simp only [pu, pa, pz, ps]
  refine sk 40 (h := ?_)
  try simp only [pu, pa, pz, ps]
  refine sk 41 (h := ?_)
  try simp only [pu, pa, pz, ps]
  refine tk 42 (v := ?_) (hy := ?_) (h := ?_); rotate_left
  · intro _ _; go_simp <;> with_reducible rfl
  try simp only [pu, pa, pz, ps]
  refine tk 43 (v := ?_) (hy := ?_) (h := ?_); rotate_left
  · intro _ _; go_simp <;> with_reducible rfl
  try simp only [pu, pa, pz, ps]
  refine sk 44 (h := ?_)
  try simp only [pu, pa, pz, ps]
  refine sk 45 (h := ?_)
  try simp only [pu, pa, pz, ps]
  refine sk 46 (h := ?_)
  try simp only [pu, pa, pz, ps]
  refine sk 47 (h := ?_)
  try simp only [pu, pa, pz, ps]
  refine sk 48 (h := ?_)
  try simp only [pu, pa, pz, ps]
  refine sk 49 (h := ?_)
  try simp only [pu, pa, pz, ps]
  refine tk 50 (v := ?_) (hy := ?_) (h := ?_); rotate_left
  · intro _ _; go_simp <;> with_reducible rfl
  try simp only [pu, pa, pz, ps]
  refine wpAnyH_done (by kernel_rfl) ?_ _
  have HHw := Lib.hid (HB0.out.trans (hHeld.mono HB0.out.size))
  clear p0 p1 p2 p3 p4
  have g0 := cellB hHeld g0 z1
  have g1 := cellB hHeld g1 z1
  have g2 := cellB hHeld g2 z1
  have g3 := cellB hHeld g3 z1
  have g4 := cellB hHeld g4 z1
  have s0 := cellB hHeld s0 z0
  clear hHeld
  go_wp2_with fail
  refine (hK0 _).mono ?_; rintro r w2 ⟨rfl, rfl⟩
  go_wp2_with fail
  go_ret
  exact ⟨by rw [hres.out]; rfl, HHw.out⟩
end Go.Proofs.YtknbomikiakpmaaDoor
/- Layer 26: the document's Type, of an expression with two within it. -/
namespace Go.Proofs.YtknbomikiakpmaaDoor
open Go.RowKit
set_option linter.unusedSimpArgs false
set_option linter.unusedVariables false
set_option maxRecDepth 100000 in
set_option maxHeartbeats 8000000 in
theorem ref26_Type2 (a b c d : Value) (s : Sc) (op t n m : Int) (x y : Ex) (v : Value) (w : World) (hs : ScAt w a b d s) (hc0 : ∃ p q k, c = .slice p q k) (hv : ExV w v ⟨op, t, n, m, [x, y]⟩) (hx : Typed w a b c d s x) (hy : Typed w a b c d s y) :
    Calls Tryd.prog 38 #[.agg #[a, b, c, d], v] w fun r w' => r = .returned (.int .i64 (if typeE s x = 0 ∨ typeE s y = 0 then 0 else doubleT ⟨op, t, n, m, [x, y]⟩ (typeE s x) (typeE s y))) ∧ Below w.heap.size w w' := by
  obtain ⟨sl, rfl, _, hrl⟩ := hv
  obtain ⟨sa, ca, rfl⟩ := row_get hs.vs
  obtain ⟨sb, cb, rfl⟩ := row_get hs.bs
  obtain ⟨sd, cd, rfl⟩ := row_get hs.ss
  obtain ⟨p, q, k, rfl⟩ := hc0
  have hlen := hrl.len
  obtain ⟨al, cl, rfl⟩ := row_get hrl
  have hcap := cap_row hrl (k := 0) (by simp)
  obtain ⟨b, off, s1, sn1, sc1, rfl, hbw, _, _, d0, d1, d2, d3, d4, hxv⟩ := ex_at hrl (k := 0) (x := x) rfl
  obtain ⟨b', off', s2, sn2, sc2, hbb, _, _, _, f0, f1, f2, f3, f4, hyv⟩ := ex_at hrl (k := 1) (x := y) rfl
  obtain ⟨rfl, rfl⟩ : b' = b ∧ off' = off := by simp at hbb; exact ⟨hbb.1.symm, hbb.2.symm⟩
  simp only [Nat.zero_mul, Nat.one_mul, Nat.add_zero] at d0 d1 d2 d3 d4 f0 f1 f2 f3 f4
  simp only [List.length_cons, List.length_nil, Nat.zero_add, Nat.reduceAdd] at hlen hcap ⊢
  have q0 : ((0 : Int) < (2 : Int)) = True := by decide
  have r0 : (0 < 2) = True := by decide
  have q1 : ((1 : Int) < (2 : Int)) = True := by decide
  have r1 : (1 < 2) = True := by decide
  obtain ⟨W0, hW0⟩ : ∃ W0, W0 = (w.alloc (.cells #[.slice sa s.vars.length ca, .slice sb s.blocks.length cb, .slice p q k, .slice sd s.slots.length cd] 43)).alloc (.cells #[.int .i64 op, .int .i64 t, .int .i64 n, .int .i64 m, .slice (some ⟨b', off', none⟩) 2 cl] 37) := ⟨_, rfl⟩
  have ho0 : W0.heap[w.heap.size]? = some (.cells #[.slice sa s.vars.length ca, .slice sb s.blocks.length cb, .slice p q k, .slice sd s.slots.length cd] 43) := by rw [hW0, get_past (by simp)]; exact get_last rfl
  have ho1 : W0.heap[w.heap.size + 1]? = some (.cells #[.int .i64 op, .int .i64 t, .int .i64 n, .int .i64 m, .slice (some ⟨b', off', none⟩) 2 cl] 37) := by rw [hW0]; exact get_last (by simp)
  have hbW : Below w.heap.size w W0 := by rw [hW0]; exact by (repeat' (first | (with_reducible exact Below.refl _ _) | (with_reducible assumption) | (with_reducible refine below_drewN ?_ _) | (with_reducible refine Below.alloc ?_ ?_ _) | (with_reducible refine Below.drew ?_) | (with_reducible refine Below.setCell ?_ ?_ _) | go_size))
  have HW0 := Lib.hid hW0
  have HB0 := Lib.hid hbW
  have z0 := heap_lt ho0
  have z1 := heap_lt ho1
  have zb : b' < W0.heap.size := Nat.lt_of_lt_of_le hbw hbW.size
  have s0 : W0.cell? ⟨w.heap.size, 0, none⟩ = some (.slice sa s.vars.length ca) := obj_cell ho0 (i := 0) rfl
  have s1 : W0.cell? ⟨w.heap.size, 1, none⟩ = some (.slice sb s.blocks.length cb) := obj_cell ho0 (i := 1) rfl
  have s2 : W0.cell? ⟨w.heap.size, 2, none⟩ = some (.slice p q k) := obj_cell ho0 (i := 2) rfl
  have s3 : W0.cell? ⟨w.heap.size, 3, none⟩ = some (.slice sd s.slots.length cd) := obj_cell ho0 (i := 3) rfl
  have g4 : W0.cell? ⟨w.heap.size + 1, 4, none⟩ = some (.slice (some ⟨b', off', none⟩) 2 cl) := obj_cell ho1 (i := 4) rfl
  have g0 : W0.cell? ⟨w.heap.size + 1, 0, none⟩ = some (.int .i64 op) := obj_cell ho1 (i := 0) rfl
  have g1 : W0.cell? ⟨w.heap.size + 1, 1, none⟩ = some (.int .i64 t) := obj_cell ho1 (i := 1) rfl
  have g2 : W0.cell? ⟨w.heap.size + 1, 2, none⟩ = some (.int .i64 n) := obj_cell ho1 (i := 2) rfl
  have g3 : W0.cell? ⟨w.heap.size + 1, 3, none⟩ = some (.int .i64 m) := obj_cell ho1 (i := 3) rfl
  have d0 := (hbW.cell (p := ⟨b', off', none⟩) hbw).trans d0
  have d1 := (hbW.cell (p := ⟨b', off' + 1, none⟩) hbw).trans d1
  have d2 := (hbW.cell (p := ⟨b', off' + 2, none⟩) hbw).trans d2
  have d3 := (hbW.cell (p := ⟨b', off' + 3, none⟩) hbw).trans d3
  have d4 := (hbW.cell (p := ⟨b', off' + 4, none⟩) hbw).trans d4
  have f0 := (hbW.cell (p := ⟨b', off' + 5, none⟩) hbw).trans f0
  have f1 := (hbW.cell (p := ⟨b', off' + 5 + 1, none⟩) hbw).trans f1
  have f2 := (hbW.cell (p := ⟨b', off' + 5 + 2, none⟩) hbw).trans f2
  have f3 := (hbW.cell (p := ⟨b', off' + 5 + 3, none⟩) hbw).trans f3
  have f4 := (hbW.cell (p := ⟨b', off' + 5 + 4, none⟩) hbw).trans f4
  have HXc := Lib.hid (fun W (_ : True) (h : Below W0.heap.size W0 W) => hx W _ (hbW.trans (h.mono hbW.size)) (hxv.below (hbW.trans (h.mono hbW.size))))
  have HYc := Lib.hid (fun W (_ : True) (h : Below W0.heap.size W0 W) => hy W _ (hbW.trans (h.mono hbW.size)) (hyv.below (hbW.trans (h.mono hbW.size))))
  generalize typeE s x = T at *
  generalize typeE s y = U at *
  clear hW0 hbW ho0 ho1 hx hy hxv hyv hs hrl hbb
  generalize hZ : (if T = 0 ∨ U = 0 then 0 else doubleT ⟨op, t, n, m, [x, y]⟩ T U) = Z
  have HZ := Lib.hid hZ
  clear hZ
  have hK0 := ref01_Right 0
  rw [show kRight 0 = false from rfl] at hK0
  go_enter Tryd.func38, Tryd.ntmps38
  go_upto_region 5 with fail
  rw [← HW0.out]
  have qq0 := fun wt (h : Below W0.heap.size W0 wt) => cellB h s0 z0
  have qq1 := fun wt (h : Below W0.heap.size W0 wt) => cellB h s1 z0
  have qq2 := fun wt (h : Below W0.heap.size W0 wt) => cellB h s2 z0
  have qq3 := fun wt (h : Below W0.heap.size W0 wt) => cellB h s3 z0
  have qq4 := fun wt (h : Below W0.heap.size W0 wt) => cellB h g4 z1
  have qq5 := fun wt (h : Below W0.heap.size W0 wt) => cellB h d0 zb
  have qq6 := fun wt (h : Below W0.heap.size W0 wt) => cellB h d1 zb
  have qq7 := fun wt (h : Below W0.heap.size W0 wt) => cellB h d2 zb
  have qq8 := fun wt (h : Below W0.heap.size W0 wt) => cellB h d3 zb
  have qq9 := fun wt (h : Below W0.heap.size W0 wt) => cellB h d4 zb
  refine wp_region_held_drew (S := (fun w' => Below W0.heap.size W0 w')) (by kernel_rfl) ?_ (fun hHeld => ?_)
  · (try dsimp only); first | assumption | exact Below.alloc hHeld hHeld.size _ | exact (Below.refl _ _).drew | exact Below.drew (Below.refl _ _) | exact Below_drewN _ _ _ | exact Below.refl _ _
  refine tk 0 (v := ?_) (hy := ?_) (h := ?_); rotate_left
  · intro wt hSw; (try dsimp only at hSw); go_simp <;> with_reducible rfl
  try simp only [pu, pa, pz, ps]
  refine tk 1 (v := ?_) (hy := ?_) (h := ?_); rotate_left
  · intro _ _; go_simp <;> with_reducible rfl
  try simp only [pu, pa, pz, ps]
  refine tk 2 (v := ?_) (hy := ?_) (h := ?_); rotate_left
  · intro wt hSw; (try dsimp only at hSw); go_simp <;> with_reducible rfl
  try simp only [pu, pa, pz, ps]
  refine tk 3 (v := ?_) (hy := ?_) (h := ?_); rotate_left
  · intro _ _; go_simp <;> with_reducible rfl
  try simp only [pu, pa, pz, ps]
  refine tk 4 (v := ?_) (hy := ?_) (h := ?_); rotate_left
  · intro wt hSw; (try dsimp only at hSw); go_simp <;> with_reducible rfl
  try simp only [pu, pa, pz, ps]
  refine wpAnyH_ready (rs := [5]) (by kernel_rfl) (by simp) ?_
  refine AllReadyH.cons (o := ⟨_, _, _, _, _, _⟩) rfl (fun K hK => ?_) AllReadyH.nil
  go_simp
  refine (HXc.out _ trivial hHeld).mono ?_; rintro r w2 ⟨rfl, hb⟩; have hHeld := hHeld.trans (hb.mono hHeld.size)
  go_wp2_with fail
  refine hK.out _ _ ?_ (fun hHeld => ?_)
  · (try dsimp only); first | assumption | exact Below.alloc hHeld hHeld.size _ | exact (Below.refl _ _).drew | exact Below.drew (Below.refl _ _) | exact Below_drewN _ _ _ | exact Below.refl _ _
  clear hK K
  try simp only [pu, pa, pz, ps]
  refine tk 6 (v := ?_) (hy := ?_) (h := ?_); rotate_left
  · intro _ _; go_simp <;> with_reducible rfl
  try simp only [pu, pa, pz, ps]
  refine wpAnyH_done (by kernel_rfl) ?_ _
  have g4 := g4
  go_upto_region 7 with fail
  have qq0 := fun wt (h : Below W0.heap.size W0 wt) => cellB h s0 z0
  have qq1 := fun wt (h : Below W0.heap.size W0 wt) => cellB h s1 z0
  have qq2 := fun wt (h : Below W0.heap.size W0 wt) => cellB h s2 z0
  have qq3 := fun wt (h : Below W0.heap.size W0 wt) => cellB h s3 z0
  have qq4 := fun wt (h : Below W0.heap.size W0 wt) => cellB h g4 z1
  have qq5 := fun wt (h : Below W0.heap.size W0 wt) => cellB h f0 zb
  have qq6 := fun wt (h : Below W0.heap.size W0 wt) => cellB h f1 zb
  have qq7 := fun wt (h : Below W0.heap.size W0 wt) => cellB h f2 zb
  have qq8 := fun wt (h : Below W0.heap.size W0 wt) => cellB h f3 zb
  have qq9 := fun wt (h : Below W0.heap.size W0 wt) => cellB h f4 zb
  refine wp_region_held_drew (S := (fun w' => Below W0.heap.size W0 w')) (by kernel_rfl) ?_ (fun hHeld => ?_)
  · (try dsimp only); first | exact Below.drew hHeld | assumption
  refine tk 0 (v := ?_) (hy := ?_) (h := ?_); rotate_left
  · intro wt hSw; (try dsimp only at hSw); go_simp <;> with_reducible rfl
  try simp only [pu, pa, pz, ps]
  refine tk 1 (v := ?_) (hy := ?_) (h := ?_); rotate_left
  · intro _ _; go_simp <;> with_reducible rfl
  try simp only [pu, pa, pz, ps]
  refine tk 2 (v := ?_) (hy := ?_) (h := ?_); rotate_left
  · intro wt hSw; (try dsimp only at hSw); go_simp <;> with_reducible rfl
  try simp only [pu, pa, pz, ps]
  refine tk 3 (v := ?_) (hy := ?_) (h := ?_); rotate_left
  · intro _ _; go_simp <;> with_reducible rfl
  try simp only [pu, pa, pz, ps]
  refine tk 4 (v := ?_) (hy := ?_) (h := ?_); rotate_left
  · intro wt hSw; (try dsimp only at hSw); go_simp <;> with_reducible rfl
  try simp only [pu, pa, pz, ps]
  refine wpAnyH_ready (rs := [5]) (by kernel_rfl) (by simp) ?_
  refine AllReadyH.cons (o := ⟨_, _, _, _, _, _⟩) rfl (fun K hK => ?_) AllReadyH.nil
  go_simp
  refine (HYc.out _ trivial hHeld).mono ?_; rintro r w2 ⟨rfl, hb⟩; have hHeld := hHeld.trans (hb.mono hHeld.size)
  go_wp2_with fail
  refine hK.out _ _ ?_ (fun hHeld => ?_)
  · (try dsimp only); first | exact Below.drew hHeld | assumption
  clear hK K
  try simp only [pu, pa, pz, ps]
  refine tk 6 (v := ?_) (hy := ?_) (h := ?_); rotate_left
  · intro _ _; go_simp <;> with_reducible rfl
  try simp only [pu, pa, pz, ps]
  refine wpAnyH_done (by kernel_rfl) ?_ _
  have HHw := Lib.hid (HB0.out.trans (hHeld.mono HB0.out.size))
  have p0 := cellB hHeld g0 z1
  have p1 := cellB hHeld g1 z1
  have p2 := cellB hHeld g2 z1
  have p3 := cellB hHeld g3 z1
  have p4 := cellB hHeld g4 z1
  clear s1 s2 s3 d0 d1 d2 d3 d4 f0 f1 f2 f3 f4
  by_cases hT : T = 0
  · subst hT
    have hres := Lib.hid (show Z = 0 by rw [← HZ.out]; simp)
    clear hHeld s0
    go_wp2_with fail
    go_ret
    exact ⟨by rw [hres.out]; rfl, HHw.out⟩
  have eT : (T == 0) = false := by simpa using hT
  by_cases hU : U = 0
  · subst hU
    have hres := Lib.hid (show Z = 0 by rw [← HZ.out]; simp)
    clear hT
    clear hHeld s0
    go_wp2_with fail
    go_ret
    exact ⟨by rw [hres.out]; rfl, HHw.out⟩
  have eU : (U == 0) = false := by simpa using hU
  have HD := Lib.hid (show Z = doubleT ⟨op, t, n, m, [x, y]⟩ T U by rw [← HZ.out]; simp [hT, hU])
  clear HZ hT hU
  by_cases h7 : op = 7
  · subst h7
    by_cases ht : t = 0
    case neg =>
      have et : (t == 0) = false := by simpa using ht
      have hres := Lib.hid (show Z = 0 by rw [HD.out]; unfold doubleT; simp [ht])
      clear ht
      clear hHeld s0
      go_wp2_with fail
      refine (hK0 _).mono ?_; rintro r w2 ⟨rfl, rfl⟩
      go_wp2_with fail
      go_ret
      exact ⟨by rw [hres.out]; rfl, HHw.out⟩
    subst ht
    by_cases hn : n = 0
    case neg =>
      have en : (n == 0) = false := by simpa using hn
      have hres := Lib.hid (show Z = 0 by rw [HD.out]; unfold doubleT; simp [hn])
      clear hn
      clear hHeld s0
      go_wp2_with fail
      refine (hK0 _).mono ?_; rintro r w2 ⟨rfl, rfl⟩
      go_wp2_with fail
      go_ret
      exact ⟨by rw [hres.out]; rfl, HHw.out⟩
    subst hn
    have hB := ref07_Binary m
    cases hb : aBinary m
    · rw [hb] at hB
      have hres := Lib.hid (show Z = 0 by rw [HD.out]; unfold doubleT; simp [hb])
      clear hb
      clear hHeld s0
      go_wp2_with fail
      refine (hB _).mono ?_; rintro r w2 ⟨rfl, rfl⟩
      go_wp2_with fail
      refine (hK0 _).mono ?_; rintro r w2 ⟨rfl, rfl⟩
      go_wp2_with fail
      go_ret
      exact ⟨by rw [hres.out]; rfl, HHw.out⟩
    rw [hb] at hB
    have hR := ref07_Result m T
    have hbd := aResult_le m T
    by_cases hm18 : m = 18
    · subst hm18
      by_cases hU2 : U = 2
      · subst hU2
        have HX := Lib.hid (show Z = aResult 18 T by rw [HD.out]; unfold doubleT; simp [hb])
        clear HD
        by_cases hTU : (2 : Int) = T
        · have eTU : ((2 : Int) == T) = true := by simpa using hTU
          clear hTU
          generalize aResult 18 T = R at *
          have hK := ref01_Right R
          cases hk : kRight R
          · rw [hk] at hK
            have hR0 : R = 0 := by have := of_decide_eq_false hk; omega
            have hres := Lib.hid (HX.out.trans hR0)
            clear hk hbd hR0 hb
            clear hHeld s0
            go_wp2_with fail
            refine (hB _).mono ?_; rintro r w2 ⟨rfl, rfl⟩
            go_wp2_with fail
            refine (hR _).mono ?_; rintro r w2 ⟨rfl, rfl⟩
            go_wp2_with fail
            refine (hK _).mono ?_; rintro r w2 ⟨rfl, rfl⟩
            go_wp2_with fail
            go_ret
            exact ⟨by rw [hres.out]; rfl, HHw.out⟩
          · rw [hk] at hK
            have hres := HX
            clear hk hbd hb
            clear hHeld s0
            go_wp2_with fail
            refine (hB _).mono ?_; rintro r w2 ⟨rfl, rfl⟩
            go_wp2_with fail
            refine (hR _).mono ?_; rintro r w2 ⟨rfl, rfl⟩
            go_wp2_with fail
            refine (hK _).mono ?_; rintro r w2 ⟨rfl, rfl⟩
            go_wp2_with fail
            go_ret
            exact ⟨by rw [hres.out]; rfl, HHw.out⟩
        have eTU : ((2 : Int) == T) = false := by simpa using hTU
        clear hTU
        generalize aResult 18 T = R at *
        have hK := ref01_Right R
        cases hk : kRight R
        · rw [hk] at hK
          have hR0 : R = 0 := by have := of_decide_eq_false hk; omega
          have hres := Lib.hid (HX.out.trans hR0)
          clear hk hbd hR0 hb
          clear hHeld s0
          go_wp2_with fail
          refine (hB _).mono ?_; rintro r w2 ⟨rfl, rfl⟩
          go_wp2_with fail
          refine (hR _).mono ?_; rintro r w2 ⟨rfl, rfl⟩
          go_wp2_with fail
          refine (hK _).mono ?_; rintro r w2 ⟨rfl, rfl⟩
          go_wp2_with fail
          go_ret
          exact ⟨by rw [hres.out]; rfl, HHw.out⟩
        · rw [hk] at hK
          have hres := HX
          clear hk hbd hb
          clear hHeld s0
          go_wp2_with fail
          refine (hB _).mono ?_; rintro r w2 ⟨rfl, rfl⟩
          go_wp2_with fail
          refine (hR _).mono ?_; rintro r w2 ⟨rfl, rfl⟩
          go_wp2_with fail
          refine (hK _).mono ?_; rintro r w2 ⟨rfl, rfl⟩
          go_wp2_with fail
          go_ret
          exact ⟨by rw [hres.out]; rfl, HHw.out⟩
      have eU2 : (U == 2) = false := by simpa using hU2
      have hres := Lib.hid (show Z = 0 by rw [HD.out]; unfold doubleT; simp [hU2])
      clear hU2 hR hb hbd HD
      by_cases hTU : U = T
      · have eTU : (U == T) = true := by simpa using hTU
        clear hTU
        clear hHeld s0
        go_wp2_with fail
        refine (hB _).mono ?_; rintro r w2 ⟨rfl, rfl⟩
        go_wp2_with fail
        refine (hK0 _).mono ?_; rintro r w2 ⟨rfl, rfl⟩
        go_wp2_with fail
        go_ret
        exact ⟨by rw [hres.out]; rfl, HHw.out⟩
      have eTU : (U == T) = false := by simpa using hTU
      clear hTU
      clear hHeld s0
      go_wp2_with fail
      refine (hB _).mono ?_; rintro r w2 ⟨rfl, rfl⟩
      go_wp2_with fail
      refine (hK0 _).mono ?_; rintro r w2 ⟨rfl, rfl⟩
      go_wp2_with fail
      go_ret
      exact ⟨by rw [hres.out]; rfl, HHw.out⟩
    have em18 : (m == 18) = false := by simpa using hm18
    have en18 : (m != 18) = true := by simpa using hm18
    by_cases hm19 : m = 19
    · subst hm19
      by_cases hU2 : U = 2
      · subst hU2
        have HX := Lib.hid (show Z = aResult 19 T by rw [HD.out]; unfold doubleT; simp [hb])
        clear HD
        by_cases hTU : (2 : Int) = T
        · have eTU : ((2 : Int) == T) = true := by simpa using hTU
          clear hTU
          generalize aResult 19 T = R at *
          have hK := ref01_Right R
          cases hk : kRight R
          · rw [hk] at hK
            have hR0 : R = 0 := by have := of_decide_eq_false hk; omega
            have hres := Lib.hid (HX.out.trans hR0)
            clear hk hbd hR0 hb
            clear hHeld s0
            go_wp2_with fail
            refine (hB _).mono ?_; rintro r w2 ⟨rfl, rfl⟩
            go_wp2_with fail
            refine (hR _).mono ?_; rintro r w2 ⟨rfl, rfl⟩
            go_wp2_with fail
            refine (hK _).mono ?_; rintro r w2 ⟨rfl, rfl⟩
            go_wp2_with fail
            go_ret
            exact ⟨by rw [hres.out]; rfl, HHw.out⟩
          · rw [hk] at hK
            have hres := HX
            clear hk hbd hb
            clear hHeld s0
            go_wp2_with fail
            refine (hB _).mono ?_; rintro r w2 ⟨rfl, rfl⟩
            go_wp2_with fail
            refine (hR _).mono ?_; rintro r w2 ⟨rfl, rfl⟩
            go_wp2_with fail
            refine (hK _).mono ?_; rintro r w2 ⟨rfl, rfl⟩
            go_wp2_with fail
            go_ret
            exact ⟨by rw [hres.out]; rfl, HHw.out⟩
        have eTU : ((2 : Int) == T) = false := by simpa using hTU
        clear hTU
        generalize aResult 19 T = R at *
        have hK := ref01_Right R
        cases hk : kRight R
        · rw [hk] at hK
          have hR0 : R = 0 := by have := of_decide_eq_false hk; omega
          have hres := Lib.hid (HX.out.trans hR0)
          clear hk hbd hR0 hb
          clear hHeld s0
          go_wp2_with fail
          refine (hB _).mono ?_; rintro r w2 ⟨rfl, rfl⟩
          go_wp2_with fail
          refine (hR _).mono ?_; rintro r w2 ⟨rfl, rfl⟩
          go_wp2_with fail
          refine (hK _).mono ?_; rintro r w2 ⟨rfl, rfl⟩
          go_wp2_with fail
          go_ret
          exact ⟨by rw [hres.out]; rfl, HHw.out⟩
        · rw [hk] at hK
          have hres := HX
          clear hk hbd hb
          clear hHeld s0
          go_wp2_with fail
          refine (hB _).mono ?_; rintro r w2 ⟨rfl, rfl⟩
          go_wp2_with fail
          refine (hR _).mono ?_; rintro r w2 ⟨rfl, rfl⟩
          go_wp2_with fail
          refine (hK _).mono ?_; rintro r w2 ⟨rfl, rfl⟩
          go_wp2_with fail
          go_ret
          exact ⟨by rw [hres.out]; rfl, HHw.out⟩
      have eU2 : (U == 2) = false := by simpa using hU2
      have hres := Lib.hid (show Z = 0 by rw [HD.out]; unfold doubleT; simp [hU2])
      clear hU2 hR hb hbd HD
      by_cases hTU : U = T
      · have eTU : (U == T) = true := by simpa using hTU
        clear hTU
        clear hHeld s0
        go_wp2_with fail
        refine (hB _).mono ?_; rintro r w2 ⟨rfl, rfl⟩
        go_wp2_with fail
        refine (hK0 _).mono ?_; rintro r w2 ⟨rfl, rfl⟩
        go_wp2_with fail
        go_ret
        exact ⟨by rw [hres.out]; rfl, HHw.out⟩
      have eTU : (U == T) = false := by simpa using hTU
      clear hTU
      clear hHeld s0
      go_wp2_with fail
      refine (hB _).mono ?_; rintro r w2 ⟨rfl, rfl⟩
      go_wp2_with fail
      refine (hK0 _).mono ?_; rintro r w2 ⟨rfl, rfl⟩
      go_wp2_with fail
      go_ret
      exact ⟨by rw [hres.out]; rfl, HHw.out⟩
    have em19 : (m == 19) = false := by simpa using hm19
    have en19 : (m != 19) = true := by simpa using hm19
    by_cases hTU : U = T
    · subst hTU
      have HX := Lib.hid (show Z = aResult m U by rw [HD.out]; unfold doubleT; simp [hb, hm18, hm19])
      clear HD hm18 hm19
      generalize aResult m U = R at *
      have hK := ref01_Right R
      cases hk : kRight R
      · rw [hk] at hK
        have hR0 : R = 0 := by have := of_decide_eq_false hk; omega
        have hres := Lib.hid (HX.out.trans hR0)
        clear hk hbd hR0 hb
        clear hHeld s0
        go_wp2_with fail
        refine (hB _).mono ?_; rintro r w2 ⟨rfl, rfl⟩
        go_wp2_with fail
        refine (hR _).mono ?_; rintro r w2 ⟨rfl, rfl⟩
        go_wp2_with fail
        refine (hK _).mono ?_; rintro r w2 ⟨rfl, rfl⟩
        go_wp2_with fail
        go_ret
        exact ⟨by rw [hres.out]; rfl, HHw.out⟩
      · rw [hk] at hK
        have hres := HX
        clear hk hbd hb
        clear hHeld s0
        go_wp2_with fail
        refine (hB _).mono ?_; rintro r w2 ⟨rfl, rfl⟩
        go_wp2_with fail
        refine (hR _).mono ?_; rintro r w2 ⟨rfl, rfl⟩
        go_wp2_with fail
        refine (hK _).mono ?_; rintro r w2 ⟨rfl, rfl⟩
        go_wp2_with fail
        go_ret
        exact ⟨by rw [hres.out]; rfl, HHw.out⟩
    have eTU : (U == T) = false := by simpa using hTU
    have hres := Lib.hid (show Z = 0 by rw [HD.out]; unfold doubleT; simp [hm18, hm19, hTU])
    clear hTU hR hb hbd HD hm18 hm19
    by_cases hU2 : U = 2
    · subst hU2
      clear hHeld s0
      go_wp2_with fail
      refine (hB _).mono ?_; rintro r w2 ⟨rfl, rfl⟩
      go_wp2_with fail
      refine (hK0 _).mono ?_; rintro r w2 ⟨rfl, rfl⟩
      go_wp2_with fail
      go_ret
      exact ⟨by rw [hres.out]; rfl, HHw.out⟩
    have eU2 : (U == 2) = false := by simpa using hU2
    clear hU2
    clear hHeld s0
    go_wp2_with fail
    refine (hB _).mono ?_; rintro r w2 ⟨rfl, rfl⟩
    go_wp2_with fail
    refine (hK0 _).mono ?_; rintro r w2 ⟨rfl, rfl⟩
    go_wp2_with fail
    go_ret
    exact ⟨by rw [hres.out]; rfl, HHw.out⟩
  have e7 : (op == 7) = false := by simpa using h7
  have hres := Lib.hid (show Z = 0 by rw [HD.out]; unfold doubleT; simp [h7])
  clear HD
  have hw2 : IntKind.i64.wrap 2 = 2 := by decide
  have hw1 : IntKind.i64.wrap 1 = 1 := by decide
  have hw0 : IntKind.i64.wrap 0 = 0 := by decide
  have hwt : IntKind.i64.wrap (Int.tdiv 2 2) = 1 := by decide
  have hwz : IntKind.i64.wrap (Int.tdiv 0 2) = 0 := by decide
  by_cases h2 : op = 2
  · subst h2
    clear h7
    go_upto_region 17 with fail
    have qq0 := fun wt (h : Below W0.heap.size W0 wt) => cellB h s0 z0
    have qq1 := fun wt (h : Below W0.heap.size W0 wt) => cellB h g0 z1
    have qq2 := fun wt (h : Below W0.heap.size W0 wt) => cellB h g1 z1
    have qq3 := fun wt (h : Below W0.heap.size W0 wt) => cellB h g2 z1
    have qq4 := fun wt (h : Below W0.heap.size W0 wt) => cellB h g3 z1
    refine wp_region_held_drew (S := (fun w' => Below W0.heap.size W0 w')) (by kernel_rfl) ?_ (fun hHeld => ?_)
    · (try dsimp only); first | exact Below.drew hHeld | assumption
    refine tk 0 (v := ?_) (hy := ?_) (h := ?_); rotate_left
    · intro _ _; go_simp <;> with_reducible rfl
    try simp only [pu, pa, pz, ps]
    refine tk 1 (v := ?_) (hy := ?_) (h := ?_); rotate_left
    · intro _ _; go_simp <;> with_reducible rfl
    try simp only [pu, pa, pz, ps]
    refine tk 2 (v := ?_) (hy := ?_) (h := ?_); rotate_left
    · intro wt hSw; (try dsimp only at hSw); go_simp <;> with_reducible rfl
    try simp only [pu, pa, pz, ps]
    refine tk 3 (v := ?_) (hy := ?_) (h := ?_); rotate_left
    · intro _ _; go_simp <;> with_reducible rfl
    try simp only [pu, pa, pz, ps]
    refine tk 4 (v := ?_) (hy := ?_) (h := ?_); rotate_left
    · intro _ _; go_simp <;> with_reducible rfl
    try simp only [pu, pa, pz, ps]
    refine tk 5 (v := ?_) (hy := ?_) (h := ?_); rotate_left
    · intro _ _; go_simp <;> with_reducible rfl
    try simp only [pu, pa, pz, ps]
    refine tk 6 (v := ?_) (hy := ?_) (h := ?_); rotate_left
    · intro _ _; go_simp <;> with_reducible rfl
    try simp only [pu, pa, pz, ps]
    refine sk 7 (h := ?_)
    try simp only [pu, pa, pz, ps]
    refine sk 8 (h := ?_)
    try simp only [pu, pa, pz, ps]
    refine sk 9 (h := ?_)
    try simp only [pu, pa, pz, ps]
    refine tk 10 (v := ?_) (hy := ?_) (h := ?_); rotate_left
    · intro _ _; go_simp <;> with_reducible rfl
    try simp only [pu, pa, pz, ps]
    refine tk 11 (v := ?_) (hy := ?_) (h := ?_); rotate_left
    · intro _ _; go_simp <;> with_reducible rfl
    try simp only [pu, pa, pz, ps]
    refine sk 12 (h := ?_)
    try simp only [pu, pa, pz, ps]
    refine sk 13 (h := ?_)
    try simp only [pu, pa, pz, ps]
    refine sk 14 (h := ?_)
    try simp only [pu, pa, pz, ps]
    refine tk 15 (v := ?_) (hy := ?_) (h := ?_); rotate_left
    · intro _ _; go_simp <;> with_reducible rfl
    try simp only [pu, pa, pz, ps]
    refine tk 16 (v := ?_) (hy := ?_) (h := ?_); rotate_left
    · intro _ _; go_simp <;> with_reducible rfl
    try simp only [pu, pa, pz, ps]
    refine sk 17 (h := ?_)
    try simp only [pu, pa, pz, ps]
    refine sk 18 (h := ?_)
    try simp only [pu, pa, pz, ps]
    refine sk 19 (h := ?_)
    try simp only [pu, pa, pz, ps]
    refine tk 20 (v := ?_) (hy := ?_) (h := ?_); rotate_left
    · intro _ _; go_simp <;> with_reducible rfl
    try simp only [pu, pa, pz, ps]
    refine tk 21 (v := ?_) (hy := ?_) (h := ?_); rotate_left
    · intro _ _; go_simp <;> with_reducible rfl
    try simp only [pu, pa, pz, ps]
    refine sk 22 (h := ?_)
    try simp only [pu, pa, pz, ps]
    refine sk 23 (h := ?_)
    try simp only [pu, pa, pz, ps]
    refine sk 24 (h := ?_)
    try simp only [pu, pa, pz, ps]
    refine sk 25 (h := ?_)
    try simp only [pu, pa, pz, ps]
    refine sk 26 (h := ?_)
    try simp only [pu, pa, pz, ps]
    refine sk 27 (h := ?_)
    try simp only [pu, pa, pz, ps]
    refine tk 28 (v := ?_) (hy := ?_) (h := ?_); rotate_left
    · intro _ _; go_simp <;> with_reducible rfl
    try simp only [pu, pa, pz, ps]
    refine tk 29 (v := ?_) (hy := ?_) (h := ?_); rotate_left
    · intro _ _; go_simp <;> with_reducible rfl
    try simp only [pu, pa, pz, ps]
    refine sk 30 (h := ?_)
    try simp only [pu, pa, pz, ps]
    refine sk 31 (h := ?_)
    try simp only [pu, pa, pz, ps]
    refine sk 32 (h := ?_)
    try simp only [pu, pa, pz, ps]
    refine sk 33 (h := ?_)
    try simp only [pu, pa, pz, ps]
    refine sk 34 (h := ?_)
    try simp only [pu, pa, pz, ps]
    refine sk 35 (h := ?_)
    try simp only [pu, pa, pz, ps]
    refine sk 36 (h := ?_)
    try simp only [pu, pa, pz, ps]
    refine sk 37 (h := ?_)
    try simp only [pu, pa, pz, ps]
    refine sk 38 (h := ?_)
    try simp only [pu, pa, pz, ps]
    refine sk 39 (h := ?_)
    try simp only [pu, pa, pz, ps]
    refine sk 40 (h := ?_)
    try simp only [pu, pa, pz, ps]
    refine sk 41 (h := ?_)
    try simp only [pu, pa, pz, ps]
    refine tk 42 (v := ?_) (hy := ?_) (h := ?_); rotate_left
    · intro _ _; go_simp <;> with_reducible rfl
    try simp only [pu, pa, pz, ps]
    refine tk 43 (v := ?_) (hy := ?_) (h := ?_); rotate_left
    · intro _ _; go_simp <;> with_reducible rfl
    try simp only [pu, pa, pz, ps]
    refine sk 44 (h := ?_)
    try simp only [pu, pa, pz, ps]
    refine sk 45 (h := ?_)
    try simp only [pu, pa, pz, ps]
    refine sk 46 (h := ?_)
    try simp only [pu, pa, pz, ps]
    refine sk 47 (h := ?_)
    try simp only [pu, pa, pz, ps]
    refine sk 48 (h := ?_)
    try simp only [pu, pa, pz, ps]
    refine sk 49 (h := ?_)
    try simp only [pu, pa, pz, ps]
    refine tk 50 (v := ?_) (hy := ?_) (h := ?_); rotate_left
    · intro _ _; go_simp <;> with_reducible rfl
    try simp only [pu, pa, pz, ps]
    refine wpAnyH_done (by kernel_rfl) ?_ _
    have HHw := Lib.hid (HB0.out.trans (hHeld.mono HB0.out.size))
    clear p0 p1 p2 p3 p4
    have g0 := cellB hHeld g0 z1
    have g1 := cellB hHeld g1 z1
    have g2 := cellB hHeld g2 z1
    have g3 := cellB hHeld g3 z1
    have g4 := cellB hHeld g4 z1
    clear hHeld s0
    go_wp2_with fail
    refine (hK0 _).mono ?_; rintro r w2 ⟨rfl, rfl⟩
    go_wp2_with fail
    go_ret
    exact ⟨by rw [hres.out]; rfl, HHw.out⟩
  have e2 : (op == 2) = false := by simpa using h2
  by_cases h4 : op = 4
  · subst h4
    clear h7
    go_upto_region 17 with fail
    have qq0 := fun wt (h : Below W0.heap.size W0 wt) => cellB h s0 z0
    have qq1 := fun wt (h : Below W0.heap.size W0 wt) => cellB h g0 z1
    have qq2 := fun wt (h : Below W0.heap.size W0 wt) => cellB h g1 z1
    have qq3 := fun wt (h : Below W0.heap.size W0 wt) => cellB h g2 z1
    have qq4 := fun wt (h : Below W0.heap.size W0 wt) => cellB h g3 z1
    refine wp_region_held_drew (S := (fun w' => Below W0.heap.size W0 w')) (by kernel_rfl) ?_ (fun hHeld => ?_)
    · (try dsimp only); first | exact Below.drew hHeld | assumption
    refine tk 0 (v := ?_) (hy := ?_) (h := ?_); rotate_left
    · intro _ _; go_simp <;> with_reducible rfl
    try simp only [pu, pa, pz, ps]
    refine tk 1 (v := ?_) (hy := ?_) (h := ?_); rotate_left
    · intro _ _; go_simp <;> with_reducible rfl
    try simp only [pu, pa, pz, ps]
    refine tk 2 (v := ?_) (hy := ?_) (h := ?_); rotate_left
    · intro wt hSw; (try dsimp only at hSw); go_simp <;> with_reducible rfl
    try simp only [pu, pa, pz, ps]
    refine tk 3 (v := ?_) (hy := ?_) (h := ?_); rotate_left
    · intro _ _; go_simp <;> with_reducible rfl
    try simp only [pu, pa, pz, ps]
    refine tk 4 (v := ?_) (hy := ?_) (h := ?_); rotate_left
    · intro _ _; go_simp <;> with_reducible rfl
    try simp only [pu, pa, pz, ps]
    refine tk 5 (v := ?_) (hy := ?_) (h := ?_); rotate_left
    · intro _ _; go_simp <;> with_reducible rfl
    try simp only [pu, pa, pz, ps]
    refine tk 6 (v := ?_) (hy := ?_) (h := ?_); rotate_left
    · intro _ _; go_simp <;> with_reducible rfl
    try simp only [pu, pa, pz, ps]
    refine sk 7 (h := ?_)
    try simp only [pu, pa, pz, ps]
    refine sk 8 (h := ?_)
    try simp only [pu, pa, pz, ps]
    refine sk 9 (h := ?_)
    try simp only [pu, pa, pz, ps]
    refine tk 10 (v := ?_) (hy := ?_) (h := ?_); rotate_left
    · intro _ _; go_simp <;> with_reducible rfl
    try simp only [pu, pa, pz, ps]
    refine tk 11 (v := ?_) (hy := ?_) (h := ?_); rotate_left
    · intro _ _; go_simp <;> with_reducible rfl
    try simp only [pu, pa, pz, ps]
    refine sk 12 (h := ?_)
    try simp only [pu, pa, pz, ps]
    refine sk 13 (h := ?_)
    try simp only [pu, pa, pz, ps]
    refine sk 14 (h := ?_)
    try simp only [pu, pa, pz, ps]
    refine tk 15 (v := ?_) (hy := ?_) (h := ?_); rotate_left
    · intro _ _; go_simp <;> with_reducible rfl
    try simp only [pu, pa, pz, ps]
    refine tk 16 (v := ?_) (hy := ?_) (h := ?_); rotate_left
    · intro _ _; go_simp <;> with_reducible rfl
    try simp only [pu, pa, pz, ps]
    refine sk 17 (h := ?_)
    try simp only [pu, pa, pz, ps]
    refine sk 18 (h := ?_)
    try simp only [pu, pa, pz, ps]
    refine sk 19 (h := ?_)
    try simp only [pu, pa, pz, ps]
    refine tk 20 (v := ?_) (hy := ?_) (h := ?_); rotate_left
    · intro _ _; go_simp <;> with_reducible rfl
    try simp only [pu, pa, pz, ps]
    refine tk 21 (v := ?_) (hy := ?_) (h := ?_); rotate_left
    · intro _ _; go_simp <;> with_reducible rfl
    try simp only [pu, pa, pz, ps]
    refine sk 22 (h := ?_)
    try simp only [pu, pa, pz, ps]
    refine sk 23 (h := ?_)
    try simp only [pu, pa, pz, ps]
    refine sk 24 (h := ?_)
    try simp only [pu, pa, pz, ps]
    refine sk 25 (h := ?_)
    try simp only [pu, pa, pz, ps]
    refine sk 26 (h := ?_)
    try simp only [pu, pa, pz, ps]
    refine sk 27 (h := ?_)
    try simp only [pu, pa, pz, ps]
    refine tk 28 (v := ?_) (hy := ?_) (h := ?_); rotate_left
    · intro _ _; go_simp <;> with_reducible rfl
    try simp only [pu, pa, pz, ps]
    refine tk 29 (v := ?_) (hy := ?_) (h := ?_); rotate_left
    · intro _ _; go_simp <;> with_reducible rfl
    try simp only [pu, pa, pz, ps]
    refine sk 30 (h := ?_)
    try simp only [pu, pa, pz, ps]
    refine sk 31 (h := ?_)
    try simp only [pu, pa, pz, ps]
    refine sk 32 (h := ?_)
    try simp only [pu, pa, pz, ps]
    refine sk 33 (h := ?_)
    try simp only [pu, pa, pz, ps]
    refine sk 34 (h := ?_)
    try simp only [pu, pa, pz, ps]
    refine sk 35 (h := ?_)
    try simp only [pu, pa, pz, ps]
    refine sk 36 (h := ?_)
    try simp only [pu, pa, pz, ps]
    refine sk 37 (h := ?_)
    try simp only [pu, pa, pz, ps]
    refine sk 38 (h := ?_)
    try simp only [pu, pa, pz, ps]
    refine sk 39 (h := ?_)
    try simp only [pu, pa, pz, ps]
    refine sk 40 (h := ?_)
    try simp only [pu, pa, pz, ps]
    refine sk 41 (h := ?_)
    try simp only [pu, pa, pz, ps]
    refine tk 42 (v := ?_) (hy := ?_) (h := ?_); rotate_left
    · intro _ _; go_simp <;> with_reducible rfl
    try simp only [pu, pa, pz, ps]
    refine tk 43 (v := ?_) (hy := ?_) (h := ?_); rotate_left
    · intro _ _; go_simp <;> with_reducible rfl
    try simp only [pu, pa, pz, ps]
    refine sk 44 (h := ?_)
    try simp only [pu, pa, pz, ps]
    refine sk 45 (h := ?_)
    try simp only [pu, pa, pz, ps]
    refine sk 46 (h := ?_)
    try simp only [pu, pa, pz, ps]
    refine sk 47 (h := ?_)
    try simp only [pu, pa, pz, ps]
    refine sk 48 (h := ?_)
    try simp only [pu, pa, pz, ps]
    refine sk 49 (h := ?_)
    try simp only [pu, pa, pz, ps]
    refine tk 50 (v := ?_) (hy := ?_) (h := ?_); rotate_left
    · intro _ _; go_simp <;> with_reducible rfl
    try simp only [pu, pa, pz, ps]
    refine wpAnyH_done (by kernel_rfl) ?_ _
    have HHw := Lib.hid (HB0.out.trans (hHeld.mono HB0.out.size))
    clear p0 p1 p2 p3 p4
    have g0 := cellB hHeld g0 z1
    have g1 := cellB hHeld g1 z1
    have g2 := cellB hHeld g2 z1
    have g3 := cellB hHeld g3 z1
    have g4 := cellB hHeld g4 z1
    clear hHeld s0
    go_wp2_with fail
    refine (hK0 _).mono ?_; rintro r w2 ⟨rfl, rfl⟩
    go_wp2_with fail
    go_ret
    exact ⟨by rw [hres.out]; rfl, HHw.out⟩
  have e4 : (op == 4) = false := by simpa using h4
  by_cases h1 : op = 1
  · subst h1
    clear h7 h2 h4
    clear hHeld s0
    go_wp2_with fail
    refine (hK0 _).mono ?_; rintro r w2 ⟨rfl, rfl⟩
    go_wp2_with fail
    go_ret
    exact ⟨by rw [hres.out]; rfl, HHw.out⟩
  have e1 : (op == 1) = false := by simpa using h1
  by_cases h3 : op = 3
  · subst h3
    clear h7 h2 h4
    clear hHeld s0
    go_wp2_with fail
    refine (hK0 _).mono ?_; rintro r w2 ⟨rfl, rfl⟩
    go_wp2_with fail
    go_ret
    exact ⟨by rw [hres.out]; rfl, HHw.out⟩
  have e3 : (op == 3) = false := by simpa using h3
  by_cases h5 : op = 5
  · subst h5
    clear h7 h2 h4
    clear hHeld s0
    go_wp2_with fail
    refine (hK0 _).mono ?_; rintro r w2 ⟨rfl, rfl⟩
    go_wp2_with fail
    go_ret
    exact ⟨by rw [hres.out]; rfl, HHw.out⟩
  have e5 : (op == 5) = false := by simpa using h5
  by_cases h6 : op = 6
  · subst h6
    clear h7 h2 h4
    clear hHeld s0
    go_wp2_with fail
    refine (hK0 _).mono ?_; rintro r w2 ⟨rfl, rfl⟩
    go_wp2_with fail
    go_ret
    exact ⟨by rw [hres.out]; rfl, HHw.out⟩
  have e6 : (op == 6) = false := by simpa using h6
  by_cases h8 : op = 8
  · subst h8
    clear h7 h2 h4
    clear hHeld s0
    go_wp2_with fail
    refine (hK0 _).mono ?_; rintro r w2 ⟨rfl, rfl⟩
    go_wp2_with fail
    go_ret
    exact ⟨by rw [hres.out]; rfl, HHw.out⟩
  have e8 : (op == 8) = false := by simpa using h8
  clear h7 h2 h4 h1 h3 h5 h6 h8
  clear hHeld s0
  go_wp2_with fail
  refine (hK0 _).mono ?_; rintro r w2 ⟨rfl, rfl⟩
  go_wp2_with fail
  go_ret
  exact ⟨by rw [hres.out]; rfl, HHw.out⟩
end Go.Proofs.YtknbomikiakpmaaDoor
/- Layer 26: the document's Type, of any expression. -/
namespace Go.Proofs.YtknbomikiakpmaaDoor
open Go.RowKit
set_option linter.unusedSimpArgs false
set_option linter.unusedVariables false
theorem typeE_nil (s : Sc) (op t n m : Int) : typeE s ⟨op, t, n, m, []⟩ = leafT s ⟨op, t, n, m, []⟩ := by rw [typeE_mk]; rfl
theorem typeE_one (s : Sc) (op t n m : Int) (x : Ex) : typeE s ⟨op, t, n, m, [x]⟩ = if typeE s x = 0 then 0 else singleT s ⟨op, t, n, m, [x]⟩ (typeE s x) := by
  rw [typeE_mk]
  show typeF s _ [typeE s x] = _
  unfold typeF
  by_cases h : typeE s x = 0 <;> simp [h]
theorem typeE_two (s : Sc) (op t n m : Int) (x y : Ex) : typeE s ⟨op, t, n, m, [x, y]⟩ = if typeE s x = 0 ∨ typeE s y = 0 then 0 else doubleT ⟨op, t, n, m, [x, y]⟩ (typeE s x) (typeE s y) := by
  rw [typeE_mk]
  show typeF s _ [typeE s x, typeE s y] = _
  unfold typeF
  by_cases h : typeE s x = 0 <;> by_cases h' : typeE s y = 0 <;> simp [h, h']
theorem typeE_more (s : Sc) (op t n m : Int) (x y z : Ex) (l : List Ex) : typeE s ⟨op, t, n, m, x :: y :: z :: l⟩ = 0 := by
  rw [typeE_mk]
  show typeF s _ (typeE s x :: typeE s y :: typeE s z :: l.map (typeE s)) = _
  unfold typeF
  split <;> rfl
theorem ref26_Type (e : Ex) : ∀ (a b c d : Value) (s : Sc) (v : Value) (w : World), ScAt w a b d s → (∃ p q k, c = .slice p q k) → ExV w v e →
    Calls Tryd.prog 38 #[.agg #[a, b, c, d], v] w fun r w' => r = .returned (.int .i64 (typeE s e)) ∧ Below w.heap.size w w' := by
  induction e using Ex.ind with
  | h op t n m l ih =>
    intro a b c d s v w hs hc hv
    have hT : ∀ x ∈ l, Typed w a b c d s x := fun x hx W u hb hu => ih x hx a b c d s u W (hs.below hb) hc hu
    match l, hT, hv with
    | [], _, hv =>
      rw [typeE_nil]
      by_cases h2 : op = 2
      · exact ref26_Type0Two a b c d s op t n m h2 v w hs hv
      · exact ref26_Type0 a b c d s op t n m h2 v w hs hv
    | [x], hT, hv =>
      rw [typeE_one]
      have hx := hT x (by simp)
      by_cases h2 : op = 2
      · exact ref26_Type12 a b c d s op t n m x v w hs hc hv hx h2
      · by_cases h4 : op = 4
        · exact ref26_Type14 a b c d s op t n m x v w hs hc hv hx h4
        · exact ref26_Type1 a b c d s op t n m x v w hs hc hv hx h2 h4
    | [x, y], hT, hv =>
      rw [typeE_two]
      exact ref26_Type2 a b c d s op t n m x y v w hs hc hv (hT x (by simp)) (hT y (by simp))
    | x :: y :: z :: l, hT, hv =>
      rw [typeE_more]
      exact ref26_TypeM a b c d s op t n m x y z l v w hs hc hv (hT x (by simp)) (hT y (by simp))
end Go.Proofs.YtknbomikiakpmaaDoor
