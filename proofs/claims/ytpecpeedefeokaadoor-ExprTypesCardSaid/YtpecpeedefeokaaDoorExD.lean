/- expr.double, expr.single. -/
import Derived.Test.YtpecpeedefeokaaDoorExL
namespace Go.Proofs.YtpecpeedefeokaaDoor
open Go.RowKit
set_option linter.unusedSimpArgs false
set_option linter.unusedVariables false
set_option maxHeartbeats 4000000 in
theorem expr_double (e : Ex) (v : Value) (a b : Int) (w : World) (hv : ExV w v e) (hg : AGoes w) : Calls Tryd.prog 27 #[v, .int .i64 a, .int .i64 b] w fun r w' => r = .returned (.int .i64 (doubleT e a b)) ∧ Below w.heap.size w w' := by
  obtain ⟨op, t, n, m, l⟩ := e
  obtain ⟨sl, rfl, _, _⟩ := hv
  have HG := Lib.hid (fun W (h : Below w.heap.size w W) => hg.below h)
  have hB := alu_Binary m
  have hR := Lib.hid (fun W (h : Below w.heap.size w W) => alu_Result m a W (HG.out W h))
  simp only at ⊢
  clear hg
  by_cases hm18 : m = 18
  · subst hm18
    have hm : True := trivial
    by_cases h7 : op = 7
    case neg =>
      have e7 : (op != 7) = true := by simpa using h7
      have hres := Lib.hid (show doubleT ⟨op, t, n, 18, l⟩ a b = 0 by unfold doubleT; simp [h7])
      go_enter Tryd.func27, Tryd.ntmps27
      go_wp2_with fail
      go_ret
      exact ⟨by rw [hres.out]; rfl, by (repeat' (first | (with_reducible exact Below.refl _ _) | (with_reducible assumption) | (with_reducible refine below_drewN ?_ _) | (with_reducible refine Below.alloc ?_ ?_ _) | (with_reducible refine Below.drew ?_) | (with_reducible refine Below.setCell ?_ ?_ _) | go_size))⟩
    subst h7
    by_cases h3 : t = 0
    case neg =>
      have e3 : (t != 0) = true := by simpa using h3
      have hres := Lib.hid (show doubleT ⟨7, t, n, 18, l⟩ a b = 0 by unfold doubleT; simp [h3])
      go_enter Tryd.func27, Tryd.ntmps27
      go_wp2_with fail
      go_ret
      exact ⟨by rw [hres.out]; rfl, by (repeat' (first | (with_reducible exact Below.refl _ _) | (with_reducible assumption) | (with_reducible refine below_drewN ?_ _) | (with_reducible refine Below.alloc ?_ ?_ _) | (with_reducible refine Below.drew ?_) | (with_reducible refine Below.setCell ?_ ?_ _) | go_size))⟩
    subst h3
    by_cases h4 : n = 0
    case neg =>
      have e4 : (n != 0) = true := by simpa using h4
      have hres := Lib.hid (show doubleT ⟨7, 0, n, 18, l⟩ a b = 0 by unfold doubleT; simp [h4])
      go_enter Tryd.func27, Tryd.ntmps27
      go_wp2_with fail
      go_ret
      exact ⟨by rw [hres.out]; rfl, by (repeat' (first | (with_reducible exact Below.refl _ _) | (with_reducible assumption) | (with_reducible refine below_drewN ?_ _) | (with_reducible refine Below.alloc ?_ ?_ _) | (with_reducible refine Below.drew ?_) | (with_reducible refine Below.setCell ?_ ?_ _) | go_size))⟩
    subst h4
    cases hb : aBinary 18
    · rw [hb] at hB
      have hres := Lib.hid (show doubleT ⟨7, 0, 0, 18, l⟩ a b = 0 by unfold doubleT; simp [hb])
      go_enter Tryd.func27, Tryd.ntmps27
      go_wp2_with fail
      refine (hB _).mono ?_; rintro r w2 ⟨rfl, rfl⟩
      go_wp2_with fail
      go_ret
      exact ⟨by rw [hres.out]; rfl, by (repeat' (first | (with_reducible exact Below.refl _ _) | (with_reducible assumption) | (with_reducible refine below_drewN ?_ _) | (with_reducible refine Below.alloc ?_ ?_ _) | (with_reducible refine Below.drew ?_) | (with_reducible refine Below.setCell ?_ ?_ _) | go_size))⟩
    · rw [hb] at hB
      by_cases hx : b = 2
      case neg =>
        have ex : (b != 2) = true := by simpa using hx
        have hres := Lib.hid (show doubleT ⟨7, 0, 0, 18, l⟩ a b = 0 by unfold doubleT; simp [hb, hx, hm])
        go_enter Tryd.func27, Tryd.ntmps27
        go_wp2_with fail
        refine (hB _).mono ?_; rintro r w2 ⟨rfl, rfl⟩
        go_wp2_with fail
        go_ret
        exact ⟨by rw [hres.out]; rfl, by (repeat' (first | (with_reducible exact Below.refl _ _) | (with_reducible assumption) | (with_reducible refine below_drewN ?_ _) | (with_reducible refine Below.alloc ?_ ?_ _) | (with_reducible refine Below.drew ?_) | (with_reducible refine Below.setCell ?_ ?_ _) | go_size))⟩
      subst hx
      have hres := Lib.hid (show doubleT ⟨7, 0, 0, 18, l⟩ a 2 = aResult 18 a by unfold doubleT; simp [hb, hm])
      generalize aResult 18 a = R at *
      go_enter Tryd.func27, Tryd.ntmps27
      go_wp2_with fail
      refine (hB _).mono ?_; rintro r w2 ⟨rfl, rfl⟩
      go_wp2_with fail
      refine (hR.out _ (by (repeat' (first | (with_reducible exact Below.refl _ _) | (with_reducible assumption) | (with_reducible refine below_drewN ?_ _) | (with_reducible refine Below.alloc ?_ ?_ _) | (with_reducible refine Below.drew ?_) | (with_reducible refine Below.setCell ?_ ?_ _) | go_size)))).mono ?_; rintro r w2 ⟨rfl, rfl⟩
      go_wp2_with fail
      go_ret
      exact ⟨by rw [hres.out]; rfl, by (repeat' (first | (with_reducible exact Below.refl _ _) | (with_reducible assumption) | (with_reducible refine below_drewN ?_ _) | (with_reducible refine Below.alloc ?_ ?_ _) | (with_reducible refine Below.drew ?_) | (with_reducible refine Below.setCell ?_ ?_ _) | go_size))⟩
  by_cases hm19 : m = 19
  · subst hm19
    have hm : True := trivial
    by_cases h7 : op = 7
    case neg =>
      have e7 : (op != 7) = true := by simpa using h7
      have hres := Lib.hid (show doubleT ⟨op, t, n, 19, l⟩ a b = 0 by unfold doubleT; simp [h7])
      go_enter Tryd.func27, Tryd.ntmps27
      go_wp2_with fail
      go_ret
      exact ⟨by rw [hres.out]; rfl, by (repeat' (first | (with_reducible exact Below.refl _ _) | (with_reducible assumption) | (with_reducible refine below_drewN ?_ _) | (with_reducible refine Below.alloc ?_ ?_ _) | (with_reducible refine Below.drew ?_) | (with_reducible refine Below.setCell ?_ ?_ _) | go_size))⟩
    subst h7
    by_cases h3 : t = 0
    case neg =>
      have e3 : (t != 0) = true := by simpa using h3
      have hres := Lib.hid (show doubleT ⟨7, t, n, 19, l⟩ a b = 0 by unfold doubleT; simp [h3])
      go_enter Tryd.func27, Tryd.ntmps27
      go_wp2_with fail
      go_ret
      exact ⟨by rw [hres.out]; rfl, by (repeat' (first | (with_reducible exact Below.refl _ _) | (with_reducible assumption) | (with_reducible refine below_drewN ?_ _) | (with_reducible refine Below.alloc ?_ ?_ _) | (with_reducible refine Below.drew ?_) | (with_reducible refine Below.setCell ?_ ?_ _) | go_size))⟩
    subst h3
    by_cases h4 : n = 0
    case neg =>
      have e4 : (n != 0) = true := by simpa using h4
      have hres := Lib.hid (show doubleT ⟨7, 0, n, 19, l⟩ a b = 0 by unfold doubleT; simp [h4])
      go_enter Tryd.func27, Tryd.ntmps27
      go_wp2_with fail
      go_ret
      exact ⟨by rw [hres.out]; rfl, by (repeat' (first | (with_reducible exact Below.refl _ _) | (with_reducible assumption) | (with_reducible refine below_drewN ?_ _) | (with_reducible refine Below.alloc ?_ ?_ _) | (with_reducible refine Below.drew ?_) | (with_reducible refine Below.setCell ?_ ?_ _) | go_size))⟩
    subst h4
    cases hb : aBinary 19
    · rw [hb] at hB
      have hres := Lib.hid (show doubleT ⟨7, 0, 0, 19, l⟩ a b = 0 by unfold doubleT; simp [hb])
      go_enter Tryd.func27, Tryd.ntmps27
      go_wp2_with fail
      refine (hB _).mono ?_; rintro r w2 ⟨rfl, rfl⟩
      go_wp2_with fail
      go_ret
      exact ⟨by rw [hres.out]; rfl, by (repeat' (first | (with_reducible exact Below.refl _ _) | (with_reducible assumption) | (with_reducible refine below_drewN ?_ _) | (with_reducible refine Below.alloc ?_ ?_ _) | (with_reducible refine Below.drew ?_) | (with_reducible refine Below.setCell ?_ ?_ _) | go_size))⟩
    · rw [hb] at hB
      by_cases hx : b = 2
      case neg =>
        have ex : (b != 2) = true := by simpa using hx
        have hres := Lib.hid (show doubleT ⟨7, 0, 0, 19, l⟩ a b = 0 by unfold doubleT; simp [hb, hx, hm])
        go_enter Tryd.func27, Tryd.ntmps27
        go_wp2_with fail
        refine (hB _).mono ?_; rintro r w2 ⟨rfl, rfl⟩
        go_wp2_with fail
        go_ret
        exact ⟨by rw [hres.out]; rfl, by (repeat' (first | (with_reducible exact Below.refl _ _) | (with_reducible assumption) | (with_reducible refine below_drewN ?_ _) | (with_reducible refine Below.alloc ?_ ?_ _) | (with_reducible refine Below.drew ?_) | (with_reducible refine Below.setCell ?_ ?_ _) | go_size))⟩
      subst hx
      have hres := Lib.hid (show doubleT ⟨7, 0, 0, 19, l⟩ a 2 = aResult 19 a by unfold doubleT; simp [hb, hm])
      generalize aResult 19 a = R at *
      go_enter Tryd.func27, Tryd.ntmps27
      go_wp2_with fail
      refine (hB _).mono ?_; rintro r w2 ⟨rfl, rfl⟩
      go_wp2_with fail
      refine (hR.out _ (by (repeat' (first | (with_reducible exact Below.refl _ _) | (with_reducible assumption) | (with_reducible refine below_drewN ?_ _) | (with_reducible refine Below.alloc ?_ ?_ _) | (with_reducible refine Below.drew ?_) | (with_reducible refine Below.setCell ?_ ?_ _) | go_size)))).mono ?_; rintro r w2 ⟨rfl, rfl⟩
      go_wp2_with fail
      go_ret
      exact ⟨by rw [hres.out]; rfl, by (repeat' (first | (with_reducible exact Below.refl _ _) | (with_reducible assumption) | (with_reducible refine below_drewN ?_ _) | (with_reducible refine Below.alloc ?_ ?_ _) | (with_reducible refine Below.drew ?_) | (with_reducible refine Below.setCell ?_ ?_ _) | go_size))⟩
  have hm : ¬ (m = 18 ∨ m = 19) := by rintro (h | h); exact hm18 h; exact hm19 h
  have e18 : (m == 18) = false := by simpa using hm18
  have e19 : (m == 19) = false := by simpa using hm19
  clear hm18 hm19
  by_cases h7 : op = 7
  case neg =>
    have e7 : (op != 7) = true := by simpa using h7
    have hres := Lib.hid (show doubleT ⟨op, t, n, m, l⟩ a b = 0 by unfold doubleT; simp [h7])
    go_enter Tryd.func27, Tryd.ntmps27
    go_wp2_with fail
    go_ret
    exact ⟨by rw [hres.out]; rfl, by (repeat' (first | (with_reducible exact Below.refl _ _) | (with_reducible assumption) | (with_reducible refine below_drewN ?_ _) | (with_reducible refine Below.alloc ?_ ?_ _) | (with_reducible refine Below.drew ?_) | (with_reducible refine Below.setCell ?_ ?_ _) | go_size))⟩
  subst h7
  by_cases h3 : t = 0
  case neg =>
    have e3 : (t != 0) = true := by simpa using h3
    have hres := Lib.hid (show doubleT ⟨7, t, n, m, l⟩ a b = 0 by unfold doubleT; simp [h3])
    go_enter Tryd.func27, Tryd.ntmps27
    go_wp2_with fail
    go_ret
    exact ⟨by rw [hres.out]; rfl, by (repeat' (first | (with_reducible exact Below.refl _ _) | (with_reducible assumption) | (with_reducible refine below_drewN ?_ _) | (with_reducible refine Below.alloc ?_ ?_ _) | (with_reducible refine Below.drew ?_) | (with_reducible refine Below.setCell ?_ ?_ _) | go_size))⟩
  subst h3
  by_cases h4 : n = 0
  case neg =>
    have e4 : (n != 0) = true := by simpa using h4
    have hres := Lib.hid (show doubleT ⟨7, 0, n, m, l⟩ a b = 0 by unfold doubleT; simp [h4])
    go_enter Tryd.func27, Tryd.ntmps27
    go_wp2_with fail
    go_ret
    exact ⟨by rw [hres.out]; rfl, by (repeat' (first | (with_reducible exact Below.refl _ _) | (with_reducible assumption) | (with_reducible refine below_drewN ?_ _) | (with_reducible refine Below.alloc ?_ ?_ _) | (with_reducible refine Below.drew ?_) | (with_reducible refine Below.setCell ?_ ?_ _) | go_size))⟩
  subst h4
  cases hb : aBinary m
  · rw [hb] at hB
    have hres := Lib.hid (show doubleT ⟨7, 0, 0, m, l⟩ a b = 0 by unfold doubleT; simp [hb])
    go_enter Tryd.func27, Tryd.ntmps27
    go_wp2_with fail
    refine (hB _).mono ?_; rintro r w2 ⟨rfl, rfl⟩
    go_wp2_with fail
    go_ret
    exact ⟨by rw [hres.out]; rfl, by (repeat' (first | (with_reducible exact Below.refl _ _) | (with_reducible assumption) | (with_reducible refine below_drewN ?_ _) | (with_reducible refine Below.alloc ?_ ?_ _) | (with_reducible refine Below.drew ?_) | (with_reducible refine Below.setCell ?_ ?_ _) | go_size))⟩
  · rw [hb] at hB
    by_cases hx : b = a
    case neg =>
      have ex : (b != a) = true := by simpa using hx
      have hres := Lib.hid (show doubleT ⟨7, 0, 0, m, l⟩ a b = 0 by unfold doubleT; simp [hb, hx, hm])
      go_enter Tryd.func27, Tryd.ntmps27
      go_wp2_with fail
      refine (hB _).mono ?_; rintro r w2 ⟨rfl, rfl⟩
      go_wp2_with fail
      go_ret
      exact ⟨by rw [hres.out]; rfl, by (repeat' (first | (with_reducible exact Below.refl _ _) | (with_reducible assumption) | (with_reducible refine below_drewN ?_ _) | (with_reducible refine Below.alloc ?_ ?_ _) | (with_reducible refine Below.drew ?_) | (with_reducible refine Below.setCell ?_ ?_ _) | go_size))⟩
    subst hx
    have hres := Lib.hid (show doubleT ⟨7, 0, 0, m, l⟩ b b = aResult m b by unfold doubleT; simp [hb, hm])
    generalize aResult m b = R at *
    go_enter Tryd.func27, Tryd.ntmps27
    go_wp2_with fail
    refine (hB _).mono ?_; rintro r w2 ⟨rfl, rfl⟩
    go_wp2_with fail
    refine (hR.out _ (by (repeat' (first | (with_reducible exact Below.refl _ _) | (with_reducible assumption) | (with_reducible refine below_drewN ?_ _) | (with_reducible refine Below.alloc ?_ ?_ _) | (with_reducible refine Below.drew ?_) | (with_reducible refine Below.setCell ?_ ?_ _) | go_size)))).mono ?_; rintro r w2 ⟨rfl, rfl⟩
    go_wp2_with fail
    go_ret
    exact ⟨by rw [hres.out]; rfl, by (repeat' (first | (with_reducible exact Below.refl _ _) | (with_reducible assumption) | (with_reducible refine below_drewN ?_ _) | (with_reducible refine Below.alloc ?_ ?_ _) | (with_reducible refine Below.drew ?_) | (with_reducible refine Below.setCell ?_ ?_ _) | go_size))⟩
set_option maxHeartbeats 4000000 in
theorem expr_single (a b c d : Value) (s : Sc) (e : Ex) (v : Value) (t1 : Int) (w : World) (hs : ScAt w a b d s) (hv : ExV w v e) (hg : AGoes w) : Calls Tryd.prog 26 #[.agg #[a, b, c, d], v, .int .i64 t1] w fun r w' => r = .returned (.int .i64 (singleT s e t1)) ∧ Below w.heap.size w w' := by
  obtain ⟨op, t, n, m, l⟩ := e
  obtain ⟨sl, rfl, _, _⟩ := hv
  have HS := Lib.hid (fun W (h : Below w.heap.size w W) => hs.below h)
  have HG := Lib.hid (fun W (h : Below w.heap.size w W) => hg.below h)
  have hK := kind_Right t
  have hR := Lib.hid (fun W (h : Below w.heap.size w W) => alu_Result m t1 W (HG.out W h))
  obtain ⟨sa, ca, rfl⟩ := row_get hs.vs
  obtain ⟨sb, cb, rfl⟩ := row_get hs.bs
  obtain ⟨sd, cd, rfl⟩ := row_get hs.ss
  obtain ⟨NV, hNV⟩ : ∃ N, s.vars.length = N := ⟨_, rfl⟩
  obtain ⟨NB, hNB⟩ : ∃ N, s.blocks.length = N := ⟨_, rfl⟩
  obtain ⟨NS, hNS⟩ : ∃ N, s.slots.length = N := ⟨_, rfl⟩
  have HNV := Lib.hid hNV
  have HNB := Lib.hid hNB
  have HNS := Lib.hid hNS
  have hlv := hs.vs.len
  simp only at HS ⊢
  rw [hNV, hNB, hNS] at HS
  rw [hNV] at hlv ⊢
  rw [hNB, hNS]
  clear hs hg hNV hNB hNS
  have hI := expr_in n NV
  by_cases h8 : op = 8
  · subst h8
    by_cases hn : n = 0
    case neg =>
      have en : (n == 0) = false := by simpa using hn
      by_cases h0 : t = 0
      · subst h0
        have hres := Lib.hid (show singleT s ⟨8, 0, n, m, l⟩ t1 = 0 by unfold singleT; simp [hn])
        go_enter Tryd.func26, Tryd.ntmps26
        go_wp2_with fail
        go_ret
        exact ⟨by rw [hres.out]; rfl, by (repeat' (first | (with_reducible exact Below.refl _ _) | (with_reducible assumption) | (with_reducible refine below_drewN ?_ _) | (with_reducible refine Below.alloc ?_ ?_ _) | (with_reducible refine Below.drew ?_) | (with_reducible refine Below.setCell ?_ ?_ _) | go_size))⟩
      · have e0 : (t != 0) = true := by simpa using h0
        have hres := Lib.hid (show singleT s ⟨8, t, n, m, l⟩ t1 = 0 by unfold singleT; simp [h0, hn])
        go_enter Tryd.func26, Tryd.ntmps26
        go_wp2_with fail
        go_ret
        exact ⟨by rw [hres.out]; rfl, by (repeat' (first | (with_reducible exact Below.refl _ _) | (with_reducible assumption) | (with_reducible refine below_drewN ?_ _) | (with_reducible refine Below.alloc ?_ ?_ _) | (with_reducible refine Below.drew ?_) | (with_reducible refine Below.setCell ?_ ?_ _) | go_size))⟩
    subst hn
    by_cases hm : m = 0
    case neg =>
      have em : (m == 0) = false := by simpa using hm
      by_cases h0 : t = 0
      · subst h0
        have hres := Lib.hid (show singleT s ⟨8, 0, 0, m, l⟩ t1 = 0 by unfold singleT; simp [hm])
        go_enter Tryd.func26, Tryd.ntmps26
        go_wp2_with fail
        go_ret
        exact ⟨by rw [hres.out]; rfl, by (repeat' (first | (with_reducible exact Below.refl _ _) | (with_reducible assumption) | (with_reducible refine below_drewN ?_ _) | (with_reducible refine Below.alloc ?_ ?_ _) | (with_reducible refine Below.drew ?_) | (with_reducible refine Below.setCell ?_ ?_ _) | go_size))⟩
      · have e0 : (t != 0) = true := by simpa using h0
        have hres := Lib.hid (show singleT s ⟨8, t, 0, m, l⟩ t1 = 0 by unfold singleT; simp [h0, hm])
        go_enter Tryd.func26, Tryd.ntmps26
        go_wp2_with fail
        go_ret
        exact ⟨by rw [hres.out]; rfl, by (repeat' (first | (with_reducible exact Below.refl _ _) | (with_reducible assumption) | (with_reducible refine below_drewN ?_ _) | (with_reducible refine Below.alloc ?_ ?_ _) | (with_reducible refine Below.drew ?_) | (with_reducible refine Below.setCell ?_ ?_ _) | go_size))⟩
    subst hm
    cases hk : kRight t
    · rw [hk] at hK
      by_cases h0 : t = 0
      · subst h0
        have hres := Lib.hid (show singleT s ⟨8, 0, 0, 0, l⟩ t1 = 0 by unfold singleT; simp [hk])
        go_enter Tryd.func26, Tryd.ntmps26
        go_wp2_with fail
        refine (hK _).mono ?_; rintro r w2 ⟨rfl, rfl⟩
        go_wp2_with fail
        go_ret
        exact ⟨by rw [hres.out]; rfl, by (repeat' (first | (with_reducible exact Below.refl _ _) | (with_reducible assumption) | (with_reducible refine below_drewN ?_ _) | (with_reducible refine Below.alloc ?_ ?_ _) | (with_reducible refine Below.drew ?_) | (with_reducible refine Below.setCell ?_ ?_ _) | go_size))⟩
      · have e0 : (t != 0) = true := by simpa using h0
        have hres := Lib.hid (show singleT s ⟨8, t, 0, 0, l⟩ t1 = 0 by unfold singleT; simp [h0, hk])
        go_enter Tryd.func26, Tryd.ntmps26
        go_wp2_with fail
        refine (hK _).mono ?_; rintro r w2 ⟨rfl, rfl⟩
        go_wp2_with fail
        go_ret
        exact ⟨by rw [hres.out]; rfl, by (repeat' (first | (with_reducible exact Below.refl _ _) | (with_reducible assumption) | (with_reducible refine below_drewN ?_ _) | (with_reducible refine Below.alloc ?_ ?_ _) | (with_reducible refine Below.drew ?_) | (with_reducible refine Below.setCell ?_ ?_ _) | go_size))⟩
    · rw [hk] at hK
      have hres := Lib.hid (show singleT s ⟨8, t, 0, 0, l⟩ t1 = t by unfold singleT; simp [hk])
      go_enter Tryd.func26, Tryd.ntmps26
      go_wp2_with fail
      refine (hK _).mono ?_; rintro r w2 ⟨rfl, rfl⟩
      go_wp2_with fail
      go_ret
      exact ⟨by rw [hres.out]; rfl, by (repeat' (first | (with_reducible exact Below.refl _ _) | (with_reducible assumption) | (with_reducible refine below_drewN ?_ _) | (with_reducible refine Below.alloc ?_ ?_ _) | (with_reducible refine Below.drew ?_) | (with_reducible refine Below.setCell ?_ ?_ _) | go_size))⟩
  have e8 : (op == 8) = false := by simpa using h8
  by_cases h0 : t = 0
  case neg =>
    have e0 : (t != 0) = true := by simpa using h0
    have hres := Lib.hid (show singleT s ⟨op, t, n, m, l⟩ t1 = 0 by unfold singleT; simp [h8, h0])
    go_enter Tryd.func26, Tryd.ntmps26
    go_wp2_with fail
    go_ret
    exact ⟨by rw [hres.out]; rfl, by (repeat' (first | (with_reducible exact Below.refl _ _) | (with_reducible assumption) | (with_reducible refine below_drewN ?_ _) | (with_reducible refine Below.alloc ?_ ?_ _) | (with_reducible refine Below.drew ?_) | (with_reducible refine Below.setCell ?_ ?_ _) | go_size))⟩
  subst h0
  by_cases h4 : op = 4
  · subst h4
    by_cases hm : m = 0
    case neg =>
      have ehm : (m == 0) = false := by simpa using hm
      have hres := Lib.hid (show singleT s ⟨4, 0, n, m, l⟩ t1 = 0 by unfold singleT; simp [hm])
      go_enter Tryd.func26, Tryd.ntmps26
      go_wp2_with fail
      go_ret
      exact ⟨by rw [hres.out]; rfl, by (repeat' (first | (with_reducible exact Below.refl _ _) | (with_reducible assumption) | (with_reducible refine below_drewN ?_ _) | (with_reducible refine Below.alloc ?_ ?_ _) | (with_reducible refine Below.drew ?_) | (with_reducible refine Below.setCell ?_ ?_ _) | go_size))⟩
    subst hm
    by_cases hy : t1 = 2
    case neg =>
      have ehy : (t1 == 2) = false := by simpa using hy
      have hres := Lib.hid (show singleT s ⟨4, 0, n, 0, l⟩ t1 = 0 by unfold singleT; simp [hy])
      go_enter Tryd.func26, Tryd.ntmps26
      go_wp2_with fail
      go_ret
      exact ⟨by rw [hres.out]; rfl, by (repeat' (first | (with_reducible exact Below.refl _ _) | (with_reducible assumption) | (with_reducible refine below_drewN ?_ _) | (with_reducible refine Below.alloc ?_ ?_ _) | (with_reducible refine Below.drew ?_) | (with_reducible refine Below.setCell ?_ ?_ _) | go_size))⟩
    subst hy
    cases hin : inb n NV
    · rw [hin] at hI
      have hres := Lib.hid (show singleT s ⟨4, 0, n, 0, l⟩ 2 = 0 by unfold singleT; simp [HNV.out, hin])
      go_enter Tryd.func26, Tryd.ntmps26
      go_wp2_with fail
      refine (hI _).mono ?_; rintro r w2 ⟨rfl, rfl⟩
      go_wp2_with fail
      go_ret
      exact ⟨by rw [hres.out]; rfl, by (repeat' (first | (with_reducible exact Below.refl _ _) | (with_reducible assumption) | (with_reducible refine below_drewN ?_ _) | (with_reducible refine Below.alloc ?_ ?_ _) | (with_reducible refine Below.drew ?_) | (with_reducible refine Below.setCell ?_ ?_ _) | go_size))⟩
    rw [hin] at hI
    have HW := Lib.hid (show ∀ W, W = (w.alloc (.cells #[.slice sa NV ca, .slice sb NB cb, c, .slice sd NS cd] 37)).alloc (.cells #[.int .i64 4, .int .i64 0, .int .i64 n, .int .i64 0, sl] 30) → Below w.heap.size w W from by
      rintro W rfl
      exact by (repeat' (first | (with_reducible exact Below.refl _ _) | (with_reducible assumption) | (with_reducible refine below_drewN ?_ _) | (with_reducible refine Below.alloc ?_ ?_ _) | (with_reducible refine Below.drew ?_) | (with_reducible refine Below.setCell ?_ ?_ _) | go_size)))
    obtain ⟨k, rfl, hk⟩ := inb_yes hin
    have hbW := HW.out _ rfl
    obtain ⟨x, hx⟩ := get_some (L := s.vars) (n := k) (by rw [HNV.out]; exact hk)
    obtain ⟨b, off, rfl, hbw, hc⟩ := var_at (HS.out w (Below.refl _ _)).vs (k := k) (by rw [HNV.out]; exact hk)
    obtain ⟨d0, d1, d2, d3, d4, _⟩ := hc k x hx
    have d0 := (hbW.cell (p := ⟨b, off + k * 5, none⟩) hbw).trans d0
    have d1 := (hbW.cell (p := ⟨b, off + k * 5 + 1, none⟩) hbw).trans d1
    have d2 := (hbW.cell (p := ⟨b, off + k * 5 + 2, none⟩) hbw).trans d2
    have d3 := (hbW.cell (p := ⟨b, off + k * 5 + 3, none⟩) hbw).trans d3
    have d4 := (hbW.cell (p := ⟨b, off + k * 5 + 4, none⟩) hbw).trans d4
    have hxv : s.v (k : Int) = x := by unfold Sc.v; simp [List.getD, hx]
    have qk : (k : Int) < (NV : Int) := by omega
    have hcap := cap_row (HS.out w (Below.refl _ _)).vs hk
    have hK := kind_Right x.t
    have HX := Lib.hid (show singleT s ⟨4, 0, (k : Int), 0, l⟩ 2 = if 2 ≤ x.n then keepR x.t else 0 by unfold singleT; simp [HNV.out, hin, hxv])
    clear hin hc hx hxv hk hbW
    generalize x.n = xn at *
    generalize x.t = xt at *
    generalize x.area = xa at *
    generalize x.init = xi at *
    generalize x.name = xm at *
    by_cases h2 : 2 ≤ xn
    · have e2 : (2 ≤ xn) = True := eq_true h2
      have e2' : (xn < 2) = False := eq_false (by omega)
      cases hkr : kRight xt
      · rw [hkr] at hK
        have hres := Lib.hid (show singleT s ⟨4, 0, (k : Int), 0, l⟩ 2 = 0 by rw [HX.out]; simp [h2, keepR, hkr])
        clear hkr h2
        go_enter Tryd.func26, Tryd.ntmps26
        go_wp2_with fail
        refine (hI _).mono ?_; rintro r w2 ⟨rfl, rfl⟩
        go_wp2_with fail
        refine (hK _).mono ?_; rintro r w2 ⟨rfl, rfl⟩
        go_wp2_with fail
        go_ret
        exact ⟨by rw [hres.out]; rfl, by (repeat' (first | (with_reducible exact Below.refl _ _) | (with_reducible assumption) | (with_reducible refine below_drewN ?_ _) | (with_reducible refine Below.alloc ?_ ?_ _) | (with_reducible refine Below.drew ?_) | (with_reducible refine Below.setCell ?_ ?_ _) | go_size))⟩
      · rw [hkr] at hK
        have hres := Lib.hid (show singleT s ⟨4, 0, (k : Int), 0, l⟩ 2 = xt by rw [HX.out]; simp [h2, keepR, hkr])
        clear hkr h2
        go_enter Tryd.func26, Tryd.ntmps26
        go_wp2_with fail
        refine (hI _).mono ?_; rintro r w2 ⟨rfl, rfl⟩
        go_wp2_with fail
        refine (hK _).mono ?_; rintro r w2 ⟨rfl, rfl⟩
        go_wp2_with fail
        go_ret
        exact ⟨by rw [hres.out]; rfl, by (repeat' (first | (with_reducible exact Below.refl _ _) | (with_reducible assumption) | (with_reducible refine below_drewN ?_ _) | (with_reducible refine Below.alloc ?_ ?_ _) | (with_reducible refine Below.drew ?_) | (with_reducible refine Below.setCell ?_ ?_ _) | go_size))⟩
    · have e2 : (2 ≤ xn) = False := eq_false h2
      have e2' : (xn < 2) = True := eq_true (by omega)
      have hres := Lib.hid (show singleT s ⟨4, 0, (k : Int), 0, l⟩ 2 = 0 by rw [HX.out]; simp [h2])
      clear h2
      go_enter Tryd.func26, Tryd.ntmps26
      go_wp2_with fail
      refine (hI _).mono ?_; rintro r w2 ⟨rfl, rfl⟩
      go_wp2_with fail
      go_ret
      exact ⟨by rw [hres.out]; rfl, by (repeat' (first | (with_reducible exact Below.refl _ _) | (with_reducible assumption) | (with_reducible refine below_drewN ?_ _) | (with_reducible refine Below.alloc ?_ ?_ _) | (with_reducible refine Below.drew ?_) | (with_reducible refine Below.setCell ?_ ?_ _) | go_size))⟩
  have e4 : (op == 4) = false := by simpa using h4
  by_cases h6 : op = 6
  case neg =>
    have eh6 : (op == 6) = false := by simpa using h6
    have hres := Lib.hid (show singleT s ⟨op, 0, n, m, l⟩ t1 = 0 by unfold singleT; simp [h8, h4, h6])
    go_enter Tryd.func26, Tryd.ntmps26
    go_wp2_with fail
    go_ret
    exact ⟨by rw [hres.out]; rfl, by (repeat' (first | (with_reducible exact Below.refl _ _) | (with_reducible assumption) | (with_reducible refine below_drewN ?_ _) | (with_reducible refine Below.alloc ?_ ?_ _) | (with_reducible refine Below.drew ?_) | (with_reducible refine Below.setCell ?_ ?_ _) | go_size))⟩
  subst h6
  by_cases hn : n = 0
  case neg =>
    have ehn : (n == 0) = false := by simpa using hn
    have hres := Lib.hid (show singleT s ⟨6, 0, n, m, l⟩ t1 = 0 by unfold singleT; simp [hn])
    go_enter Tryd.func26, Tryd.ntmps26
    go_wp2_with fail
    go_ret
    exact ⟨by rw [hres.out]; rfl, by (repeat' (first | (with_reducible exact Below.refl _ _) | (with_reducible assumption) | (with_reducible refine below_drewN ?_ _) | (with_reducible refine Below.alloc ?_ ?_ _) | (with_reducible refine Below.drew ?_) | (with_reducible refine Below.setCell ?_ ?_ _) | go_size))⟩
  subst hn
  by_cases hm13 : m = 13
  · subst hm13
    generalize hRR : aResult 13 t1 = R at *
    have hres := Lib.hid (show singleT s ⟨6, 0, 0, 13, l⟩ t1 = R by unfold singleT; simp [hRR])
    go_enter Tryd.func26, Tryd.ntmps26
    go_wp2_with fail
    refine (hR.out _ (by (repeat' (first | (with_reducible exact Below.refl _ _) | (with_reducible assumption) | (with_reducible refine below_drewN ?_ _) | (with_reducible refine Below.alloc ?_ ?_ _) | (with_reducible refine Below.drew ?_) | (with_reducible refine Below.setCell ?_ ?_ _) | go_size)))).mono ?_; rintro r w2 ⟨rfl, rfl⟩
    go_wp2_with fail
    go_ret
    exact ⟨by rw [hres.out]; rfl, by (repeat' (first | (with_reducible exact Below.refl _ _) | (with_reducible assumption) | (with_reducible refine below_drewN ?_ _) | (with_reducible refine Below.alloc ?_ ?_ _) | (with_reducible refine Below.drew ?_) | (with_reducible refine Below.setCell ?_ ?_ _) | go_size))⟩
  have em13 : (m == 13) = false := by simpa using hm13
  by_cases hm17 : m = 17
  · subst hm17
    generalize hRR : aResult 17 t1 = R at *
    have hres := Lib.hid (show singleT s ⟨6, 0, 0, 17, l⟩ t1 = R by unfold singleT; simp [hRR])
    go_enter Tryd.func26, Tryd.ntmps26
    go_wp2_with fail
    refine (hR.out _ (by (repeat' (first | (with_reducible exact Below.refl _ _) | (with_reducible assumption) | (with_reducible refine below_drewN ?_ _) | (with_reducible refine Below.alloc ?_ ?_ _) | (with_reducible refine Below.drew ?_) | (with_reducible refine Below.setCell ?_ ?_ _) | go_size)))).mono ?_; rintro r w2 ⟨rfl, rfl⟩
    go_wp2_with fail
    go_ret
    exact ⟨by rw [hres.out]; rfl, by (repeat' (first | (with_reducible exact Below.refl _ _) | (with_reducible assumption) | (with_reducible refine below_drewN ?_ _) | (with_reducible refine Below.alloc ?_ ?_ _) | (with_reducible refine Below.drew ?_) | (with_reducible refine Below.setCell ?_ ?_ _) | go_size))⟩
  have em17 : (m == 17) = false := by simpa using hm17
  have hres := Lib.hid (show singleT s ⟨6, 0, 0, m, l⟩ t1 = 0 by unfold singleT; simp [hm13, hm17])
  go_enter Tryd.func26, Tryd.ntmps26
  go_wp2_with fail
  go_ret
  exact ⟨by rw [hres.out]; rfl, by (repeat' (first | (with_reducible exact Below.refl _ _) | (with_reducible assumption) | (with_reducible refine below_drewN ?_ _) | (with_reducible refine Below.alloc ?_ ?_ _) | (with_reducible refine Below.drew ?_) | (with_reducible refine Below.setCell ?_ ?_ _) | go_size))⟩
end Go.Proofs.YtpecpeedefeokaaDoor
