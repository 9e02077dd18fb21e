/- Layer 15: whether two units are the same: both sides. -/
import Derived.Test.YtpeogdbfhfkngaaDoorUnFit
import Derived.Test.YtpeogdbfhfkngaaDoorInts
namespace Go.Proofs.YtpeogdbfhfkngaaDoor
open Go.RowKit
set_option linter.unusedSimpArgs false
set_option linter.unusedVariables false
def sameU (x y : Un) : Bool := decide (x.name = y.name ∧ x.result = y.result ∧ x.params = y.params ∧ x.locals = y.locals ∧ x.code = y.code)
theorem sameU_self (x : Un) : sameU x x = true := decide_eq_true ⟨rfl, rfl, rfl, rfl, rfl⟩
theorem sameU_is {x y : Un} (h : sameU x y = true) : x = y := by
  obtain ⟨h1, h2, h3, h4, h5⟩ := of_decide_eq_true h
  cases x; cases y
  simp only at h1 h2 h3 h4 h5
  subst h1 h2 h3 h4 h5
  rfl
theorem name_eq {a b : List UInt8} (h : a = b) : ((⟨a.toArray⟩ : ByteArray).toList == (⟨b.toArray⟩ : ByteArray).toList) = true := by subst h; exact beq_self_eq_true _
theorem name_ne {a b : List UInt8} (h : ¬ a = b) : ((⟨a.toArray⟩ : ByteArray).toList == (⟨b.toArray⟩ : ByteArray).toList) = false := by
  simp [ByteArray.toList_eq, h]
set_option maxHeartbeats 2000000 in
theorem unit_sameI (v u : Value) (L M : List Int) (w : World) (hv : RowR 1 intR w v L) (hu : RowR 1 intR w u M) :
    Calls Tryd.prog 28 #[v, u] w fun e w' => e = .returned (.bool (decide (L = M))) ∧ ∃ m, w' = w.drewN m := by
  have hL := hv.len
  obtain ⟨sa, ca, rfl⟩ := row_get hv
  obtain ⟨sb, cb, rfl⟩ := row_get hu
  by_cases hlen : L.length = M.length
  · have hb : (((L.length : Nat) : Int) != ((M.length : Nat) : Int)) = false := by rw [hlen]; simp
    have HY := Lib.hid (fun h : L = M => (decide_eq_true h : decide (L = M) = true))
    have HN := Lib.hid (fun h : ¬ L = M => (decide_eq_false h : decide (L = M) = false))
    obtain ⟨N, hN⟩ : ∃ N, L.length = N := ⟨_, rfl⟩
    have hM : M.length = N := hlen.symm.trans hN
    rw [hN] at hv hL
    rw [hM] at hu
    rw [hN, hM] at hb
    rw [hN, hM]
    clear hlen
    go_enter Tryd.func28, Tryd.ntmps28
    go_wp2_with fail
    go_loopw [14] (fun j wr => ∃ k m : Nat, k ≤ N ∧ j = .int .i64 k ∧ Hid (L.take k = M.take k) ∧ wr = w.drewN m) (fun j _ => N - (intOf j).toNat)
    case atStart => exact ⟨0, 0, by omega, rfl, Lib.hid (by simp), rfl⟩
    case round =>
      obtain ⟨k, m, hk, rfl, heq, rfl⟩ := hrel
      by_cases hlt : k < N
      · obtain ⟨b, off, rfl, hbw, hc⟩ := ints_at hv (k := k) (by omega)
        obtain ⟨b2, off2, rfl, hbw2, hd⟩ := ints_at hu (k := k) (by omega)
        obtain ⟨x, hx⟩ : ∃ x, L[k]? = some x := ⟨L[k]'(by omega), by simp [hN, hlt]⟩
        obtain ⟨y, hy⟩ : ∃ y, M[k]? = some y := ⟨M[k]'(by omega), by simp [hlt, hM]⟩
        obtain ⟨c0, _⟩ := hc k x hx
        obtain ⟨d0, _⟩ := hd k y hy
        clear hc hd
        by_cases hxy : x = y
        · have hs := Lib.hid (show L.take (k + 1) = M.take (k + 1) by rw [take_snoc hx, take_snoc hy, heq.out, hxy])
          have hq : (x != y) = false := by simp [hxy]
          clear hxy hx hy heq
          go_wp2_with fail
          go_roundw
          case rel => exact ⟨k + 1, _, by omega, by simp, hs, rfl⟩
          case measure => first | (simp [intOf]; done) | (simp [intOf]; omega)
        · have hs := Lib.hid (HN.out (fun h => hxy (by rw [h, hy] at hx; exact (Option.some.inj hx).symm)))
          have hq : (x != y) = true := by simpa using hxy
          clear hxy hx hy heq
          go_wp2_with fail
          go_ret
          exact ⟨by rw [hs.out]; rfl, _, rfl⟩
      · obtain rfl : k = N := by omega
        have hs := Lib.hid (HY.out (by have := heq.out; rw [List.take_of_length_le (by omega), List.take_of_length_le (by omega)] at this; exact this))
        clear heq
        go_wp2_with fail
        go_ret
        exact ⟨by rw [hs.out]; rfl, _, rfl⟩
  · have hb : (((L.length : Nat) : Int) != ((M.length : Nat) : Int)) = true := by simp; omega
    have hs := Lib.hid (show decide (L = M) = false from decide_eq_false (fun h => hlen (by rw [h])))
    clear hlen
    go_enter Tryd.func28, Tryd.ntmps28
    go_wp2_with fail
    go_ret
    exact ⟨by rw [hs.out]; rfl, 0, rfl⟩
set_option maxHeartbeats 2000000 in
theorem unit_sameR (v u : Value) (L M : List Ins) (w : World) (hv : RowR 3 insR w v L) (hu : RowR 3 insR w u M) (hL : L.length ≤ 1000000000) :
    Calls Tryd.prog 29 #[v, u] w fun e w' => e = .returned (.bool (decide (L = M))) ∧ Below w.heap.size w w' := by
  obtain ⟨sa, ca, rfl⟩ := ins_get hv
  obtain ⟨sb, cb, rfl⟩ := ins_get hu
  have hneq := neq_instr
  by_cases hlen : L.length = M.length
  · have hb : (((L.length : Nat) : Int) != ((M.length : Nat) : Int)) = false := by rw [hlen]; simp
    have HY := Lib.hid (fun h : L = M => (decide_eq_true h : decide (L = M) = true))
    have HN := Lib.hid (fun h : ¬ L = M => (decide_eq_false h : decide (L = M) = false))
    obtain ⟨N, hN⟩ : ∃ N, L.length = N := ⟨_, rfl⟩
    have hM : M.length = N := hlen.symm.trans hN
    rw [hN] at hv hL
    rw [hM] at hu
    rw [hN, hM] at hb
    rw [hN, hM]
    clear hlen
    go_enter Tryd.func29, Tryd.ntmps29
    go_wp2_with fail
    go_loopw [14] (fun j wr => ∃ k : Nat, k ≤ N ∧ j = .int .i64 k ∧ Hid (L.take k = M.take k) ∧ Below w.heap.size w wr) (fun j _ => N - (intOf j).toNat)
    case atStart => exact ⟨0, by omega, rfl, Lib.hid (by simp), Below.refl _ _⟩
    case round =>
      obtain ⟨k, hk, rfl, heq, hB⟩ := hrel
      have hz := hB.size
      by_cases hlt : k < N
      · obtain ⟨b, off, rfl, hbw, hc⟩ := ins_at hv (k := k) (by omega)
        obtain ⟨b2, off2, rfl, hbw2, hd⟩ := ins_at hu (k := k) (by omega)
        obtain ⟨x, hx⟩ : ∃ x, L[k]? = some x := ⟨L[k]'(by omega), by simp [hN, hlt]⟩
        obtain ⟨y, hy⟩ : ∃ y, M[k]? = some y := ⟨M[k]'(by omega), by simp [hlt, hM]⟩
        obtain ⟨c0, c1, c2, _⟩ := hc k x hx
        obtain ⟨d0, d1, d2, _⟩ := hd k y hy
        have c0 := (hB.cell (p := ⟨b, off + k * 3, none⟩) hbw).trans c0
        have c1 := (hB.cell (p := ⟨b, off + k * 3 + 1, none⟩) hbw).trans c1
        have c2 := (hB.cell (p := ⟨b, off + k * 3 + 2, none⟩) hbw).trans c2
        obtain ⟨W1, hW1⟩ : ∃ W1, W1 = wr.alloc (.cells #[.int .i64 x.1, .int .i64 x.2.1, .int .i64 x.2.2] 40) := ⟨_, rfl⟩
        have hB1 : Below w.heap.size w W1 := by rw [hW1]; exact hB.alloc hz _
        have D := Lib.hid (show W1.cell? ⟨b2, off2 + k * 3, none⟩ = _ ∧ W1.cell? ⟨b2, off2 + k * 3 + 1, none⟩ = _ ∧ W1.cell? ⟨b2, off2 + k * 3 + 2, none⟩ = _ from ⟨(hB1.cell (p := ⟨b2, off2 + k * 3, none⟩) hbw2).trans d0, (hB1.cell (p := ⟨b2, off2 + k * 3 + 1, none⟩) hbw2).trans d1, (hB1.cell (p := ⟨b2, off2 + k * 3 + 2, none⟩) hbw2).trans d2⟩)
        have E := Lib.hid (show W1.cell? ⟨wr.heap.size, 0, none⟩ = some (.int .i64 x.1) ∧ W1.cell? ⟨wr.heap.size, 1, none⟩ = some (.int .i64 x.2.1) ∧ W1.cell? ⟨wr.heap.size, 2, none⟩ = some (.int .i64 x.2.2) by rw [hW1]; exact ⟨cell_new wr _ _ _ 0 rfl, cell_new wr _ _ _ 1 rfl, cell_new wr _ _ _ 2 rfl⟩)
        have hix := ins_eq (x := x) (y := y)
        have HW1 := Lib.hid hW1
        clear hc hd d0 d1 d2 hW1
        by_cases hxy : x = y
        · have hq := decide_eq_true hxy
          have hs := Lib.hid (show L.take (k + 1) = M.take (k + 1) by rw [take_snoc hx, take_snoc hy, heq.out, hxy])
          rw [hq] at hix
          clear hxy hx hy hq heq
          go_wp2_with fail
          rw [← HW1.out]
          obtain ⟨d0, d1, d2⟩ := D.out
          obtain ⟨m0, m1, m2⟩ := E.out
          clear c0 c1 c2
          go_quiet (fail)
          go_wp2_with fail
          go_roundw
          case rel => exact ⟨k + 1, by omega, by simp, hs, below_drewN hB1 _⟩
          case measure => first | (simp [intOf]; done) | (simp [intOf]; omega)
        · have hq := decide_eq_false hxy
          have hs := Lib.hid (HN.out (fun h => hxy (by rw [h, hy] at hx; exact (Option.some.inj hx).symm)))
          rw [hq] at hix
          clear hxy hx hy hq heq
          go_wp2_with fail
          rw [← HW1.out]
          obtain ⟨d0, d1, d2⟩ := D.out
          obtain ⟨m0, m1, m2⟩ := E.out
          clear c0 c1 c2
          go_quiet (fail)
          go_wp2_with fail
          go_ret
          exact ⟨by rw [hs.out]; rfl, below_drewN hB1 _⟩
      · obtain rfl : k = N := by omega
        have hs := Lib.hid (HY.out (by have := heq.out; rw [List.take_of_length_le (by omega), List.take_of_length_le (by omega)] at this; exact this))
        clear heq
        go_wp2_with fail
        go_ret
        exact ⟨by rw [hs.out]; rfl, hB⟩
  · have hb : (((L.length : Nat) : Int) != ((M.length : Nat) : Int)) = true := by simp; omega
    have hs := Lib.hid (show decide (L = M) = false from decide_eq_false (fun h => hlen (by rw [h])))
    clear hlen
    go_enter Tryd.func29, Tryd.ntmps29
    go_wp2_with fail
    go_ret
    exact ⟨by rw [hs.out]; rfl, Below.refl _ _⟩
set_option maxHeartbeats 4000000 in
theorem unit_Same (a b c a2 b2 c2 : Value) (x y : Un) (w : World) (h : UnAt w a b c x) (g : UnAt w a2 b2 c2 y) (hl : x.code.length ≤ 1000000000) :
    Calls Tryd.prog 14 #[.agg #[.string ⟨x.name.toArray⟩, a, .int .i64 x.result, b, c], .agg #[.string ⟨y.name.toArray⟩, a2, .int .i64 y.result, b2, c2]] w fun e w' => e = .returned (.bool (sameU x y)) ∧ Below w.heap.size w w' := by
  have H1 := Lib.hid (fun W (hb : Below w.heap.size w W) => (unit_sameI a a2 x.params y.params W (h.ps.below intR_stable hb) (g.ps.below intR_stable hb)).mono (fun _ _ q => And.intro q.1 (below_drew_of q.2)))
  have H2 := Lib.hid (fun W (hb : Below w.heap.size w W) => (unit_sameI b b2 x.locals y.locals W (h.ls.below intR_stable hb) (g.ls.below intR_stable hb)).mono (fun _ _ q => And.intro q.1 (below_drew_of q.2)))
  have H3 := Lib.hid (fun W (hb : Below w.heap.size w W) => (unit_sameR c c2 x.code y.code W (h.cs.below insR_stable hb) (g.cs.below insR_stable hb) hl).mono (fun _ _ q => q))
  have HD := Lib.hid (show sameU x y = decide (x.name = y.name ∧ x.result = y.result ∧ x.params = y.params ∧ x.locals = y.locals ∧ x.code = y.code) from rfl)
  clear hl h g
  obtain ⟨W0, hW0⟩ : ∃ W0, W0 = (w.alloc (.cells #[.string ⟨x.name.toArray⟩, a, .int .i64 x.result, b, c] 25)).alloc (.cells #[.string ⟨y.name.toArray⟩, a2, .int .i64 y.result, b2, c2] 25) := ⟨_, rfl⟩
  obtain ⟨k1, k2, k3, k4⟩ := boxed2 w [.string ⟨x.name.toArray⟩, a, .int .i64 x.result, b, c] [.string ⟨y.name.toArray⟩, a2, .int .i64 y.result, b2, c2] 25 25 (W' := W0) (by rw [hW0]; exact Below.refl _ _)
  have z1 : w.heap.size < W0.heap.size := by omega
  have HW0 := Lib.hid hW0
  have K1 := Lib.hid k1
  have K2 := Lib.hid k2
  clear k1 k2 hW0
  by_cases hn : x.name = y.name
  case neg =>
    have hq := name_ne hn
    have hs := Lib.hid (HD.out.trans (decide_eq_false (fun q => hn q.1)))
    generalize (⟨x.name.toArray⟩ : ByteArray) = nm at *
    generalize (⟨y.name.toArray⟩ : ByteArray) = nm2 at *
    clear hn
    go_enter Tryd.func14, Tryd.ntmps14
    go_wp2_with fail
    go_ret
    exact ⟨by rw [hs.out]; rfl, by rw [← HW0.out]; exact k4⟩
  have hq := name_eq hn
  have HN := Lib.hid hn
  clear hn
  generalize (⟨x.name.toArray⟩ : ByteArray) = nm at *
  generalize (⟨y.name.toArray⟩ : ByteArray) = nm2 at *
  by_cases hr : x.result = y.result
  case neg =>
    have hq2 : (x.result == y.result) = false := by simpa using hr
    have hs := Lib.hid (HD.out.trans (decide_eq_false (fun q => hr q.2.1)))
    clear hr
    go_enter Tryd.func14, Tryd.ntmps14
    go_wp2_with fail
    go_ret
    exact ⟨by rw [hs.out]; rfl, by rw [← HW0.out]; exact k4⟩
  have hq2 : (x.result == y.result) = true := by simpa using hr
  have HR := Lib.hid hr
  clear hr
  by_cases hp : x.params = y.params
  case neg =>
    rw [decide_eq_false hp] at H1
    have hs := Lib.hid (HD.out.trans (decide_eq_false (fun q => hp q.2.2.1)))
    clear hp
    go_enter Tryd.func14, Tryd.ntmps14
    go_wp2_with fail
    refine (H1.out _ (by rw [← HW0.out]; exact k4)).mono ?_; rintro e w1 ⟨rfl, hb1⟩
    rw [← HW0.out] at hb1
    have hB1 := k4.trans (hb1.mono k4.size)
    go_wp2_with fail
    go_ret
    exact ⟨by rw [hs.out]; rfl, hB1⟩
  rw [decide_eq_true hp] at H1
  have HP := Lib.hid hp
  clear hp
  by_cases hl : x.locals = y.locals
  case neg =>
    rw [decide_eq_false hl] at H2
    have hs := Lib.hid (HD.out.trans (decide_eq_false (fun q => hl q.2.2.2.1)))
    clear hl
    go_enter Tryd.func14, Tryd.ntmps14
    go_wp2_with fail
    refine (H1.out _ (by rw [← HW0.out]; exact k4)).mono ?_; rintro e w1 ⟨rfl, hb1⟩
    rw [← HW0.out] at hb1
    have hB1 := k4.trans (hb1.mono k4.size)
    have e3 := (K1.out.keep z1 hb1) 3 _ rfl
    have f3 := (K2.out.keep k3 hb1) 3 _ rfl
    go_wp2_with fail
    refine (H2.out _ hB1).mono ?_; rintro e w2 ⟨rfl, hb2⟩
    have hB2 := hB1.trans (hb2.mono hB1.size)
    go_wp2_with fail
    go_ret
    exact ⟨by rw [hs.out]; rfl, hB2⟩
  rw [decide_eq_true hl] at H2
  have hs := Lib.hid (show sameU x y = decide (x.code = y.code) by
    rw [HD.out]
    by_cases hc : x.code = y.code
    · rw [decide_eq_true hc, decide_eq_true ⟨HN.out, HR.out, HP.out, hl, hc⟩]
    · rw [decide_eq_false hc, decide_eq_false (fun q => hc q.2.2.2.2)])
  clear hl
  generalize decide (x.code = y.code) = last at *
  go_enter Tryd.func14, Tryd.ntmps14
  go_wp2_with fail
  refine (H1.out _ (by rw [← HW0.out]; exact k4)).mono ?_; rintro e w1 ⟨rfl, hb1⟩
  rw [← HW0.out] at hb1
  have hB1 := k4.trans (hb1.mono k4.size)
  have e3 := (K1.out.keep z1 hb1) 3 _ rfl
  have f3 := (K2.out.keep k3 hb1) 3 _ rfl
  go_wp2_with fail
  refine (H2.out _ hB1).mono ?_; rintro e w2 ⟨rfl, hb2⟩
  have hB2 := hB1.trans (hb2.mono hB1.size)
  have hb2 := hb1.trans (hb2.mono hb1.size)
  clear e3 f3
  have e4 := (K1.out.keep z1 hb2) 4 _ rfl
  have f4 := (K2.out.keep k3 hb2) 4 _ rfl
  go_wp2_with fail
  refine (H3.out _ hB2).mono ?_; rintro e w3 ⟨rfl, hb3⟩
  have hB3 := hB2.trans (hb3.mono hB2.size)
  go_wp2_with fail
  go_ret
  exact ⟨by rw [hs.out]; rfl, hB3⟩
set_option maxHeartbeats 4000000 in
theorem ref15_Same (a b c a2 b2 c2 : Value) (x y : Un) (w : World) (h : UnAt w a b c x) (g : UnAt w a2 b2 c2 y) (hl : x.code.length ≤ 1000000000) :
    Calls Tryd.prog 15 #[.agg #[.string ⟨x.name.toArray⟩, a, .int .i64 x.result, b, c], .agg #[.string ⟨y.name.toArray⟩, a2, .int .i64 y.result, b2, c2]] w fun e w' => e = .returned (.bool (sameU x y)) ∧ Below w.heap.size w w' := by
  have H1 := Lib.hid (fun W (hb : Below w.heap.size w W) => (ref15_Ints a a2 x.params y.params W (h.ps.below intR_stable hb) (g.ps.below intR_stable hb)).mono (fun _ _ q => And.intro q.1 (below_drew_of q.2)))
  have H2 := Lib.hid (fun W (hb : Below w.heap.size w W) => (ref15_Ints b b2 x.locals y.locals W (h.ls.below intR_stable hb) (g.ls.below intR_stable hb)).mono (fun _ _ q => And.intro q.1 (below_drew_of q.2)))
  have H3 := Lib.hid (fun W (hb : Below w.heap.size w W) => (ref13_Same c c2 x.code y.code W (h.cs.below insR_stable hb) (g.cs.below insR_stable hb) hl).mono (fun _ _ q => And.intro q.1 (below_drew_of q.2)))
  have HD := Lib.hid (show sameU x y = decide (x.name = y.name ∧ x.result = y.result ∧ x.params = y.params ∧ x.locals = y.locals ∧ x.code = y.code) from rfl)
  clear hl h g
  obtain ⟨W0, hW0⟩ : ∃ W0, W0 = (w.alloc (.cells #[.string ⟨x.name.toArray⟩, a, .int .i64 x.result, b, c] 25)).alloc (.cells #[.string ⟨y.name.toArray⟩, a2, .int .i64 y.result, b2, c2] 25) := ⟨_, rfl⟩
  obtain ⟨k1, k2, k3, k4⟩ := boxed2 w [.string ⟨x.name.toArray⟩, a, .int .i64 x.result, b, c] [.string ⟨y.name.toArray⟩, a2, .int .i64 y.result, b2, c2] 25 25 (W' := W0) (by rw [hW0]; exact Below.refl _ _)
  have z1 : w.heap.size < W0.heap.size := by omega
  have HW0 := Lib.hid hW0
  have K1 := Lib.hid k1
  have K2 := Lib.hid k2
  clear k1 k2 hW0
  by_cases hn : x.name = y.name
  case neg =>
    have hq := name_ne hn
    have hs := Lib.hid (HD.out.trans (decide_eq_false (fun q => hn q.1)))
    generalize (⟨x.name.toArray⟩ : ByteArray) = nm at *
    generalize (⟨y.name.toArray⟩ : ByteArray) = nm2 at *
    clear hn
    go_enter Tryd.func15, Tryd.ntmps15
    go_wp2_with fail
    go_ret
    exact ⟨by rw [hs.out]; rfl, by rw [← HW0.out]; exact k4⟩
  have hq := name_eq hn
  have HN := Lib.hid hn
  clear hn
  generalize (⟨x.name.toArray⟩ : ByteArray) = nm at *
  generalize (⟨y.name.toArray⟩ : ByteArray) = nm2 at *
  by_cases hr : x.result = y.result
  case neg =>
    have hq2 : (x.result == y.result) = false := by simpa using hr
    have hs := Lib.hid (HD.out.trans (decide_eq_false (fun q => hr q.2.1)))
    clear hr
    go_enter Tryd.func15, Tryd.ntmps15
    go_wp2_with fail
    go_ret
    exact ⟨by rw [hs.out]; rfl, by rw [← HW0.out]; exact k4⟩
  have hq2 : (x.result == y.result) = true := by simpa using hr
  have HR := Lib.hid hr
  clear hr
  by_cases hp : x.params = y.params
  case neg =>
    rw [decide_eq_false hp] at H1
    have hs := Lib.hid (HD.out.trans (decide_eq_false (fun q => hp q.2.2.1)))
    clear hp
    go_enter Tryd.func15, Tryd.ntmps15
    go_wp2_with fail
    refine (H1.out _ (by rw [← HW0.out]; exact k4)).mono ?_; rintro e w1 ⟨rfl, hb1⟩
    rw [← HW0.out] at hb1
    have hB1 := k4.trans (hb1.mono k4.size)
    go_wp2_with fail
    go_ret
    exact ⟨by rw [hs.out]; rfl, hB1⟩
  rw [decide_eq_true hp] at H1
  have HP := Lib.hid hp
  clear hp
  by_cases hl : x.locals = y.locals
  case neg =>
    rw [decide_eq_false hl] at H2
    have hs := Lib.hid (HD.out.trans (decide_eq_false (fun q => hl q.2.2.2.1)))
    clear hl
    go_enter Tryd.func15, Tryd.ntmps15
    go_wp2_with fail
    refine (H1.out _ (by rw [← HW0.out]; exact k4)).mono ?_; rintro e w1 ⟨rfl, hb1⟩
    rw [← HW0.out] at hb1
    have hB1 := k4.trans (hb1.mono k4.size)
    have e3 := (K1.out.keep z1 hb1) 3 _ rfl
    have f3 := (K2.out.keep k3 hb1) 3 _ rfl
    go_wp2_with fail
    refine (H2.out _ hB1).mono ?_; rintro e w2 ⟨rfl, hb2⟩
    have hB2 := hB1.trans (hb2.mono hB1.size)
    go_wp2_with fail
    go_ret
    exact ⟨by rw [hs.out]; rfl, hB2⟩
  rw [decide_eq_true hl] at H2
  have hs := Lib.hid (show sameU x y = decide (x.code = y.code) by
    rw [HD.out]
    by_cases hc : x.code = y.code
    · rw [decide_eq_true hc, decide_eq_true ⟨HN.out, HR.out, HP.out, hl, hc⟩]
    · rw [decide_eq_false hc, decide_eq_false (fun q => hc q.2.2.2.2)])
  clear hl
  generalize decide (x.code = y.code) = last at *
  go_enter Tryd.func15, Tryd.ntmps15
  go_wp2_with fail
  refine (H1.out _ (by rw [← HW0.out]; exact k4)).mono ?_; rintro e w1 ⟨rfl, hb1⟩
  rw [← HW0.out] at hb1
  have hB1 := k4.trans (hb1.mono k4.size)
  have e3 := (K1.out.keep z1 hb1) 3 _ rfl
  have f3 := (K2.out.keep k3 hb1) 3 _ rfl
  go_wp2_with fail
  refine (H2.out _ hB1).mono ?_; rintro e w2 ⟨rfl, hb2⟩
  have hB2 := hB1.trans (hb2.mono hB1.size)
  have hb2 := hb1.trans (hb2.mono hb1.size)
  clear e3 f3
  have e4 := (K1.out.keep z1 hb2) 4 _ rfl
  have f4 := (K2.out.keep k3 hb2) 4 _ rfl
  go_wp2_with fail
  refine (H3.out _ hB2).mono ?_; rintro e w3 ⟨rfl, hb3⟩
  have hB3 := hB2.trans (hb3.mono hB2.size)
  go_wp2_with fail
  go_ret
  exact ⟨by rw [hs.out]; rfl, hB3⟩
end Go.Proofs.YtpeogdbfhfkngaaDoor
