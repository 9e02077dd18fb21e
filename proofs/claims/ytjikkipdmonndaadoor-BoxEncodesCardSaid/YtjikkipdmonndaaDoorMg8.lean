/- Merged texts: UnSame, Sames, ObjN, SameProg, BoxAwake, LawBoxEn, LaidFlat, LawThirteenFacts, RepOpen, OpenUnit, OpenPr. -/
import Derived.Test.YtjikkipdmonndaaDoorMg1
import Derived.Test.YtjikkipdmonndaaDoorMg7
import Derived.Test.YtjikkipdmonndaaDoorMg0
import Derived.LoopTactic
import Derived.OwnWalk
import Derived.Deep.QuietTactic
import Derived.BigQuiet
import Derived.WalkSmall
import Derived.IntWalk
import Derived.Deep.RegionHeld3
import Derived.Deep.Cut
import Derived.Deep.CutRange
import Derived.RegionTactic
import Derived.Test.YtjikkipdmonndaaDoorMg6
import Derived.Test.YtjikkipdmonndaaDoorMg5
import Derived.Test.YtjikkipdmonndaaDoorLaid
import Derived.Test.YtjikkipdmonndaaDoorBase
import Derived.Deep.Slices
import Derived.ChangeSame
/- Layer 15: whether two units are the same: both sides. -/
namespace Go.Proofs.YtjikkipdmonndaaDoor
open Go.RowKit
set_option linter.unusedSimpArgs false
set_option linter.unusedVariables false
def sameU (x y : Un) : Bool := decide (x.name = y.name ∧ x.result = y.result ∧ x.params = y.params ∧ x.locals = y.locals ∧ x.code = y.code)
theorem sameU_self (x : Un) : sameU x x = true := decide_eq_true ⟨rfl, rfl, rfl, rfl, rfl⟩
theorem sameU_is {x y : Un} (h : sameU x y = true) : x = y := by
  obtain ⟨h1, h2, h3, h4, h5⟩ := of_decide_eq_true h
  cases x; cases y
  simp only at h1 h2 h3 h4 h5
  subst h1 h2 h3 h4 h5
  rfl
theorem name_eq {a b : List UInt8} (h : a = b) : ((⟨a.toArray⟩ : ByteArray).toList == (⟨b.toArray⟩ : ByteArray).toList) = true := by subst h; exact beq_self_eq_true _
theorem name_ne {a b : List UInt8} (h : ¬ a = b) : ((⟨a.toArray⟩ : ByteArray).toList == (⟨b.toArray⟩ : ByteArray).toList) = false := by
  simp [ByteArray.toList_eq, h]
set_option maxHeartbeats 2000000 in
theorem unit_sameI (v u : Value) (L M : List Int) (w : World) (hv : RowR 1 intR w v L) (hu : RowR 1 intR w u M) :
    Calls Tryd.prog 64 #[v, u] w fun e w' => e = .returned (.bool (decide (L = M))) ∧ ∃ m, w' = w.drewN m := by
  have hL := hv.len
  obtain ⟨sa, ca, rfl⟩ := row_get hv
  obtain ⟨sb, cb, rfl⟩ := row_get hu
  by_cases hlen : L.length = M.length
  · have hb : (((L.length : Nat) : Int) != ((M.length : Nat) : Int)) = false := by rw [hlen]; simp
    have HY := Lib.hid (fun h : L = M => (decide_eq_true h : decide (L = M) = true))
    have HN := Lib.hid (fun h : ¬ L = M => (decide_eq_false h : decide (L = M) = false))
    obtain ⟨N, hN⟩ : ∃ N, L.length = N := ⟨_, rfl⟩
    have hM : M.length = N := hlen.symm.trans hN
    rw [hN] at hv hL
    rw [hM] at hu
    rw [hN, hM] at hb
    rw [hN, hM]
    clear hlen
    go_enter Tryd.func64, Tryd.ntmps64
    go_wp2_with fail
    go_loopw [14] (fun j wr => ∃ k m : Nat, k ≤ N ∧ j = .int .i64 k ∧ Hid (L.take k = M.take k) ∧ wr = w.drewN m) (fun j _ => N - (intOf j).toNat)
    case atStart => exact ⟨0, 0, by omega, rfl, Lib.hid (by simp), rfl⟩
    case round =>
      obtain ⟨k, m, hk, rfl, heq, rfl⟩ := hrel
      by_cases hlt : k < N
      · obtain ⟨b, off, rfl, hbw, hc⟩ := ints_at hv (k := k) (by omega)
        obtain ⟨b2, off2, rfl, hbw2, hd⟩ := ints_at hu (k := k) (by omega)
        obtain ⟨x, hx⟩ : ∃ x, L[k]? = some x := ⟨L[k]'(by omega), by simp [hN, hlt]⟩
        obtain ⟨y, hy⟩ : ∃ y, M[k]? = some y := ⟨M[k]'(by omega), by simp [hlt, hM]⟩
        obtain ⟨c0, _⟩ := hc k x hx
        obtain ⟨d0, _⟩ := hd k y hy
        clear hc hd
        by_cases hxy : x = y
        · have hs := Lib.hid (show L.take (k + 1) = M.take (k + 1) by rw [take_snoc hx, take_snoc hy, heq.out, hxy])
          have hq : (x != y) = false := by simp [hxy]
          clear hxy hx hy heq
          go_wp2_with fail
          go_roundw
          case rel => exact ⟨k + 1, _, by omega, by simp, hs, rfl⟩
          case measure => first | (simp [intOf]; done) | (simp [intOf]; omega)
        · have hs := Lib.hid (HN.out (fun h => hxy (by rw [h, hy] at hx; exact (Option.some.inj hx).symm)))
          have hq : (x != y) = true := by simpa using hxy
          clear hxy hx hy heq
          go_wp2_with fail
          go_ret
          exact ⟨by rw [hs.out]; rfl, _, rfl⟩
      · obtain rfl : k = N := by omega
        have hs := Lib.hid (HY.out (by have := heq.out; rw [List.take_of_length_le (by omega), List.take_of_length_le (by omega)] at this; exact this))
        clear heq
        go_wp2_with fail
        go_ret
        exact ⟨by rw [hs.out]; rfl, _, rfl⟩
  · have hb : (((L.length : Nat) : Int) != ((M.length : Nat) : Int)) = true := by simp; omega
    have hs := Lib.hid (show decide (L = M) = false from decide_eq_false (fun h => hlen (by rw [h])))
    clear hlen
    go_enter Tryd.func64, Tryd.ntmps64
    go_wp2_with fail
    go_ret
    exact ⟨by rw [hs.out]; rfl, 0, rfl⟩
set_option maxHeartbeats 2000000 in
theorem unit_sameR (v u : Value) (L M : List Ins) (w : World) (hv : RowR 3 insR w v L) (hu : RowR 3 insR w u M) (hL : L.length ≤ 1000000000) :
    Calls Tryd.prog 65 #[v, u] w fun e w' => e = .returned (.bool (decide (L = M))) ∧ Below w.heap.size w w' := by
  obtain ⟨sa, ca, rfl⟩ := ins_get hv
  obtain ⟨sb, cb, rfl⟩ := ins_get hu
  have hneq := neq_instr
  by_cases hlen : L.length = M.length
  · have hb : (((L.length : Nat) : Int) != ((M.length : Nat) : Int)) = false := by rw [hlen]; simp
    have HY := Lib.hid (fun h : L = M => (decide_eq_true h : decide (L = M) = true))
    have HN := Lib.hid (fun h : ¬ L = M => (decide_eq_false h : decide (L = M) = false))
    obtain ⟨N, hN⟩ : ∃ N, L.length = N := ⟨_, rfl⟩
    have hM : M.length = N := hlen.symm.trans hN
    rw [hN] at hv hL
    rw [hM] at hu
    rw [hN, hM] at hb
    rw [hN, hM]
    clear hlen
    go_enter Tryd.func65, Tryd.ntmps65
    go_wp2_with fail
    go_loopw [14] (fun j wr => ∃ k : Nat, k ≤ N ∧ j = .int .i64 k ∧ Hid (L.take k = M.take k) ∧ Below w.heap.size w wr) (fun j _ => N - (intOf j).toNat)
    case atStart => exact ⟨0, by omega, rfl, Lib.hid (by simp), Below.refl _ _⟩
    case round =>
      obtain ⟨k, hk, rfl, heq, hB⟩ := hrel
      have hz := hB.size
      by_cases hlt : k < N
      · obtain ⟨b, off, rfl, hbw, hc⟩ := ins_at hv (k := k) (by omega)
        obtain ⟨b2, off2, rfl, hbw2, hd⟩ := ins_at hu (k := k) (by omega)
        obtain ⟨x, hx⟩ : ∃ x, L[k]? = some x := ⟨L[k]'(by omega), by simp [hN, hlt]⟩
        obtain ⟨y, hy⟩ : ∃ y, M[k]? = some y := ⟨M[k]'(by omega), by simp [hlt, hM]⟩
        obtain ⟨c0, c1, c2, _⟩ := hc k x hx
        obtain ⟨d0, d1, d2, _⟩ := hd k y hy
        have c0 := (hB.cell (p := ⟨b, off + k * 3, none⟩) hbw).trans c0
        have c1 := (hB.cell (p := ⟨b, off + k * 3 + 1, none⟩) hbw).trans c1
        have c2 := (hB.cell (p := ⟨b, off + k * 3 + 2, none⟩) hbw).trans c2
        obtain ⟨W1, hW1⟩ : ∃ W1, W1 = wr.alloc (.cells #[.int .i64 x.1, .int .i64 x.2.1, .int .i64 x.2.2] 92) := ⟨_, rfl⟩
        have hB1 : Below w.heap.size w W1 := by rw [hW1]; exact hB.alloc hz _
        have D := Lib.hid (show W1.cell? ⟨b2, off2 + k * 3, none⟩ = _ ∧ W1.cell? ⟨b2, off2 + k * 3 + 1, none⟩ = _ ∧ W1.cell? ⟨b2, off2 + k * 3 + 2, none⟩ = _ from ⟨(hB1.cell (p := ⟨b2, off2 + k * 3, none⟩) hbw2).trans d0, (hB1.cell (p := ⟨b2, off2 + k * 3 + 1, none⟩) hbw2).trans d1, (hB1.cell (p := ⟨b2, off2 + k * 3 + 2, none⟩) hbw2).trans d2⟩)
        have E := Lib.hid (show W1.cell? ⟨wr.heap.size, 0, none⟩ = some (.int .i64 x.1) ∧ W1.cell? ⟨wr.heap.size, 1, none⟩ = some (.int .i64 x.2.1) ∧ W1.cell? ⟨wr.heap.size, 2, none⟩ = some (.int .i64 x.2.2) by rw [hW1]; exact ⟨cell_new wr _ _ _ 0 rfl, cell_new wr _ _ _ 1 rfl, cell_new wr _ _ _ 2 rfl⟩)
        have hix := ins_eq (x := x) (y := y)
        have HW1 := Lib.hid hW1
        clear hc hd d0 d1 d2 hW1
        by_cases hxy : x = y
        · have hq := decide_eq_true hxy
          have hs := Lib.hid (show L.take (k + 1) = M.take (k + 1) by rw [take_snoc hx, take_snoc hy, heq.out, hxy])
          rw [hq] at hix
          clear hxy hx hy hq heq
          go_wp2_with fail
          rw [← HW1.out]
          obtain ⟨d0, d1, d2⟩ := D.out
          obtain ⟨m0, m1, m2⟩ := E.out
          clear c0 c1 c2
          go_quiet (fail)
          go_wp2_with fail
          go_roundw
          case rel => exact ⟨k + 1, by omega, by simp, hs, below_drewN hB1 _⟩
          case measure => first | (simp [intOf]; done) | (simp [intOf]; omega)
        · have hq := decide_eq_false hxy
          have hs := Lib.hid (HN.out (fun h => hxy (by rw [h, hy] at hx; exact (Option.some.inj hx).symm)))
          rw [hq] at hix
          clear hxy hx hy hq heq
          go_wp2_with fail
          rw [← HW1.out]
          obtain ⟨d0, d1, d2⟩ := D.out
          obtain ⟨m0, m1, m2⟩ := E.out
          clear c0 c1 c2
          go_quiet (fail)
          go_wp2_with fail
          go_ret
          exact ⟨by rw [hs.out]; rfl, below_drewN hB1 _⟩
      · obtain rfl : k = N := by omega
        have hs := Lib.hid (HY.out (by have := heq.out; rw [List.take_of_length_le (by omega), List.take_of_length_le (by omega)] at this; exact this))
        clear heq
        go_wp2_with fail
        go_ret
        exact ⟨by rw [hs.out]; rfl, hB⟩
  · have hb : (((L.length : Nat) : Int) != ((M.length : Nat) : Int)) = true := by simp; omega
    have hs := Lib.hid (show decide (L = M) = false from decide_eq_false (fun h => hlen (by rw [h])))
    clear hlen
    go_enter Tryd.func65, Tryd.ntmps65
    go_wp2_with fail
    go_ret
    exact ⟨by rw [hs.out]; rfl, Below.refl _ _⟩
set_option maxHeartbeats 4000000 in
theorem unit_Same (a b c a2 b2 c2 : Value) (x y : Un) (w : World) (h : UnAt w a b c x) (g : UnAt w a2 b2 c2 y) (hl : x.code.length ≤ 1000000000) :
    Calls Tryd.prog 35 #[.agg #[.string ⟨x.name.toArray⟩, a, .int .i64 x.result, b, c], .agg #[.string ⟨y.name.toArray⟩, a2, .int .i64 y.result, b2, c2]] w fun e w' => e = .returned (.bool (sameU x y)) ∧ Below w.heap.size w w' := by
  have H1 := Lib.hid (fun W (hb : Below w.heap.size w W) => (unit_sameI a a2 x.params y.params W (h.ps.below intR_stable hb) (g.ps.below intR_stable hb)).mono (fun _ _ q => And.intro q.1 (below_drew_of q.2)))
  have H2 := Lib.hid (fun W (hb : Below w.heap.size w W) => (unit_sameI b b2 x.locals y.locals W (h.ls.below intR_stable hb) (g.ls.below intR_stable hb)).mono (fun _ _ q => And.intro q.1 (below_drew_of q.2)))
  have H3 := Lib.hid (fun W (hb : Below w.heap.size w W) => (unit_sameR c c2 x.code y.code W (h.cs.below insR_stable hb) (g.cs.below insR_stable hb) hl).mono (fun _ _ q => q))
  have HD := Lib.hid (show sameU x y = decide (x.name = y.name ∧ x.result = y.result ∧ x.params = y.params ∧ x.locals = y.locals ∧ x.code = y.code) from rfl)
  clear hl h g
  obtain ⟨W0, hW0⟩ : ∃ W0, W0 = (w.alloc (.cells #[.string ⟨x.name.toArray⟩, a, .int .i64 x.result, b, c] 48)).alloc (.cells #[.string ⟨y.name.toArray⟩, a2, .int .i64 y.result, b2, c2] 48) := ⟨_, rfl⟩
  obtain ⟨k1, k2, k3, k4⟩ := boxed2 w [.string ⟨x.name.toArray⟩, a, .int .i64 x.result, b, c] [.string ⟨y.name.toArray⟩, a2, .int .i64 y.result, b2, c2] 48 48 (W' := W0) (by rw [hW0]; exact Below.refl _ _)
  have z1 : w.heap.size < W0.heap.size := by omega
  have HW0 := Lib.hid hW0
  have K1 := Lib.hid k1
  have K2 := Lib.hid k2
  clear k1 k2 hW0
  by_cases hn : x.name = y.name
  case neg =>
    have hq := name_ne hn
    have hs := Lib.hid (HD.out.trans (decide_eq_false (fun q => hn q.1)))
    generalize (⟨x.name.toArray⟩ : ByteArray) = nm at *
    generalize (⟨y.name.toArray⟩ : ByteArray) = nm2 at *
    clear hn
    go_enter Tryd.func35, Tryd.ntmps35
    go_wp2_with fail
    go_ret
    exact ⟨by rw [hs.out]; rfl, by rw [← HW0.out]; exact k4⟩
  have hq := name_eq hn
  have HN := Lib.hid hn
  clear hn
  generalize (⟨x.name.toArray⟩ : ByteArray) = nm at *
  generalize (⟨y.name.toArray⟩ : ByteArray) = nm2 at *
  by_cases hr : x.result = y.result
  case neg =>
    have hq2 : (x.result == y.result) = false := by simpa using hr
    have hs := Lib.hid (HD.out.trans (decide_eq_false (fun q => hr q.2.1)))
    clear hr
    go_enter Tryd.func35, Tryd.ntmps35
    go_wp2_with fail
    go_ret
    exact ⟨by rw [hs.out]; rfl, by rw [← HW0.out]; exact k4⟩
  have hq2 : (x.result == y.result) = true := by simpa using hr
  have HR := Lib.hid hr
  clear hr
  by_cases hp : x.params = y.params
  case neg =>
    rw [decide_eq_false hp] at H1
    have hs := Lib.hid (HD.out.trans (decide_eq_false (fun q => hp q.2.2.1)))
    clear hp
    go_enter Tryd.func35, Tryd.ntmps35
    go_wp2_with fail
    refine (H1.out _ (by rw [← HW0.out]; exact k4)).mono ?_; rintro e w1 ⟨rfl, hb1⟩
    rw [← HW0.out] at hb1
    have hB1 := k4.trans (hb1.mono k4.size)
    go_wp2_with fail
    go_ret
    exact ⟨by rw [hs.out]; rfl, hB1⟩
  rw [decide_eq_true hp] at H1
  have HP := Lib.hid hp
  clear hp
  by_cases hl : x.locals = y.locals
  case neg =>
    rw [decide_eq_false hl] at H2
    have hs := Lib.hid (HD.out.trans (decide_eq_false (fun q => hl q.2.2.2.1)))
    clear hl
    go_enter Tryd.func35, Tryd.ntmps35
    go_wp2_with fail
    refine (H1.out _ (by rw [← HW0.out]; exact k4)).mono ?_; rintro e w1 ⟨rfl, hb1⟩
    rw [← HW0.out] at hb1
    have hB1 := k4.trans (hb1.mono k4.size)
    have e3 := (K1.out.keep z1 hb1) 3 _ rfl
    have f3 := (K2.out.keep k3 hb1) 3 _ rfl
    go_wp2_with fail
    refine (H2.out _ hB1).mono ?_; rintro e w2 ⟨rfl, hb2⟩
    have hB2 := hB1.trans (hb2.mono hB1.size)
    go_wp2_with fail
    go_ret
    exact ⟨by rw [hs.out]; rfl, hB2⟩
  rw [decide_eq_true hl] at H2
  have hs := Lib.hid (show sameU x y = decide (x.code = y.code) by
    rw [HD.out]
    by_cases hc : x.code = y.code
    · rw [decide_eq_true hc, decide_eq_true ⟨HN.out, HR.out, HP.out, hl, hc⟩]
    · rw [decide_eq_false hc, decide_eq_false (fun q => hc q.2.2.2.2)])
  clear hl
  generalize decide (x.code = y.code) = last at *
  go_enter Tryd.func35, Tryd.ntmps35
  go_wp2_with fail
  refine (H1.out _ (by rw [← HW0.out]; exact k4)).mono ?_; rintro e w1 ⟨rfl, hb1⟩
  rw [← HW0.out] at hb1
  have hB1 := k4.trans (hb1.mono k4.size)
  have e3 := (K1.out.keep z1 hb1) 3 _ rfl
  have f3 := (K2.out.keep k3 hb1) 3 _ rfl
  go_wp2_with fail
  refine (H2.out _ hB1).mono ?_; rintro e w2 ⟨rfl, hb2⟩
  have hB2 := hB1.trans (hb2.mono hB1.size)
  have hb2 := hb1.trans (hb2.mono hb1.size)
  clear e3 f3
  have e4 := (K1.out.keep z1 hb2) 4 _ rfl
  have f4 := (K2.out.keep k3 hb2) 4 _ rfl
  go_wp2_with fail
  refine (H3.out _ hB2).mono ?_; rintro e w3 ⟨rfl, hb3⟩
  have hB3 := hB2.trans (hb3.mono hB2.size)
  go_wp2_with fail
  go_ret
  exact ⟨by rw [hs.out]; rfl, hB3⟩
set_option maxHeartbeats 4000000 in
theorem ref15_Same (a b c a2 b2 c2 : Value) (x y : Un) (w : World) (h : UnAt w a b c x) (g : UnAt w a2 b2 c2 y) (hl : x.code.length ≤ 1000000000) :
    Calls Tryd.prog 39 #[.agg #[.string ⟨x.name.toArray⟩, a, .int .i64 x.result, b, c], .agg #[.string ⟨y.name.toArray⟩, a2, .int .i64 y.result, b2, c2]] w fun e w' => e = .returned (.bool (sameU x y)) ∧ Below w.heap.size w w' := by
  have H1 := Lib.hid (fun W (hb : Below w.heap.size w W) => (ref15_Ints a a2 x.params y.params W (h.ps.below intR_stable hb) (g.ps.below intR_stable hb)).mono (fun _ _ q => And.intro q.1 (below_drew_of q.2)))
  have H2 := Lib.hid (fun W (hb : Below w.heap.size w W) => (ref15_Ints b b2 x.locals y.locals W (h.ls.below intR_stable hb) (g.ls.below intR_stable hb)).mono (fun _ _ q => And.intro q.1 (below_drew_of q.2)))
  have H3 := Lib.hid (fun W (hb : Below w.heap.size w W) => (ref13_Same c c2 x.code y.code W (h.cs.below insR_stable hb) (g.cs.below insR_stable hb) hl).mono (fun _ _ q => And.intro q.1 (below_drew_of q.2)))
  have HD := Lib.hid (show sameU x y = decide (x.name = y.name ∧ x.result = y.result ∧ x.params = y.params ∧ x.locals = y.locals ∧ x.code = y.code) from rfl)
  clear hl h g
  obtain ⟨W0, hW0⟩ : ∃ W0, W0 = (w.alloc (.cells #[.string ⟨x.name.toArray⟩, a, .int .i64 x.result, b, c] 48)).alloc (.cells #[.string ⟨y.name.toArray⟩, a2, .int .i64 y.result, b2, c2] 48) := ⟨_, rfl⟩
  obtain ⟨k1, k2, k3, k4⟩ := boxed2 w [.string ⟨x.name.toArray⟩, a, .int .i64 x.result, b, c] [.string ⟨y.name.toArray⟩, a2, .int .i64 y.result, b2, c2] 48 48 (W' := W0) (by rw [hW0]; exact Below.refl _ _)
  have z1 : w.heap.size < W0.heap.size := by omega
  have HW0 := Lib.hid hW0
  have K1 := Lib.hid k1
  have K2 := Lib.hid k2
  clear k1 k2 hW0
  by_cases hn : x.name = y.name
  case neg =>
    have hq := name_ne hn
    have hs := Lib.hid (HD.out.trans (decide_eq_false (fun q => hn q.1)))
    generalize (⟨x.name.toArray⟩ : ByteArray) = nm at *
    generalize (⟨y.name.toArray⟩ : ByteArray) = nm2 at *
    clear hn
    go_enter Tryd.func39, Tryd.ntmps39
    go_wp2_with fail
    go_ret
    exact ⟨by rw [hs.out]; rfl, by rw [← HW0.out]; exact k4⟩
  have hq := name_eq hn
  have HN := Lib.hid hn
  clear hn
  generalize (⟨x.name.toArray⟩ : ByteArray) = nm at *
  generalize (⟨y.name.toArray⟩ : ByteArray) = nm2 at *
  by_cases hr : x.result = y.result
  case neg =>
    have hq2 : (x.result == y.result) = false := by simpa using hr
    have hs := Lib.hid (HD.out.trans (decide_eq_false (fun q => hr q.2.1)))
    clear hr
    go_enter Tryd.func39, Tryd.ntmps39
    go_wp2_with fail
    go_ret
    exact ⟨by rw [hs.out]; rfl, by rw [← HW0.out]; exact k4⟩
  have hq2 : (x.result == y.result) = true := by simpa using hr
  have HR := Lib.hid hr
  clear hr
  by_cases hp : x.params = y.params
  case neg =>
    rw [decide_eq_false hp] at H1
    have hs := Lib.hid (HD.out.trans (decide_eq_false (fun q => hp q.2.2.1)))
    clear hp
    go_enter Tryd.func39, Tryd.ntmps39
    go_wp2_with fail
    refine (H1.out _ (by rw [← HW0.out]; exact k4)).mono ?_; rintro e w1 ⟨rfl, hb1⟩
    rw [← HW0.out] at hb1
    have hB1 := k4.trans (hb1.mono k4.size)
    go_wp2_with fail
    go_ret
    exact ⟨by rw [hs.out]; rfl, hB1⟩
  rw [decide_eq_true hp] at H1
  have HP := Lib.hid hp
  clear hp
  by_cases hl : x.locals = y.locals
  case neg =>
    rw [decide_eq_false hl] at H2
    have hs := Lib.hid (HD.out.trans (decide_eq_false (fun q => hl q.2.2.2.1)))
    clear hl
    go_enter Tryd.func39, Tryd.ntmps39
    go_wp2_with fail
    refine (H1.out _ (by rw [← HW0.out]; exact k4)).mono ?_; rintro e w1 ⟨rfl, hb1⟩
    rw [← HW0.out] at hb1
    have hB1 := k4.trans (hb1.mono k4.size)
    have e3 := (K1.out.keep z1 hb1) 3 _ rfl
    have f3 := (K2.out.keep k3 hb1) 3 _ rfl
    go_wp2_with fail
    refine (H2.out _ hB1).mono ?_; rintro e w2 ⟨rfl, hb2⟩
    have hB2 := hB1.trans (hb2.mono hB1.size)
    go_wp2_with fail
    go_ret
    exact ⟨by rw [hs.out]; rfl, hB2⟩
  rw [decide_eq_true hl] at H2
  have hs := Lib.hid (show sameU x y = decide (x.code = y.code) by
    rw [HD.out]
    by_cases hc : x.code = y.code
    · rw [decide_eq_true hc, decide_eq_true ⟨HN.out, HR.out, HP.out, hl, hc⟩]
    · rw [decide_eq_false hc, decide_eq_false (fun q => hc q.2.2.2.2)])
  clear hl
  generalize decide (x.code = y.code) = last at *
  go_enter Tryd.func39, Tryd.ntmps39
  go_wp2_with fail
  refine (H1.out _ (by rw [← HW0.out]; exact k4)).mono ?_; rintro e w1 ⟨rfl, hb1⟩
  rw [← HW0.out] at hb1
  have hB1 := k4.trans (hb1.mono k4.size)
  have e3 := (K1.out.keep z1 hb1) 3 _ rfl
  have f3 := (K2.out.keep k3 hb1) 3 _ rfl
  go_wp2_with fail
  refine (H2.out _ hB1).mono ?_; rintro e w2 ⟨rfl, hb2⟩
  have hB2 := hB1.trans (hb2.mono hB1.size)
  have hb2 := hb1.trans (hb2.mono hb1.size)
  clear e3 f3
  have e4 := (K1.out.keep z1 hb2) 4 _ rfl
  have f4 := (K2.out.keep k3 hb2) 4 _ rfl
  go_wp2_with fail
  refine (H3.out _ hB2).mono ?_; rintro e w3 ⟨rfl, hb3⟩
  have hB3 := hB2.trans (hb3.mono hB2.size)
  go_wp2_with fail
  go_ret
  exact ⟨by rw [hs.out]; rfl, hB3⟩
end Go.Proofs.YtjikkipdmonndaaDoor

/- Layers 14, 16: whether two rows are the same, element by element. -/
namespace Go.Proofs.YtjikkipdmonndaaDoor
open Go.RowKit
set_option linter.unusedSimpArgs false
set_option linter.unusedVariables false
def allEq {α : Type} (f : α → α → Bool) (A B : List α) : Bool := decide (A.length = B.length) && (A.zip B).all fun p => f p.1 p.2
theorem allEq_len {α : Type} {f : α → α → Bool} {A B : List α} (h : ¬ A.length = B.length) : allEq f A B = false := by unfold allEq; rw [decide_eq_false h]; rfl
theorem zip_at {α : Type} {A B : List α} {k : Nat} {x y : α} (hx : A[k]? = some x) (hy : B[k]? = some y) : (A.zip B)[k]? = some (x, y) := by
  rw [List.getElem?_zip_eq_some]; exact ⟨hx, hy⟩
theorem allEq_no {α : Type} {f : α → α → Bool} {A B : List α} {k : Nat} {x y : α} (hx : A[k]? = some x) (hy : B[k]? = some y) (h : f x y = false) : allEq f A B = false := by
  unfold allEq
  rw [show ((A.zip B).all fun p => f p.1 p.2) = false from List.all_eq_false.2 ⟨(x, y), List.mem_of_getElem? (zip_at hx hy), by simp [h]⟩]
  simp
theorem allEq_yes {α : Type} {f : α → α → Bool} {A B : List α} {N : Nat} (hA : A.length = N) (hB : B.length = N) (h : ((A.zip B).take N).all (fun p => f p.1 p.2) = true) : allEq f A B = true := by
  unfold allEq
  rw [List.take_of_length_le (by simp [hA, hB])] at h
  rw [h, decide_eq_true (hA.trans hB.symm)]
  rfl
theorem allEq_self {α : Type} {f : α → α → Bool} (hf : ∀ x, f x x = true) : ∀ A : List α, allEq f A A = true := by
  intro A
  refine allEq_yes rfl rfl ?_
  rw [List.all_eq_true]
  intro p hp
  have h1 := List.mem_of_mem_take hp
  obtain ⟨i, hi, he⟩ := List.getElem_of_mem h1
  rw [List.getElem_zip] at he
  rw [← he]
  exact hf _
theorem names_ne {a b : List UInt8} (h : ¬ a = b) : (((⟨a.toArray⟩ : ByteArray).toList == (⟨b.toArray⟩ : ByteArray).toList) = false) ∧ ((a == b) = false) ∧ ((a = b) = False) ∧ (((⟨a.toArray⟩ : ByteArray) = ⟨b.toArray⟩) = False) := by
  have h2 : ¬ (⟨a.toArray⟩ : ByteArray) = ⟨b.toArray⟩ := fun e => h (by injection e with e; simpa using e)
  exact ⟨name_ne h, by simpa using h, eq_false h, eq_false h2⟩
theorem names_eq {a b : List UInt8} (h : a = b) : (((⟨a.toArray⟩ : ByteArray).toList == (⟨b.toArray⟩ : ByteArray).toList) = true) ∧ ((a == b) = true) ∧ ((a = b) = True) ∧ (((⟨a.toArray⟩ : ByteArray) = ⟨b.toArray⟩) = True) := by
  subst h
  exact ⟨name_eq rfl, by simp, eq_true rfl, eq_true rfl⟩
def eqC (x y : Int × Int) : Bool := decide (x.1 = y.1 ∧ x.2 = y.2)
def eqV (x y : Vr) : Bool := decide (x.name = y.name ∧ x.t = y.t ∧ x.n = y.n ∧ x.area = y.area ∧ x.init = y.init)
def eqB (x y : Bk) : Bool := decide (x.name = y.name ∧ x.kind = y.kind)
set_option maxRecDepth 100000 in
set_option maxHeartbeats 4000000 in
theorem ref14_ConstsEq (v u : Value) (A B : List (Int × Int)) (w : World) (hv : RowR 2 constR w v A) (hu : RowR 2 constR w u B) :
    Calls Tryd.prog 36 #[v, u] w fun e w' => e = .returned (.bool (allEq eqC A B)) ∧ ∃ m, w' = w.drewN m := by
  have hvl := hv.len
  obtain ⟨sa, ca, rfl⟩ := row_get hv
  obtain ⟨sb, cb, rfl⟩ := row_get hu
  by_cases hlen : A.length = B.length
  · have hb : (((A.length : Nat) : Int) != ((B.length : Nat) : Int)) = false := by rw [hlen]; simp
    obtain ⟨N, hN⟩ : ∃ N, A.length = N := ⟨_, rfl⟩
    have hM : B.length = N := hlen.symm.trans hN
    have HN := Lib.hid (And.intro hN hM)
    rw [hN] at hv hvl
    rw [hM] at hu
    rw [hN, hM] at hb
    rw [hN, hM]
    clear hlen hN hM
    go_enter Tryd.func36, Tryd.ntmps36
    go_wp2_with fail
    go_loopw [5] (fun j wr => ∃ k m : Nat, k ≤ N ∧ j = .int .i64 k ∧ Hid (((A.zip B).take k).all (fun p => eqC p.1 p.2) = true) ∧ wr = w.drewN m) (fun j _ => N - (intOf j).toNat)
    case atStart => exact ⟨0, 0, by omega, rfl, Lib.hid (by simp), rfl⟩
    case round =>
      obtain ⟨k, m, hk, rfl, hall, rfl⟩ := hrel
      by_cases hlt : k < N
      · have qk : ((k : Int) < (N : Int)) = True := eq_true (by omega)
        obtain ⟨x, hx⟩ := get_some (L := A) (n := k) (by rw [HN.out.1]; exact hlt)
        obtain ⟨y, hy⟩ := get_some (L := B) (n := k) (by rw [HN.out.2]; exact hlt)
        obtain ⟨b1, o1, rfl, hb1, hc⟩ := const_at hv (k := k) (by rw [HN.out.1]; exact hlt)
        obtain ⟨b2, o2, rfl, hb2, hd⟩ := const_at hu (k := k) (by rw [HN.out.2]; exact hlt)
        obtain ⟨d0, d1, _⟩ := hc k x hx
        obtain ⟨e0, e1, _⟩ := hd k y hy
        have HNo := Lib.hid (fun h : eqC x y = false => allEq_no hx hy h)
        have HT := Lib.hid (take_snoc (zip_at hx hy))
        clear hc hd hx hy
        by_cases h0 : x.1 = y.1
        rotate_left
        · have hs := Lib.hid (HNo.out (decide_eq_false (fun h => h0 h.1)))
          have hq0 : (x.1 == y.1) = false := by simpa using h0
          have hp0 : (x.1 = y.1) = False := eq_false h0
          clear HNo h0
          go_wp2_with fail
          go_quiet (fail)
          go_wp2_with fail
          go_ret
          exact ⟨by rw [hs.out]; rfl, _, World.drewN_drewN _ _ _⟩
        have hq0 : (x.1 == y.1) = true := by simpa using h0
        have hp0 : (x.1 = y.1) = True := eq_true h0
        by_cases h1 : x.2 = y.2
        rotate_left
        · have hs := Lib.hid (HNo.out (decide_eq_false (fun h => h1 h.2)))
          have hq1 : (x.2 == y.2) = false := by simpa using h1
          have hp1 : (x.2 = y.2) = False := eq_false h1
          clear HNo h0 h1
          go_wp2_with fail
          go_quiet (fail)
          go_wp2_with fail
          go_ret
          exact ⟨by rw [hs.out]; rfl, _, World.drewN_drewN _ _ _⟩
        have hq1 : (x.2 == y.2) = true := by simpa using h1
        have hp1 : (x.2 = y.2) = True := eq_true h1
        have hgood := Lib.hid (show ((A.zip B).take (k + 1)).all (fun p => eqC p.1 p.2) = true by rw [HT.out, List.all_append, hall.out, show [(x, y)].all (fun p => eqC p.1 p.2) = true by simp only [List.all_cons, List.all_nil, Bool.and_true]; exact decide_eq_true ⟨h0, h1⟩]; rfl)
        clear HNo h0 h1
        go_wp2_with fail
        go_quiet (fail)
        go_wp2_with fail
        go_roundw
        case rel => exact ⟨k + 1, _, by omega, by simp, hgood, rfl⟩
        case measure => first | (simp [intOf]; done) | (simp [intOf]; omega)
      · obtain rfl : k = N := by omega
        have qk : ((k : Int) < (k : Int)) = False := eq_false (by omega)
        have hs := Lib.hid (allEq_yes HN.out.1 HN.out.2 hall.out)
        go_wp2_with fail
        go_ret
        exact ⟨by rw [hs.out]; rfl, _, rfl⟩
  · have hb : (((A.length : Nat) : Int) != ((B.length : Nat) : Int)) = true := by simp; omega
    have hs := Lib.hid (allEq_len (f := eqC) hlen)
    clear hlen
    go_enter Tryd.func36, Tryd.ntmps36
    go_wp2_with fail
    go_ret
    exact ⟨by rw [hs.out]; rfl, 0, rfl⟩
set_option maxRecDepth 100000 in
set_option maxHeartbeats 4000000 in
theorem slices_ConstEq (v u : Value) (A B : List (Int × Int)) (w : World) (hv : RowR 2 constR w v A) (hu : RowR 2 constR w u B) :
    Calls Tryd.prog 31 #[v, u] w fun e w' => e = .returned (.bool (allEq eqC A B)) ∧ ∃ m, w' = w.drewN m := by
  have hvl := hv.len
  obtain ⟨sa, ca, rfl⟩ := row_get hv
  obtain ⟨sb, cb, rfl⟩ := row_get hu
  by_cases hlen : A.length = B.length
  · have hb : (((A.length : Nat) : Int) != ((B.length : Nat) : Int)) = false := by rw [hlen]; simp
    obtain ⟨N, hN⟩ : ∃ N, A.length = N := ⟨_, rfl⟩
    have hM : B.length = N := hlen.symm.trans hN
    have HN := Lib.hid (And.intro hN hM)
    rw [hN] at hv hvl
    rw [hM] at hu
    rw [hN, hM] at hb
    rw [hN, hM]
    clear hlen hN hM
    go_enter Tryd.func31, Tryd.ntmps31
    go_wp2_with fail
    go_loopw [13] (fun j wr => ∃ k m : Nat, k ≤ N ∧ j = .int .i64 k ∧ Hid (((A.zip B).take k).all (fun p => eqC p.1 p.2) = true) ∧ wr = w.drewN m) (fun j _ => N - (intOf j).toNat)
    case atStart => exact ⟨0, 0, by omega, rfl, Lib.hid (by simp), rfl⟩
    case round =>
      obtain ⟨k, m, hk, rfl, hall, rfl⟩ := hrel
      by_cases hlt : k < N
      · have qk : ((k : Int) < (N : Int)) = True := eq_true (by omega)
        obtain ⟨x, hx⟩ := get_some (L := A) (n := k) (by rw [HN.out.1]; exact hlt)
        obtain ⟨y, hy⟩ := get_some (L := B) (n := k) (by rw [HN.out.2]; exact hlt)
        obtain ⟨b1, o1, rfl, hb1, hc⟩ := const_at hv (k := k) (by rw [HN.out.1]; exact hlt)
        obtain ⟨b2, o2, rfl, hb2, hd⟩ := const_at hu (k := k) (by rw [HN.out.2]; exact hlt)
        obtain ⟨d0, d1, _⟩ := hc k x hx
        obtain ⟨e0, e1, _⟩ := hd k y hy
        have HNo := Lib.hid (fun h : eqC x y = false => allEq_no hx hy h)
        have HT := Lib.hid (take_snoc (zip_at hx hy))
        clear hc hd hx hy
        by_cases h0 : x.1 = y.1
        rotate_left
        · have hs := Lib.hid (HNo.out (decide_eq_false (fun h => h0 h.1)))
          have hq0 : (x.1 == y.1) = false := by simpa using h0
          have hp0 : (x.1 = y.1) = False := eq_false h0
          clear HNo h0
          go_wp2_with fail
          go_quiet (fail)
          go_wp2_with fail
          go_ret
          exact ⟨by rw [hs.out]; rfl, _, World.drewN_drewN _ _ _⟩
        have hq0 : (x.1 == y.1) = true := by simpa using h0
        have hp0 : (x.1 = y.1) = True := eq_true h0
        by_cases h1 : x.2 = y.2
        rotate_left
        · have hs := Lib.hid (HNo.out (decide_eq_false (fun h => h1 h.2)))
          have hq1 : (x.2 == y.2) = false := by simpa using h1
          have hp1 : (x.2 = y.2) = False := eq_false h1
          clear HNo h0 h1
          go_wp2_with fail
          go_quiet (fail)
          go_wp2_with fail
          go_ret
          exact ⟨by rw [hs.out]; rfl, _, World.drewN_drewN _ _ _⟩
        have hq1 : (x.2 == y.2) = true := by simpa using h1
        have hp1 : (x.2 = y.2) = True := eq_true h1
        have hgood := Lib.hid (show ((A.zip B).take (k + 1)).all (fun p => eqC p.1 p.2) = true by rw [HT.out, List.all_append, hall.out, show [(x, y)].all (fun p => eqC p.1 p.2) = true by simp only [List.all_cons, List.all_nil, Bool.and_true]; exact decide_eq_true ⟨h0, h1⟩]; rfl)
        clear HNo h0 h1
        go_wp2_with fail
        go_quiet (fail)
        go_wp2_with fail
        go_roundw
        case rel => exact ⟨k + 1, _, by omega, by simp, hgood, rfl⟩
        case measure => first | (simp [intOf]; done) | (simp [intOf]; omega)
      · obtain rfl : k = N := by omega
        have qk : ((k : Int) < (k : Int)) = False := eq_false (by omega)
        have hs := Lib.hid (allEq_yes HN.out.1 HN.out.2 hall.out)
        go_wp2_with fail
        go_ret
        exact ⟨by rw [hs.out]; rfl, _, rfl⟩
  · have hb : (((A.length : Nat) : Int) != ((B.length : Nat) : Int)) = true := by simp; omega
    have hs := Lib.hid (allEq_len (f := eqC) hlen)
    clear hlen
    go_enter Tryd.func31, Tryd.ntmps31
    go_wp2_with fail
    go_ret
    exact ⟨by rw [hs.out]; rfl, 0, rfl⟩
set_option maxRecDepth 100000 in
set_option maxHeartbeats 4000000 in
theorem ref14_VarsEq (v u : Value) (A B : List (Vr)) (w : World) (hv : RowR 5 varR w v A) (hu : RowR 5 varR w u B) :
    Calls Tryd.prog 37 #[v, u] w fun e w' => e = .returned (.bool (allEq eqV A B)) ∧ ∃ m, w' = w.drewN m := by
  have hvl := hv.len
  obtain ⟨sa, ca, rfl⟩ := row_get hv
  obtain ⟨sb, cb, rfl⟩ := row_get hu
  by_cases hlen : A.length = B.length
  · have hb : (((A.length : Nat) : Int) != ((B.length : Nat) : Int)) = false := by rw [hlen]; simp
    obtain ⟨N, hN⟩ : ∃ N, A.length = N := ⟨_, rfl⟩
    have hM : B.length = N := hlen.symm.trans hN
    have HN := Lib.hid (And.intro hN hM)
    rw [hN] at hv hvl
    rw [hM] at hu
    rw [hN, hM] at hb
    rw [hN, hM]
    clear hlen hN hM
    go_enter Tryd.func37, Tryd.ntmps37
    go_wp2_with fail
    go_loopw [5] (fun j wr => ∃ k m : Nat, k ≤ N ∧ j = .int .i64 k ∧ Hid (((A.zip B).take k).all (fun p => eqV p.1 p.2) = true) ∧ wr = w.drewN m) (fun j _ => N - (intOf j).toNat)
    case atStart => exact ⟨0, 0, by omega, rfl, Lib.hid (by simp), rfl⟩
    case round =>
      obtain ⟨k, m, hk, rfl, hall, rfl⟩ := hrel
      by_cases hlt : k < N
      · have qk : ((k : Int) < (N : Int)) = True := eq_true (by omega)
        obtain ⟨x, hx⟩ := get_some (L := A) (n := k) (by rw [HN.out.1]; exact hlt)
        obtain ⟨y, hy⟩ := get_some (L := B) (n := k) (by rw [HN.out.2]; exact hlt)
        obtain ⟨b1, o1, rfl, hb1, hc⟩ := var_at hv (k := k) (by rw [HN.out.1]; exact hlt)
        obtain ⟨b2, o2, rfl, hb2, hd⟩ := var_at hu (k := k) (by rw [HN.out.2]; exact hlt)
        obtain ⟨d0, d1, d2, d3, d4, _⟩ := hc k x hx
        obtain ⟨e0, e1, e2, e3, e4, _⟩ := hd k y hy
        have HNo := Lib.hid (fun h : eqV x y = false => allEq_no hx hy h)
        have HT := Lib.hid (take_snoc (zip_at hx hy))
        clear hc hd hx hy
        by_cases h0 : x.name = y.name
        rotate_left
        · have hs := Lib.hid (HNo.out (decide_eq_false (fun h => h0 h.1)))
          obtain ⟨hq0, hu0, hv0, hx0⟩ := names_ne h0
          clear HNo h0
          go_wp2_with fail
          go_quiet (fail)
          go_wp2_with fail
          go_ret
          exact ⟨by rw [hs.out]; rfl, _, World.drewN_drewN _ _ _⟩
        obtain ⟨hq0, hu0, hv0, hx0⟩ := names_eq h0
        by_cases h1 : x.t = y.t
        rotate_left
        · have hs := Lib.hid (HNo.out (decide_eq_false (fun h => h1 h.2.1)))
          have hq1 : (x.t == y.t) = false := by simpa using h1
          have hp1 : (x.t = y.t) = False := eq_false h1
          clear HNo h0 h1
          go_wp2_with fail
          go_quiet (fail)
          go_wp2_with fail
          go_ret
          exact ⟨by rw [hs.out]; rfl, _, World.drewN_drewN _ _ _⟩
        have hq1 : (x.t == y.t) = true := by simpa using h1
        have hp1 : (x.t = y.t) = True := eq_true h1
        by_cases h2 : x.n = y.n
        rotate_left
        · have hs := Lib.hid (HNo.out (decide_eq_false (fun h => h2 h.2.2.1)))
          have hq2 : (x.n == y.n) = false := by simpa using h2
          have hp2 : (x.n = y.n) = False := eq_false h2
          clear HNo h0 h1 h2
          go_wp2_with fail
          go_quiet (fail)
          go_wp2_with fail
          go_ret
          exact ⟨by rw [hs.out]; rfl, _, World.drewN_drewN _ _ _⟩
        have hq2 : (x.n == y.n) = true := by simpa using h2
        have hp2 : (x.n = y.n) = True := eq_true h2
        by_cases h3 : x.area = y.area
        rotate_left
        · have hs := Lib.hid (HNo.out (decide_eq_false (fun h => h3 h.2.2.2.1)))
          have hq3 : (x.area == y.area) = false := by simpa using h3
          have hp3 : (x.area = y.area) = False := eq_false h3
          clear HNo h0 h1 h2 h3
          go_wp2_with fail
          go_quiet (fail)
          go_wp2_with fail
          go_ret
          exact ⟨by rw [hs.out]; rfl, _, World.drewN_drewN _ _ _⟩
        have hq3 : (x.area == y.area) = true := by simpa using h3
        have hp3 : (x.area = y.area) = True := eq_true h3
        by_cases h4 : x.init = y.init
        rotate_left
        · have hs := Lib.hid (HNo.out (decide_eq_false (fun h => h4 h.2.2.2.2)))
          have hq4 : (x.init == y.init) = false := by simpa using h4
          have hp4 : (x.init = y.init) = False := eq_false h4
          clear HNo h0 h1 h2 h3 h4
          go_wp2_with fail
          go_quiet (fail)
          go_wp2_with fail
          go_ret
          exact ⟨by rw [hs.out]; rfl, _, World.drewN_drewN _ _ _⟩
        have hq4 : (x.init == y.init) = true := by simpa using h4
        have hp4 : (x.init = y.init) = True := eq_true h4
        have hgood := Lib.hid (show ((A.zip B).take (k + 1)).all (fun p => eqV p.1 p.2) = true by rw [HT.out, List.all_append, hall.out, show [(x, y)].all (fun p => eqV p.1 p.2) = true by simp only [List.all_cons, List.all_nil, Bool.and_true]; exact decide_eq_true ⟨h0, h1, h2, h3, h4⟩]; rfl)
        clear HNo h0 h1 h2 h3 h4
        go_wp2_with fail
        go_quiet (fail)
        go_wp2_with fail
        go_roundw
        case rel => exact ⟨k + 1, _, by omega, by simp, hgood, rfl⟩
        case measure => first | (simp [intOf]; done) | (simp [intOf]; omega)
      · obtain rfl : k = N := by omega
        have qk : ((k : Int) < (k : Int)) = False := eq_false (by omega)
        have hs := Lib.hid (allEq_yes HN.out.1 HN.out.2 hall.out)
        go_wp2_with fail
        go_ret
        exact ⟨by rw [hs.out]; rfl, _, rfl⟩
  · have hb : (((A.length : Nat) : Int) != ((B.length : Nat) : Int)) = true := by simp; omega
    have hs := Lib.hid (allEq_len (f := eqV) hlen)
    clear hlen
    go_enter Tryd.func37, Tryd.ntmps37
    go_wp2_with fail
    go_ret
    exact ⟨by rw [hs.out]; rfl, 0, rfl⟩
set_option maxRecDepth 100000 in
set_option maxHeartbeats 4000000 in
theorem slices_VarEq (v u : Value) (A B : List (Vr)) (w : World) (hv : RowR 5 varR w v A) (hu : RowR 5 varR w u B) :
    Calls Tryd.prog 32 #[v, u] w fun e w' => e = .returned (.bool (allEq eqV A B)) ∧ ∃ m, w' = w.drewN m := by
  have hvl := hv.len
  obtain ⟨sa, ca, rfl⟩ := row_get hv
  obtain ⟨sb, cb, rfl⟩ := row_get hu
  by_cases hlen : A.length = B.length
  · have hb : (((A.length : Nat) : Int) != ((B.length : Nat) : Int)) = false := by rw [hlen]; simp
    obtain ⟨N, hN⟩ : ∃ N, A.length = N := ⟨_, rfl⟩
    have hM : B.length = N := hlen.symm.trans hN
    have HN := Lib.hid (And.intro hN hM)
    rw [hN] at hv hvl
    rw [hM] at hu
    rw [hN, hM] at hb
    rw [hN, hM]
    clear hlen hN hM
    go_enter Tryd.func32, Tryd.ntmps32
    go_wp2_with fail
    go_loopw [13] (fun j wr => ∃ k m : Nat, k ≤ N ∧ j = .int .i64 k ∧ Hid (((A.zip B).take k).all (fun p => eqV p.1 p.2) = true) ∧ wr = w.drewN m) (fun j _ => N - (intOf j).toNat)
    case atStart => exact ⟨0, 0, by omega, rfl, Lib.hid (by simp), rfl⟩
    case round =>
      obtain ⟨k, m, hk, rfl, hall, rfl⟩ := hrel
      by_cases hlt : k < N
      · have qk : ((k : Int) < (N : Int)) = True := eq_true (by omega)
        obtain ⟨x, hx⟩ := get_some (L := A) (n := k) (by rw [HN.out.1]; exact hlt)
        obtain ⟨y, hy⟩ := get_some (L := B) (n := k) (by rw [HN.out.2]; exact hlt)
        obtain ⟨b1, o1, rfl, hb1, hc⟩ := var_at hv (k := k) (by rw [HN.out.1]; exact hlt)
        obtain ⟨b2, o2, rfl, hb2, hd⟩ := var_at hu (k := k) (by rw [HN.out.2]; exact hlt)
        obtain ⟨d0, d1, d2, d3, d4, _⟩ := hc k x hx
        obtain ⟨e0, e1, e2, e3, e4, _⟩ := hd k y hy
        have HNo := Lib.hid (fun h : eqV x y = false => allEq_no hx hy h)
        have HT := Lib.hid (take_snoc (zip_at hx hy))
        clear hc hd hx hy
        by_cases h0 : x.name = y.name
        rotate_left
        · have hs := Lib.hid (HNo.out (decide_eq_false (fun h => h0 h.1)))
          obtain ⟨hq0, hu0, hv0, hx0⟩ := names_ne h0
          clear HNo h0
          go_wp2_with fail
          go_quiet (fail)
          go_wp2_with fail
          go_ret
          exact ⟨by rw [hs.out]; rfl, _, World.drewN_drewN _ _ _⟩
        obtain ⟨hq0, hu0, hv0, hx0⟩ := names_eq h0
        by_cases h1 : x.t = y.t
        rotate_left
        · have hs := Lib.hid (HNo.out (decide_eq_false (fun h => h1 h.2.1)))
          have hq1 : (x.t == y.t) = false := by simpa using h1
          have hp1 : (x.t = y.t) = False := eq_false h1
          clear HNo h0 h1
          go_wp2_with fail
          go_quiet (fail)
          go_wp2_with fail
          go_ret
          exact ⟨by rw [hs.out]; rfl, _, World.drewN_drewN _ _ _⟩
        have hq1 : (x.t == y.t) = true := by simpa using h1
        have hp1 : (x.t = y.t) = True := eq_true h1
        by_cases h2 : x.n = y.n
        rotate_left
        · have hs := Lib.hid (HNo.out (decide_eq_false (fun h => h2 h.2.2.1)))
          have hq2 : (x.n == y.n) = false := by simpa using h2
          have hp2 : (x.n = y.n) = False := eq_false h2
          clear HNo h0 h1 h2
          go_wp2_with fail
          go_quiet (fail)
          go_wp2_with fail
          go_ret
          exact ⟨by rw [hs.out]; rfl, _, World.drewN_drewN _ _ _⟩
        have hq2 : (x.n == y.n) = true := by simpa using h2
        have hp2 : (x.n = y.n) = True := eq_true h2
        by_cases h3 : x.area = y.area
        rotate_left
        · have hs := Lib.hid (HNo.out (decide_eq_false (fun h => h3 h.2.2.2.1)))
          have hq3 : (x.area == y.area) = false := by simpa using h3
          have hp3 : (x.area = y.area) = False := eq_false h3
          clear HNo h0 h1 h2 h3
          go_wp2_with fail
          go_quiet (fail)
          go_wp2_with fail
          go_ret
          exact ⟨by rw [hs.out]; rfl, _, World.drewN_drewN _ _ _⟩
        have hq3 : (x.area == y.area) = true := by simpa using h3
        have hp3 : (x.area = y.area) = True := eq_true h3
        by_cases h4 : x.init = y.init
        rotate_left
        · have hs := Lib.hid (HNo.out (decide_eq_false (fun h => h4 h.2.2.2.2)))
          have hq4 : (x.init == y.init) = false := by simpa using h4
          have hp4 : (x.init = y.init) = False := eq_false h4
          clear HNo h0 h1 h2 h3 h4
          go_wp2_with fail
          go_quiet (fail)
          go_wp2_with fail
          go_ret
          exact ⟨by rw [hs.out]; rfl, _, World.drewN_drewN _ _ _⟩
        have hq4 : (x.init == y.init) = true := by simpa using h4
        have hp4 : (x.init = y.init) = True := eq_true h4
        have hgood := Lib.hid (show ((A.zip B).take (k + 1)).all (fun p => eqV p.1 p.2) = true by rw [HT.out, List.all_append, hall.out, show [(x, y)].all (fun p => eqV p.1 p.2) = true by simp only [List.all_cons, List.all_nil, Bool.and_true]; exact decide_eq_true ⟨h0, h1, h2, h3, h4⟩]; rfl)
        clear HNo h0 h1 h2 h3 h4
        go_wp2_with fail
        go_quiet (fail)
        go_wp2_with fail
        go_roundw
        case rel => exact ⟨k + 1, _, by omega, by simp, hgood, rfl⟩
        case measure => first | (simp [intOf]; done) | (simp [intOf]; omega)
      · obtain rfl : k = N := by omega
        have qk : ((k : Int) < (k : Int)) = False := eq_false (by omega)
        have hs := Lib.hid (allEq_yes HN.out.1 HN.out.2 hall.out)
        go_wp2_with fail
        go_ret
        exact ⟨by rw [hs.out]; rfl, _, rfl⟩
  · have hb : (((A.length : Nat) : Int) != ((B.length : Nat) : Int)) = true := by simp; omega
    have hs := Lib.hid (allEq_len (f := eqV) hlen)
    clear hlen
    go_enter Tryd.func32, Tryd.ntmps32
    go_wp2_with fail
    go_ret
    exact ⟨by rw [hs.out]; rfl, 0, rfl⟩
set_option maxRecDepth 100000 in
set_option maxHeartbeats 4000000 in
theorem ref14_BlocksEq (v u : Value) (A B : List (Bk)) (w : World) (hv : RowR 2 blkR w v A) (hu : RowR 2 blkR w u B) :
    Calls Tryd.prog 38 #[v, u] w fun e w' => e = .returned (.bool (allEq eqB A B)) ∧ ∃ m, w' = w.drewN m := by
  have hvl := hv.len
  obtain ⟨sa, ca, rfl⟩ := row_get hv
  obtain ⟨sb, cb, rfl⟩ := row_get hu
  by_cases hlen : A.length = B.length
  · have hb : (((A.length : Nat) : Int) != ((B.length : Nat) : Int)) = false := by rw [hlen]; simp
    obtain ⟨N, hN⟩ : ∃ N, A.length = N := ⟨_, rfl⟩
    have hM : B.length = N := hlen.symm.trans hN
    have HN := Lib.hid (And.intro hN hM)
    rw [hN] at hv hvl
    rw [hM] at hu
    rw [hN, hM] at hb
    rw [hN, hM]
    clear hlen hN hM
    go_enter Tryd.func38, Tryd.ntmps38
    go_wp2_with fail
    go_loopw [5] (fun j wr => ∃ k m : Nat, k ≤ N ∧ j = .int .i64 k ∧ Hid (((A.zip B).take k).all (fun p => eqB p.1 p.2) = true) ∧ wr = w.drewN m) (fun j _ => N - (intOf j).toNat)
    case atStart => exact ⟨0, 0, by omega, rfl, Lib.hid (by simp), rfl⟩
    case round =>
      obtain ⟨k, m, hk, rfl, hall, rfl⟩ := hrel
      by_cases hlt : k < N
      · have qk : ((k : Int) < (N : Int)) = True := eq_true (by omega)
        obtain ⟨x, hx⟩ := get_some (L := A) (n := k) (by rw [HN.out.1]; exact hlt)
        obtain ⟨y, hy⟩ := get_some (L := B) (n := k) (by rw [HN.out.2]; exact hlt)
        obtain ⟨b1, o1, rfl, hb1, hc⟩ := blk_at hv (k := k) (by rw [HN.out.1]; exact hlt)
        obtain ⟨b2, o2, rfl, hb2, hd⟩ := blk_at hu (k := k) (by rw [HN.out.2]; exact hlt)
        obtain ⟨d0, d1, _⟩ := hc k x hx
        obtain ⟨e0, e1, _⟩ := hd k y hy
        have HNo := Lib.hid (fun h : eqB x y = false => allEq_no hx hy h)
        have HT := Lib.hid (take_snoc (zip_at hx hy))
        clear hc hd hx hy
        by_cases h0 : x.name = y.name
        rotate_left
        · have hs := Lib.hid (HNo.out (decide_eq_false (fun h => h0 h.1)))
          obtain ⟨hq0, hu0, hv0, hx0⟩ := names_ne h0
          clear HNo h0
          go_wp2_with fail
          go_quiet (fail)
          go_wp2_with fail
          go_ret
          exact ⟨by rw [hs.out]; rfl, _, World.drewN_drewN _ _ _⟩
        obtain ⟨hq0, hu0, hv0, hx0⟩ := names_eq h0
        by_cases h1 : x.kind = y.kind
        rotate_left
        · have hs := Lib.hid (HNo.out (decide_eq_false (fun h => h1 h.2)))
          have hq1 : (x.kind == y.kind) = false := by simpa using h1
          have hp1 : (x.kind = y.kind) = False := eq_false h1
          clear HNo h0 h1
          go_wp2_with fail
          go_quiet (fail)
          go_wp2_with fail
          go_ret
          exact ⟨by rw [hs.out]; rfl, _, World.drewN_drewN _ _ _⟩
        have hq1 : (x.kind == y.kind) = true := by simpa using h1
        have hp1 : (x.kind = y.kind) = True := eq_true h1
        have hgood := Lib.hid (show ((A.zip B).take (k + 1)).all (fun p => eqB p.1 p.2) = true by rw [HT.out, List.all_append, hall.out, show [(x, y)].all (fun p => eqB p.1 p.2) = true by simp only [List.all_cons, List.all_nil, Bool.and_true]; exact decide_eq_true ⟨h0, h1⟩]; rfl)
        clear HNo h0 h1
        go_wp2_with fail
        go_quiet (fail)
        go_wp2_with fail
        go_roundw
        case rel => exact ⟨k + 1, _, by omega, by simp, hgood, rfl⟩
        case measure => first | (simp [intOf]; done) | (simp [intOf]; omega)
      · obtain rfl : k = N := by omega
        have qk : ((k : Int) < (k : Int)) = False := eq_false (by omega)
        have hs := Lib.hid (allEq_yes HN.out.1 HN.out.2 hall.out)
        go_wp2_with fail
        go_ret
        exact ⟨by rw [hs.out]; rfl, _, rfl⟩
  · have hb : (((A.length : Nat) : Int) != ((B.length : Nat) : Int)) = true := by simp; omega
    have hs := Lib.hid (allEq_len (f := eqB) hlen)
    clear hlen
    go_enter Tryd.func38, Tryd.ntmps38
    go_wp2_with fail
    go_ret
    exact ⟨by rw [hs.out]; rfl, 0, rfl⟩
set_option maxRecDepth 100000 in
set_option maxHeartbeats 4000000 in
theorem slices_BlockEq (v u : Value) (A B : List (Bk)) (w : World) (hv : RowR 2 blkR w v A) (hu : RowR 2 blkR w u B) :
    Calls Tryd.prog 33 #[v, u] w fun e w' => e = .returned (.bool (allEq eqB A B)) ∧ ∃ m, w' = w.drewN m := by
  have hvl := hv.len
  obtain ⟨sa, ca, rfl⟩ := row_get hv
  obtain ⟨sb, cb, rfl⟩ := row_get hu
  by_cases hlen : A.length = B.length
  · have hb : (((A.length : Nat) : Int) != ((B.length : Nat) : Int)) = false := by rw [hlen]; simp
    obtain ⟨N, hN⟩ : ∃ N, A.length = N := ⟨_, rfl⟩
    have hM : B.length = N := hlen.symm.trans hN
    have HN := Lib.hid (And.intro hN hM)
    rw [hN] at hv hvl
    rw [hM] at hu
    rw [hN, hM] at hb
    rw [hN, hM]
    clear hlen hN hM
    go_enter Tryd.func33, Tryd.ntmps33
    go_wp2_with fail
    go_loopw [13] (fun j wr => ∃ k m : Nat, k ≤ N ∧ j = .int .i64 k ∧ Hid (((A.zip B).take k).all (fun p => eqB p.1 p.2) = true) ∧ wr = w.drewN m) (fun j _ => N - (intOf j).toNat)
    case atStart => exact ⟨0, 0, by omega, rfl, Lib.hid (by simp), rfl⟩
    case round =>
      obtain ⟨k, m, hk, rfl, hall, rfl⟩ := hrel
      by_cases hlt : k < N
      · have qk : ((k : Int) < (N : Int)) = True := eq_true (by omega)
        obtain ⟨x, hx⟩ := get_some (L := A) (n := k) (by rw [HN.out.1]; exact hlt)
        obtain ⟨y, hy⟩ := get_some (L := B) (n := k) (by rw [HN.out.2]; exact hlt)
        obtain ⟨b1, o1, rfl, hb1, hc⟩ := blk_at hv (k := k) (by rw [HN.out.1]; exact hlt)
        obtain ⟨b2, o2, rfl, hb2, hd⟩ := blk_at hu (k := k) (by rw [HN.out.2]; exact hlt)
        obtain ⟨d0, d1, _⟩ := hc k x hx
        obtain ⟨e0, e1, _⟩ := hd k y hy
        have HNo := Lib.hid (fun h : eqB x y = false => allEq_no hx hy h)
        have HT := Lib.hid (take_snoc (zip_at hx hy))
        clear hc hd hx hy
        by_cases h0 : x.name = y.name
        rotate_left
        · have hs := Lib.hid (HNo.out (decide_eq_false (fun h => h0 h.1)))
          obtain ⟨hq0, hu0, hv0, hx0⟩ := names_ne h0
          clear HNo h0
          go_wp2_with fail
          go_quiet (fail)
          go_wp2_with fail
          go_ret
          exact ⟨by rw [hs.out]; rfl, _, World.drewN_drewN _ _ _⟩
        obtain ⟨hq0, hu0, hv0, hx0⟩ := names_eq h0
        by_cases h1 : x.kind = y.kind
        rotate_left
        · have hs := Lib.hid (HNo.out (decide_eq_false (fun h => h1 h.2)))
          have hq1 : (x.kind == y.kind) = false := by simpa using h1
          have hp1 : (x.kind = y.kind) = False := eq_false h1
          clear HNo h0 h1
          go_wp2_with fail
          go_quiet (fail)
          go_wp2_with fail
          go_ret
          exact ⟨by rw [hs.out]; rfl, _, World.drewN_drewN _ _ _⟩
        have hq1 : (x.kind == y.kind) = true := by simpa using h1
        have hp1 : (x.kind = y.kind) = True := eq_true h1
        have hgood := Lib.hid (show ((A.zip B).take (k + 1)).all (fun p => eqB p.1 p.2) = true by rw [HT.out, List.all_append, hall.out, show [(x, y)].all (fun p => eqB p.1 p.2) = true by simp only [List.all_cons, List.all_nil, Bool.and_true]; exact decide_eq_true ⟨h0, h1⟩]; rfl)
        clear HNo h0 h1
        go_wp2_with fail
        go_quiet (fail)
        go_wp2_with fail
        go_roundw
        case rel => exact ⟨k + 1, _, by omega, by simp, hgood, rfl⟩
        case measure => first | (simp [intOf]; done) | (simp [intOf]; omega)
      · obtain rfl : k = N := by omega
        have qk : ((k : Int) < (k : Int)) = False := eq_false (by omega)
        have hs := Lib.hid (allEq_yes HN.out.1 HN.out.2 hall.out)
        go_wp2_with fail
        go_ret
        exact ⟨by rw [hs.out]; rfl, _, rfl⟩
  · have hb : (((A.length : Nat) : Int) != ((B.length : Nat) : Int)) = true := by simp; omega
    have hs := Lib.hid (allEq_len (f := eqB) hlen)
    clear hlen
    go_enter Tryd.func33, Tryd.ntmps33
    go_wp2_with fail
    go_ret
    exact ⟨by rw [hs.out]; rfl, 0, rfl⟩
end Go.Proofs.YtjikkipdmonndaaDoor

/- Blocks of memory, by what lies in them; rows of the call's own that are written. -/
namespace Go.Proofs.YtjikkipdmonndaaDoor
open Go.RowKit
set_option linter.unusedSimpArgs false
set_option linter.unusedVariables false
theorem owns_put {w : World} {B : Nat} {e : TypeId} {n : Nat} {v : Value} {xs : List Value} (h : w.ownsRow B e 1 v n xs) {k : Nat} (hk : k < n) {x : Value} :
    ∃ g cap, v = .slice (some ⟨g, 0, none⟩) n cap ∧ B ≤ g ∧ g < w.heap.size ∧ (∃ u, xs[k]? = some u ∧ w.cell? ⟨g, k, none⟩ = some u) ∧ w.frozen? ⟨g, k, none⟩ = false ∧ (w.setCell ⟨g, k, none⟩ x).ownsRow B e 1 v n (xs.set k x) := by
  obtain ⟨hl, h⟩ := h
  rcases h with ⟨rfl, h0⟩ | ⟨g, cap, cur, rfl, hb, hg, h1, h2, h3, h4⟩
  · subst h0; simp at hl; omega
  · have hlt : g < w.heap.size := by
      by_cases hgl : g < w.heap.size
      · exact hgl
      · rw [Array.getElem?_eq_none (Nat.le_of_not_lt hgl)] at hg; cases hg
    obtain ⟨u, hu⟩ : ∃ u, xs[k]? = some u := get_some (by omega)
    have hcell : cur[k]? = some u := by
      have h5 := hu
      rw [← h4, List.getElem?_take, if_pos (by omega)] at h5
      simpa using h5
    refine ⟨g, cap, rfl, hb, hlt, ⟨u, hu, ?_⟩, ?_, ?_⟩
    · unfold World.cell?
      rw [show (⟨g, k, none⟩ : Addr).block = g from rfl, hg]
      simpa using hcell
    · unfold World.frozen?
      rw [show (⟨g, k, none⟩ : Addr).block = g from rfl, hg]
      simp
    · refine ⟨by simpa using hl, Or.inr ⟨g, cap, cur.setIfInBounds k x, rfl, hb, ?_, h1, h2, by simpa using h3, ?_⟩⟩
      · unfold World.setCell
        show (w.heap.modify g _)[g]? = _
        rw [Array.getElem?_modify, if_pos rfl, hg]
        rfl
      · rw [← h4]
        apply List.ext_getElem?
        intro i
        rw [List.getElem?_take, List.getElem?_set, List.getElem?_take]
        by_cases hi : i < n * 1
        · rw [if_pos hi]
          by_cases hki : k = i
          · subst hki
            have : k < cur.size := by omega
            have h0 : k < (cur.setIfInBounds k x).toList.length := by simp; omega
            simp [this, hk]; try omega
          · simp only [Array.toList_setIfInBounds, List.getElem?_set, if_neg hki]
            rw [if_pos hi]
        · rw [if_neg hi, if_neg (by omega : ¬ k = i), if_neg hi]
theorem owns_arr (w : World) (Z : Array Value) (e : TypeId) (q m : Nat) (hZ : Z.size = m * q) (hm : m ≤ maxLen) : (w.alloc (.cells Z e)).ownsRow w.heap.size e q (.slice (some ⟨w.heap.size, 0, none⟩) m m) m Z.toList := by
  refine ⟨by simp [hZ], Or.inr ⟨w.heap.size, m, Z, rfl, Nat.le_refl _, ?_, Nat.le_refl _, hm, hZ, by rw [List.take_of_length_le (by simp [hZ])]⟩⟩
  show (w.heap.push _)[w.heap.size]? = _
  simp
/-- a block of another type stays as it is, whatever is written into a row of the call's own -/
theorem obj_set {w : World} {B : Nat} {e t : TypeId} {q n p : Nat} {v : Value} {xs A : _} {g o : Nat} {x : Value} (hp : w.heap[p]? = some (.cells A t)) (h : w.ownsRow B e q v n xs) (hg : v.ownBlock = some g) (he : t ≠ e) : (w.setCell ⟨g, o, none⟩ x).heap[p]? = some (.cells A t) := by
  have hne : g ≠ p := by
    intro hgp
    subst hgp
    rcases h.2 with ⟨h0, _⟩ | ⟨b, cap, cur, h0, _, h1, _⟩
    · rw [h0] at hg; simp [Value.ownBlock] at hg
    · rw [h0] at hg
      have e1 : b = g := by simpa [Value.ownBlock] using hg
      subst e1
      rw [hp] at h1
      simp at h1
      exact he h1.2
  rw [← hp]
  unfold World.setCell
  show (w.heap.modify g _)[p]? = _
  rw [Array.getElem?_modify, if_neg hne]
theorem obj_cell {w : World} {p : Nat} {A : Array Value} {t : TypeId} (hp : w.heap[p]? = some (.cells A t)) {i : Nat} {u : Value} (hu : A[i]? = some u) : w.cell? ⟨p, i, none⟩ = some u := by
  unfold World.cell?
  rw [show (⟨p, i, none⟩ : Addr).block = p from rfl, hp]
  simpa using hu
theorem heap_push (w : World) (o : Obj) : (w.alloc o).heap = w.heap.push o := rfl
theorem get_last {w : World} {o : Obj} {g : Nat} (h : g = w.heap.size) : (w.alloc o).heap[g]? = some o := by
  subst h
  show (w.heap.push o)[w.heap.size]? = _
  simp
theorem get_past {w : World} {o : Obj} {g : Nat} (h : g < w.heap.size) : (w.alloc o).heap[g]? = w.heap[g]? := by
  show (w.heap.push o)[g]? = _
  rw [Array.getElem?_push, if_neg (by omega)]
theorem obj_lower {B : Nat} {w w' : World} {p : Nat} {o : Obj} (hp : w.heap[p]? = some o) (hb : Below B w w') (h : p < B) : w'.heap[p]? = some o := (hb.block p h).trans hp
theorem obj_frozen {w : World} {p : Nat} {A : Array Value} {t : TypeId} (hp : w.heap[p]? = some (.cells A t)) (i : Nat) : w.frozen? ⟨p, i, none⟩ = false := by
  unfold World.frozen?
  rw [show (⟨p, i, none⟩ : Addr).block = p from rfl, hp]
  simp
theorem obj_self {w : World} {p i : Nat} {A : Array Value} {t : TypeId} {x : Value} (hp : w.heap[p]? = some (.cells A t)) : (w.setCell ⟨p, i, none⟩ x).heap[p]? = some (.cells (A.setIfInBounds i x) t) := by
  unfold World.setCell
  show (w.heap.modify p _)[p]? = _
  rw [Array.getElem?_modify, if_pos rfl, hp]
  rfl
theorem get_set {w : World} {a : Addr} {x : Value} {g : Nat} (h : a.block ≠ g) : (w.setCell a x).heap[g]? = w.heap[g]? := by
  unfold World.setCell
  show (w.heap.modify a.block _)[g]? = _
  rw [Array.getElem?_modify, if_neg h]
theorem drew_heap (w : World) : w.drew.heap = w.heap := rfl
end Go.Proofs.YtjikkipdmonndaaDoor

/- Layer 16: whether two programs are the same, by both. -/
namespace Go.Proofs.YtjikkipdmonndaaDoor
open Go.RowKit
set_option linter.unusedSimpArgs false
set_option linter.unusedVariables false
theorem heap_ltS {w : World} {g : Nat} {o : Obj} (h : w.heap[g]? = some o) : g < w.heap.size := by
  by_cases hl : g < w.heap.size
  · exact hl
  · rw [Array.getElem?_eq_none (Nat.le_of_not_lt hl)] at h; cases h
def sameP (p q : Pr) : Bool := allEq eqC p.consts q.consts && (allEq eqV p.vars q.vars && (allEq eqB p.blocks q.blocks && allEq sameU p.units q.units))
theorem sameP_self (p : Pr) : sameP p p = true := by
  unfold sameP
  rw [allEq_self (f := eqC) (fun x => decide_eq_true ⟨rfl, rfl⟩), allEq_self (f := eqV) (fun x => decide_eq_true ⟨rfl, rfl, rfl, rfl, rfl⟩), allEq_self (f := eqB) (fun x => decide_eq_true ⟨rfl, rfl⟩), allEq_self sameU_self]
  rfl
theorem sameP_at {p q : Pr} {a b c d : Bool} (h1 : allEq eqC p.consts q.consts = a) (h2 : allEq eqV p.vars q.vars = b) (h3 : allEq eqB p.blocks q.blocks = c) (h4 : allEq sameU p.units q.units = d) : sameP p q = (a && (b && (c && d))) := by
  unfold sameP; rw [h1, h2, h3, h4]
set_option maxRecDepth 100000 in
set_option maxHeartbeats 4000000 in
theorem units_EqualFunc (v u : Value) (A B : List Un) (w : World) (hv : RowR 5 unitR w v A) (hu : RowR 5 unitR w u B) (hf : ∀ x ∈ A, x.code.length ≤ 1000000000) :
    Calls Tryd.prog 34 #[v, u, .func (.func 35) #[] #[]] w fun e w' => e = .returned (.bool (allEq sameU A B)) ∧ Below w.heap.size w w' := by
  have hvl := hv.len
  obtain ⟨sa, ca, rfl⟩ := row_get hv
  obtain ⟨sb, cb, rfl⟩ := row_get hu
  by_cases hlen : A.length = B.length
  · have hb : (((A.length : Nat) : Int) != ((B.length : Nat) : Int)) = false := by rw [hlen]; simp
    obtain ⟨N, hN⟩ : ∃ N, A.length = N := ⟨_, rfl⟩
    have hM : B.length = N := hlen.symm.trans hN
    have HN := Lib.hid (And.intro hN hM)
    rw [hN] at hv hvl
    rw [hM] at hu
    rw [hN, hM] at hb
    rw [hN, hM]
    clear hlen hN hM
    go_enter Tryd.func34, Tryd.ntmps34
    go_wp2_with fail
    go_loopw [17] (fun j wr => ∃ k : Nat, k ≤ N ∧ j = .int .i64 k ∧ Hid (((A.zip B).take k).all (fun p => sameU p.1 p.2) = true) ∧ Hid (Below w.heap.size w wr)) (fun j _ => N - (intOf j).toNat)
    case atStart => exact ⟨0, by omega, rfl, Lib.hid (by simp), Lib.hid (Below.refl _ _)⟩
    case round =>
      obtain ⟨k, hk, rfl, hall, HB⟩ := hrel
      by_cases hlt : k < N
      · have qk : ((k : Int) < (N : Int)) = True := eq_true (by omega)
        obtain ⟨x, hx⟩ := get_some (L := A) (n := k) (by rw [HN.out.1]; exact hlt)
        obtain ⟨y, hy⟩ := get_some (L := B) (n := k) (by rw [HN.out.2]; exact hlt)
        obtain ⟨b1, o1, rfl, hb1, hc⟩ := unit_at hv (k := k) (by rw [HN.out.1]; exact hlt)
        obtain ⟨b2, o2, rfl, hb2, hd⟩ := unit_at hu (k := k) (by rw [HN.out.2]; exact hlt)
        obtain ⟨u1, u3, u4, d0, d1, d2, d3, d4, hU⟩ := hc k x hx
        obtain ⟨v1, v3, v4, e0, e1, e2, e3, e4, hV⟩ := hd k y hy
        have HNo := Lib.hid (fun h : sameU x y = false => allEq_no hx hy h)
        have HT := Lib.hid (take_snoc (zip_at hx hy))
        have hcl := hf x (List.mem_of_getElem? hx)
        obtain ⟨s1, t1, rfl⟩ := row_get hU.ps
        obtain ⟨s3, t3, rfl⟩ := row_get hU.ls
        obtain ⟨s4, t4, rfl⟩ := row_get hU.cs
        obtain ⟨s1', t1', rfl⟩ := row_get hV.ps
        obtain ⟨s3', t3', rfl⟩ := row_get hV.ls
        obtain ⟨s4', t4', rfl⟩ := row_get hV.cs
        have d0 := (HB.out.cell (p := ⟨b1, o1 + k * 5, none⟩) hb1).trans d0
        have d1 := (HB.out.cell (p := ⟨b1, o1 + k * 5 + 1, none⟩) hb1).trans d1
        have d2 := (HB.out.cell (p := ⟨b1, o1 + k * 5 + 2, none⟩) hb1).trans d2
        have d3 := (HB.out.cell (p := ⟨b1, o1 + k * 5 + 3, none⟩) hb1).trans d3
        have d4 := (HB.out.cell (p := ⟨b1, o1 + k * 5 + 4, none⟩) hb1).trans d4
        obtain ⟨W1, hW1⟩ : ∃ W1, W1 = wr.alloc (.cells #[.string ⟨x.name.toArray⟩, .slice s1 x.params.length t1, .int .i64 x.result, .slice s3 x.locals.length t3, .slice s4 x.code.length t4] 48) := ⟨_, rfl⟩
        have hw1 : Below wr.heap.size wr W1 := by rw [hW1]; exact by (repeat' (first | (with_reducible exact Below.refl _ _) | (with_reducible assumption) | (with_reducible refine below_drewN ?_ _) | (with_reducible refine Below.alloc ?_ ?_ _) | (with_reducible refine Below.drew ?_) | (with_reducible refine Below.setCell ?_ ?_ _) | go_size))
        have hB1 := HB.out.trans (hw1.mono HB.out.size)
        have j1 : W1.heap[wr.heap.size]? = some (.cells #[.string ⟨x.name.toArray⟩, .slice s1 x.params.length t1, .int .i64 x.result, .slice s3 x.locals.length t3, .slice s4 x.code.length t4] 48) := by rw [hW1]; exact get_last rfl
        have e0 := (hB1.cell (p := ⟨b2, o2 + k * 5, none⟩) hb2).trans e0
        have e1 := (hB1.cell (p := ⟨b2, o2 + k * 5 + 1, none⟩) hb2).trans e1
        have e2 := (hB1.cell (p := ⟨b2, o2 + k * 5 + 2, none⟩) hb2).trans e2
        have e3 := (hB1.cell (p := ⟨b2, o2 + k * 5 + 3, none⟩) hb2).trans e3
        have e4 := (hB1.cell (p := ⟨b2, o2 + k * 5 + 4, none⟩) hb2).trans e4
        obtain ⟨W2, hW2⟩ : ∃ W2, W2 = W1.alloc (.cells #[.string ⟨y.name.toArray⟩, .slice s1' y.params.length t1', .int .i64 y.result, .slice s3' y.locals.length t3', .slice s4' y.code.length t4'] 48) := ⟨_, rfl⟩
        have hw2 : Below W1.heap.size W1 W2 := by rw [hW2]; exact by (repeat' (first | (with_reducible exact Below.refl _ _) | (with_reducible assumption) | (with_reducible refine below_drewN ?_ _) | (with_reducible refine Below.alloc ?_ ?_ _) | (with_reducible refine Below.drew ?_) | (with_reducible refine Below.setCell ?_ ?_ _) | go_size))
        have hB2 := Lib.hid (hB1.trans (hw2.mono hB1.size))
        have j2 : W2.heap[W1.heap.size]? = some (.cells #[.string ⟨y.name.toArray⟩, .slice s1' y.params.length t1', .int .i64 y.result, .slice s3' y.locals.length t3', .slice s4' y.code.length t4'] 48) := by rw [hW2]; exact get_last rfl
        have j1' := obj_lower j1 hw2 (heap_ltS j1)
        have HS := unit_Same _ _ _ _ _ _ x y W2 (hU.below hB2.out) (hV.below hB2.out) hcl
        have HW1 := Lib.hid hW1
        have HW2 := Lib.hid hW2
        clear hc hd hx hy hU hV hW1 hW2 hw1 hw2 hB1 hcl
        go_upto_region 6 with fail
        rw [← HW1.out]
        clear d0 d1 d2 d3 d4
        go_upto_region 7 with fail
        rw [← HW2.out]
        clear e0 e1 e2 e3 e4
        have f0 := obj_cell j1' (i := 0) rfl
        have f1 := obj_cell j1' (i := 1) rfl
        have f2 := obj_cell j1' (i := 2) rfl
        have f3 := obj_cell j1' (i := 3) rfl
        have f4 := obj_cell j1' (i := 4) rfl
        have g0 := obj_cell j2 (i := 0) rfl
        have g1 := obj_cell j2 (i := 1) rfl
        have g2 := obj_cell j2 (i := 2) rfl
        have g3 := obj_cell j2 (i := 3) rfl
        have g4 := obj_cell j2 (i := 4) rfl
        cases hs : sameU x y
        · rw [hs] at HS
          have hno := Lib.hid (HNo.out hs)
          go_wp2_with fail
          refine HS.mono ?_; rintro e w3 ⟨rfl, hb3⟩
          go_wp2_with fail
          go_ret
          exact ⟨by rw [hno.out]; rfl, hB2.out.trans (hb3.mono hB2.out.size)⟩
        · rw [hs] at HS
          have hgood := Lib.hid (show ((A.zip B).take (k + 1)).all (fun p => sameU p.1 p.2) = true by rw [HT.out, List.all_append, hall.out]; simp [hs])
          go_wp2_with fail
          refine HS.mono ?_; rintro e w3 ⟨rfl, hb3⟩
          have HB3 := Lib.hid (hB2.out.trans (hb3.mono hB2.out.size))
          clear hb3
          go_wp2_with fail
          go_roundw
          case rel => exact ⟨k + 1, by omega, by simp, hgood, HB3⟩
          case measure => first | (simp [intOf]; done) | (simp [intOf]; omega)
      · obtain rfl : k = N := by omega
        have qk : ((k : Int) < (k : Int)) = False := eq_false (by omega)
        have hs := Lib.hid (allEq_yes HN.out.1 HN.out.2 hall.out)
        go_wp2_with fail
        go_ret
        exact ⟨by rw [hs.out]; rfl, HB.out⟩
  · have hb : (((A.length : Nat) : Int) != ((B.length : Nat) : Int)) = true := by simp; omega
    have hs := Lib.hid (allEq_len (f := sameU) hlen)
    clear hlen
    go_enter Tryd.func34, Tryd.ntmps34
    go_wp2_with fail
    go_ret
    exact ⟨by rw [hs.out]; rfl, Below.refl _ _⟩
set_option maxHeartbeats 4000000 in
theorem box_Same (a b c d a' b' c' d' : Value) (p q : Pr) (w : World) (h : PrAt w a b c d p) (g : PrAt w a' b' c' d' q) (hf : ∀ x ∈ p.units, x.code.length ≤ 1000000000) :
    Calls Tryd.prog 12 #[.agg #[a, b, c, d], .agg #[a', b', c', d']] w fun e w' => e = .returned (.bool (sameP p q)) ∧ Below w.heap.size w w' := by
  obtain ⟨s1, t1, rfl⟩ := row_get h.cs
  obtain ⟨s2, t2, rfl⟩ := row_get h.vs
  obtain ⟨s3, t3, rfl⟩ := row_get h.bs
  obtain ⟨s4, t4, rfl⟩ := row_get h.us
  obtain ⟨s1', t1', rfl⟩ := row_get g.cs
  obtain ⟨s2', t2', rfl⟩ := row_get g.vs
  obtain ⟨s3', t3', rfl⟩ := row_get g.bs
  obtain ⟨s4', t4', rfl⟩ := row_get g.us
  obtain ⟨W1, hW1⟩ : ∃ W1, W1 = (w.alloc (.cells #[.slice s1 p.consts.length t1, .slice s2 p.vars.length t2, .slice s3 p.blocks.length t3, .slice s4 p.units.length t4] 27)).alloc (.cells #[.slice s1' q.consts.length t1', .slice s2' q.vars.length t2', .slice s3' q.blocks.length t3', .slice s4' q.units.length t4'] 27) := ⟨_, rfl⟩
  have hb : Below w.heap.size w W1 := by rw [hW1]; exact by (repeat' (first | (with_reducible exact Below.refl _ _) | (with_reducible assumption) | (with_reducible refine below_drewN ?_ _) | (with_reducible refine Below.alloc ?_ ?_ _) | (with_reducible refine Below.drew ?_) | (with_reducible refine Below.setCell ?_ ?_ _) | go_size))
  have hz : W1.heap.size = w.heap.size + 2 := by rw [hW1]; simp
  have hj := Lib.hid (show W1.heap[w.heap.size]? = some (.cells #[.slice s1 p.consts.length t1, .slice s2 p.vars.length t2, .slice s3 p.blocks.length t3, .slice s4 p.units.length t4] 27) by rw [hW1]; exact (get_past (by simp)).trans (get_last rfl))
  have hj' := Lib.hid (show W1.heap[w.heap.size + 1]? = some (.cells #[.slice s1' q.consts.length t1', .slice s2' q.vars.length t2', .slice s3' q.blocks.length t3', .slice s4' q.units.length t4'] 27) by rw [hW1]; exact get_last (by simp))
  have HW1 := Lib.hid hW1
  have HB := Lib.hid hb
  have HD := Lib.hid (fun a b c d => sameP_at (p := p) (q := q) (a := a) (b := b) (c := c) (d := d))
  have H1 := Lib.hid (fun W (hw : Below w.heap.size w W) => (slices_ConstEq _ _ p.consts q.consts W (h.cs.below constR_stable hw) (g.cs.below constR_stable hw)).mono (R' := fun e w' => e = .returned (.bool (allEq eqC p.consts q.consts)) ∧ Below W.heap.size W w') (by rintro e w' ⟨rfl, m, rfl⟩; exact ⟨rfl, Below_drewN _ _ _⟩))
  have H2 := Lib.hid (fun W (hw : Below w.heap.size w W) => (slices_VarEq _ _ p.vars q.vars W (h.vs.below varR_stable hw) (g.vs.below varR_stable hw)).mono (R' := fun e w' => e = .returned (.bool (allEq eqV p.vars q.vars)) ∧ Below W.heap.size W w') (by rintro e w' ⟨rfl, m, rfl⟩; exact ⟨rfl, Below_drewN _ _ _⟩))
  have H3 := Lib.hid (fun W (hw : Below w.heap.size w W) => (slices_BlockEq _ _ p.blocks q.blocks W (h.bs.below blkR_stable hw) (g.bs.below blkR_stable hw)).mono (R' := fun e w' => e = .returned (.bool (allEq eqB p.blocks q.blocks)) ∧ Below W.heap.size W w') (by rintro e w' ⟨rfl, m, rfl⟩; exact ⟨rfl, Below_drewN _ _ _⟩))
  have H4 := Lib.hid (fun W (hw : Below w.heap.size w W) => units_EqualFunc _ _ p.units q.units W (h.us.below unitR_stable hw) (g.us.below unitR_stable hw) hf)
  clear hW1 hb h g hf
  have c0 := obj_cell (obj_lower hj.out (Below.refl W1.heap.size W1) (by omega)) (i := 0) rfl
  have e0 := obj_cell (obj_lower hj'.out (Below.refl W1.heap.size W1) (by omega)) (i := 0) rfl
  have c1 := obj_cell (obj_lower hj.out (Below.refl W1.heap.size W1) (by omega)) (i := 1) rfl
  have e1 := obj_cell (obj_lower hj'.out (Below.refl W1.heap.size W1) (by omega)) (i := 1) rfl
  have c2 := obj_cell (obj_lower hj.out (Below.refl W1.heap.size W1) (by omega)) (i := 2) rfl
  have e2 := obj_cell (obj_lower hj'.out (Below.refl W1.heap.size W1) (by omega)) (i := 2) rfl
  have c3 := obj_cell (obj_lower hj.out (Below.refl W1.heap.size W1) (by omega)) (i := 3) rfl
  have e3 := obj_cell (obj_lower hj'.out (Below.refl W1.heap.size W1) (by omega)) (i := 3) rfl
  obtain ⟨v1, q1⟩ : ∃ v, allEq eqC p.consts q.consts = v := ⟨_, rfl⟩
  obtain ⟨v2, q2⟩ : ∃ v, allEq eqV p.vars q.vars = v := ⟨_, rfl⟩
  obtain ⟨v3, q3⟩ : ∃ v, allEq eqB p.blocks q.blocks = v := ⟨_, rfl⟩
  obtain ⟨v4, q4⟩ : ∃ v, allEq sameU p.units q.units = v := ⟨_, rfl⟩
  have HE := Lib.hid (HD.out _ _ _ _ q1 q2 q3 q4)
  rw [q1] at H1
  rw [q2] at H2
  rw [q3] at H3
  rw [q4] at H4
  clear q1 q2 q3 q4 HD
  go_enter Tryd.func12, Tryd.ntmps12
  go_upto_region 1 with fail
  rw [← HW1.out]
  cases v1
  · go_wp2_with fail
    refine (H1.out _ HB.out).mono ?_; rintro e x1 ⟨rfl, hx1⟩
    go_wp2_with fail
    go_ret
    exact ⟨by rw [HE.out]; rfl, HB.out.trans (hx1.mono HB.out.size)⟩
  go_wp2_with fail
  refine (H1.out _ HB.out).mono ?_; rintro e x1 ⟨rfl, hx1⟩
  clear c0 e0 c1 e1 c2 e2 c3 e3
  have c0 := obj_cell (obj_lower hj.out hx1 (by omega)) (i := 0) rfl
  have e0 := obj_cell (obj_lower hj'.out hx1 (by omega)) (i := 0) rfl
  have c1 := obj_cell (obj_lower hj.out hx1 (by omega)) (i := 1) rfl
  have e1 := obj_cell (obj_lower hj'.out hx1 (by omega)) (i := 1) rfl
  have c2 := obj_cell (obj_lower hj.out hx1 (by omega)) (i := 2) rfl
  have e2 := obj_cell (obj_lower hj'.out hx1 (by omega)) (i := 2) rfl
  have c3 := obj_cell (obj_lower hj.out hx1 (by omega)) (i := 3) rfl
  have e3 := obj_cell (obj_lower hj'.out hx1 (by omega)) (i := 3) rfl
  have y1 := Lib.hid (HB.out.trans (hx1.mono HB.out.size))
  cases v2
  · go_wp2_with fail
    refine (H2.out _ y1.out).mono ?_; rintro e x2 ⟨rfl, hx2⟩
    go_wp2_with fail
    go_ret
    exact ⟨by rw [HE.out]; rfl, y1.out.trans (hx2.mono y1.out.size)⟩
  go_wp2_with fail
  refine (H2.out _ y1.out).mono ?_; rintro e x2 ⟨rfl, hx2'⟩
  have hx2 := hx1.trans (hx2'.mono hx1.size)
  clear c0 e0 c1 e1 c2 e2 c3 e3
  have c0 := obj_cell (obj_lower hj.out hx2 (by omega)) (i := 0) rfl
  have e0 := obj_cell (obj_lower hj'.out hx2 (by omega)) (i := 0) rfl
  have c1 := obj_cell (obj_lower hj.out hx2 (by omega)) (i := 1) rfl
  have e1 := obj_cell (obj_lower hj'.out hx2 (by omega)) (i := 1) rfl
  have c2 := obj_cell (obj_lower hj.out hx2 (by omega)) (i := 2) rfl
  have e2 := obj_cell (obj_lower hj'.out hx2 (by omega)) (i := 2) rfl
  have c3 := obj_cell (obj_lower hj.out hx2 (by omega)) (i := 3) rfl
  have e3 := obj_cell (obj_lower hj'.out hx2 (by omega)) (i := 3) rfl
  have y2 := Lib.hid (HB.out.trans (hx2.mono HB.out.size))
  cases v3
  · go_wp2_with fail
    refine (H3.out _ y2.out).mono ?_; rintro e x3 ⟨rfl, hx3⟩
    go_wp2_with fail
    go_ret
    exact ⟨by rw [HE.out]; rfl, y2.out.trans (hx3.mono y2.out.size)⟩
  go_wp2_with fail
  refine (H3.out _ y2.out).mono ?_; rintro e x3 ⟨rfl, hx3'⟩
  have hx3 := hx2.trans (hx3'.mono hx2.size)
  clear c0 e0 c1 e1 c2 e2 c3 e3
  have c0 := obj_cell (obj_lower hj.out hx3 (by omega)) (i := 0) rfl
  have e0 := obj_cell (obj_lower hj'.out hx3 (by omega)) (i := 0) rfl
  have c1 := obj_cell (obj_lower hj.out hx3 (by omega)) (i := 1) rfl
  have e1 := obj_cell (obj_lower hj'.out hx3 (by omega)) (i := 1) rfl
  have c2 := obj_cell (obj_lower hj.out hx3 (by omega)) (i := 2) rfl
  have e2 := obj_cell (obj_lower hj'.out hx3 (by omega)) (i := 2) rfl
  have c3 := obj_cell (obj_lower hj.out hx3 (by omega)) (i := 3) rfl
  have e3 := obj_cell (obj_lower hj'.out hx3 (by omega)) (i := 3) rfl
  have y3 := Lib.hid (HB.out.trans (hx3.mono HB.out.size))
  go_wp2_with fail
  refine (H4.out _ y3.out).mono ?_; rintro e x4 ⟨rfl, hx4⟩
  go_wp2_with fail
  go_ret
  exact ⟨by rw [HE.out]; rfl, y3.out.trans (hx4.mono y3.out.size)⟩
set_option maxRecDepth 100000 in
set_option maxHeartbeats 8000000 in
theorem ref16_Same (a b c d a' b' c' d' : Value) (p q : Pr) (w : World) (h : PrAt w a b c d p) (g : PrAt w a' b' c' d' q) (hf : ∀ x ∈ p.units, x.code.length ≤ 1000000000) :
    Calls Tryd.prog 13 #[.agg #[a, b, c, d], .agg #[a', b', c', d']] w fun e w' => e = .returned (.bool (sameP p q)) ∧ Below w.heap.size w w' := by
  have hul := h.us.len
  obtain ⟨s1, t1, rfl⟩ := row_get h.cs
  obtain ⟨s2, t2, rfl⟩ := row_get h.vs
  obtain ⟨s3, t3, rfl⟩ := row_get h.bs
  obtain ⟨s4, t4, rfl⟩ := row_get h.us
  obtain ⟨s1', t1', rfl⟩ := row_get g.cs
  obtain ⟨s2', t2', rfl⟩ := row_get g.vs
  obtain ⟨s3', t3', rfl⟩ := row_get g.bs
  obtain ⟨s4', t4', rfl⟩ := row_get g.us
  obtain ⟨W1, hW1⟩ : ∃ W1, W1 = (w.alloc (.cells #[.slice s1 p.consts.length t1, .slice s2 p.vars.length t2, .slice s3 p.blocks.length t3, .slice s4 p.units.length t4] 27)).alloc (.cells #[.slice s1' q.consts.length t1', .slice s2' q.vars.length t2', .slice s3' q.blocks.length t3', .slice s4' q.units.length t4'] 27) := ⟨_, rfl⟩
  have hb : Below w.heap.size w W1 := by rw [hW1]; exact by (repeat' (first | (with_reducible exact Below.refl _ _) | (with_reducible assumption) | (with_reducible refine below_drewN ?_ _) | (with_reducible refine Below.alloc ?_ ?_ _) | (with_reducible refine Below.drew ?_) | (with_reducible refine Below.setCell ?_ ?_ _) | go_size))
  have hz : W1.heap.size = w.heap.size + 2 := by rw [hW1]; simp
  have hj := Lib.hid (show W1.heap[w.heap.size]? = some (.cells #[.slice s1 p.consts.length t1, .slice s2 p.vars.length t2, .slice s3 p.blocks.length t3, .slice s4 p.units.length t4] 27) by rw [hW1]; exact (get_past (by simp)).trans (get_last rfl))
  have hj' := Lib.hid (show W1.heap[w.heap.size + 1]? = some (.cells #[.slice s1' q.consts.length t1', .slice s2' q.vars.length t2', .slice s3' q.blocks.length t3', .slice s4' q.units.length t4'] 27) by rw [hW1]; exact get_last (by simp))
  have HW1 := Lib.hid hW1
  have HB := Lib.hid hb
  have HD := Lib.hid (fun a b c d => sameP_at (p := p) (q := q) (a := a) (b := b) (c := c) (d := d))
  have H1 := Lib.hid (fun W (hw : Below w.heap.size w W) => (ref14_ConstsEq _ _ p.consts q.consts W (h.cs.below constR_stable hw) (g.cs.below constR_stable hw)).mono (R' := fun e w' => e = .returned (.bool (allEq eqC p.consts q.consts)) ∧ Below W.heap.size W w') (by rintro e w' ⟨rfl, m, rfl⟩; exact ⟨rfl, Below_drewN _ _ _⟩))
  have H2 := Lib.hid (fun W (hw : Below w.heap.size w W) => (ref14_VarsEq _ _ p.vars q.vars W (h.vs.below varR_stable hw) (g.vs.below varR_stable hw)).mono (R' := fun e w' => e = .returned (.bool (allEq eqV p.vars q.vars)) ∧ Below W.heap.size W w') (by rintro e w' ⟨rfl, m, rfl⟩; exact ⟨rfl, Below_drewN _ _ _⟩))
  have H3 := Lib.hid (fun W (hw : Below w.heap.size w W) => (ref14_BlocksEq _ _ p.blocks q.blocks W (h.bs.below blkR_stable hw) (g.bs.below blkR_stable hw)).mono (R' := fun e w' => e = .returned (.bool (allEq eqB p.blocks q.blocks)) ∧ Below W.heap.size W w') (by rintro e w' ⟨rfl, m, rfl⟩; exact ⟨rfl, Below_drewN _ _ _⟩))
  have hU := h.us
  have hV := g.us
  clear hW1 hb h g
  have c0 := obj_cell (obj_lower hj.out (Below.refl W1.heap.size W1) (by omega)) (i := 0) rfl
  have e0 := obj_cell (obj_lower hj'.out (Below.refl W1.heap.size W1) (by omega)) (i := 0) rfl
  have c1 := obj_cell (obj_lower hj.out (Below.refl W1.heap.size W1) (by omega)) (i := 1) rfl
  have e1 := obj_cell (obj_lower hj'.out (Below.refl W1.heap.size W1) (by omega)) (i := 1) rfl
  have c2 := obj_cell (obj_lower hj.out (Below.refl W1.heap.size W1) (by omega)) (i := 2) rfl
  have e2 := obj_cell (obj_lower hj'.out (Below.refl W1.heap.size W1) (by omega)) (i := 2) rfl
  have c3 := obj_cell (obj_lower hj.out (Below.refl W1.heap.size W1) (by omega)) (i := 3) rfl
  have e3 := obj_cell (obj_lower hj'.out (Below.refl W1.heap.size W1) (by omega)) (i := 3) rfl
  obtain ⟨v1, q1⟩ : ∃ v, allEq eqC p.consts q.consts = v := ⟨_, rfl⟩
  obtain ⟨v2, q2⟩ : ∃ v, allEq eqV p.vars q.vars = v := ⟨_, rfl⟩
  obtain ⟨v3, q3⟩ : ∃ v, allEq eqB p.blocks q.blocks = v := ⟨_, rfl⟩
  have HE := Lib.hid (fun d => HD.out _ _ _ d q1 q2 q3)
  rw [q1] at H1
  rw [q2] at H2
  rw [q3] at H3
  clear q1 q2 q3 HD
  go_enter Tryd.func13, Tryd.ntmps13
  go_upto_region 1 with fail
  rw [← HW1.out]
  cases v1
  · go_wp2_with fail
    refine (H1.out _ HB.out).mono ?_; rintro e x1 ⟨rfl, hx1⟩
    go_wp2_with fail
    go_ret
    exact ⟨by rw [HE.out _ rfl]; rfl, HB.out.trans (hx1.mono HB.out.size)⟩
  go_wp2_with fail
  refine (H1.out _ HB.out).mono ?_; rintro e x1 ⟨rfl, hx1⟩
  clear c0 e0 c1 e1 c2 e2 c3 e3
  have c0 := obj_cell (obj_lower hj.out hx1 (by omega)) (i := 0) rfl
  have e0 := obj_cell (obj_lower hj'.out hx1 (by omega)) (i := 0) rfl
  have c1 := obj_cell (obj_lower hj.out hx1 (by omega)) (i := 1) rfl
  have e1 := obj_cell (obj_lower hj'.out hx1 (by omega)) (i := 1) rfl
  have c2 := obj_cell (obj_lower hj.out hx1 (by omega)) (i := 2) rfl
  have e2 := obj_cell (obj_lower hj'.out hx1 (by omega)) (i := 2) rfl
  have c3 := obj_cell (obj_lower hj.out hx1 (by omega)) (i := 3) rfl
  have e3 := obj_cell (obj_lower hj'.out hx1 (by omega)) (i := 3) rfl
  have y1 := Lib.hid (HB.out.trans (hx1.mono HB.out.size))
  cases v2
  · go_wp2_with fail
    refine (H2.out _ y1.out).mono ?_; rintro e x2 ⟨rfl, hx2⟩
    go_wp2_with fail
    go_ret
    exact ⟨by rw [HE.out _ rfl]; rfl, y1.out.trans (hx2.mono y1.out.size)⟩
  go_wp2_with fail
  refine (H2.out _ y1.out).mono ?_; rintro e x2 ⟨rfl, hx2'⟩
  have hx2 := hx1.trans (hx2'.mono hx1.size)
  clear c0 e0 c1 e1 c2 e2 c3 e3
  have c0 := obj_cell (obj_lower hj.out hx2 (by omega)) (i := 0) rfl
  have e0 := obj_cell (obj_lower hj'.out hx2 (by omega)) (i := 0) rfl
  have c1 := obj_cell (obj_lower hj.out hx2 (by omega)) (i := 1) rfl
  have e1 := obj_cell (obj_lower hj'.out hx2 (by omega)) (i := 1) rfl
  have c2 := obj_cell (obj_lower hj.out hx2 (by omega)) (i := 2) rfl
  have e2 := obj_cell (obj_lower hj'.out hx2 (by omega)) (i := 2) rfl
  have c3 := obj_cell (obj_lower hj.out hx2 (by omega)) (i := 3) rfl
  have e3 := obj_cell (obj_lower hj'.out hx2 (by omega)) (i := 3) rfl
  have y2 := Lib.hid (HB.out.trans (hx2.mono HB.out.size))
  cases v3
  · go_wp2_with fail
    refine (H3.out _ y2.out).mono ?_; rintro e x3 ⟨rfl, hx3⟩
    go_wp2_with fail
    go_ret
    exact ⟨by rw [HE.out _ rfl]; rfl, y2.out.trans (hx3.mono y2.out.size)⟩
  go_wp2_with fail
  refine (H3.out _ y2.out).mono ?_; rintro e x3 ⟨rfl, hx3'⟩
  have hx3 := hx2.trans (hx3'.mono hx2.size)
  clear c0 e0 c1 e1 c2 e2 c3 e3
  have c0 := obj_cell (obj_lower hj.out hx3 (by omega)) (i := 0) rfl
  have e0 := obj_cell (obj_lower hj'.out hx3 (by omega)) (i := 0) rfl
  have c1 := obj_cell (obj_lower hj.out hx3 (by omega)) (i := 1) rfl
  have e1 := obj_cell (obj_lower hj'.out hx3 (by omega)) (i := 1) rfl
  have c2 := obj_cell (obj_lower hj.out hx3 (by omega)) (i := 2) rfl
  have e2 := obj_cell (obj_lower hj'.out hx3 (by omega)) (i := 2) rfl
  have c3 := obj_cell (obj_lower hj.out hx3 (by omega)) (i := 3) rfl
  have e3 := obj_cell (obj_lower hj'.out hx3 (by omega)) (i := 3) rfl
  have y3 := Lib.hid (HB.out.trans (hx3.mono HB.out.size))
  by_cases hlen : p.units.length = q.units.length
  rotate_left
  · have hbn : (((p.units.length : Nat) : Int) != ((q.units.length : Nat) : Int)) = true := by simp; omega
    have hno := Lib.hid (HE.out _ (allEq_len (f := sameU) hlen))
    clear hlen
    go_wp2_with fail
    go_ret
    exact ⟨by rw [hno.out]; rfl, y3.out⟩
  have hbn : (((p.units.length : Nat) : Int) != ((q.units.length : Nat) : Int)) = false := by rw [hlen]; simp
  obtain ⟨A, hA⟩ : ∃ A, p.units = A := ⟨_, rfl⟩
  obtain ⟨B, hB⟩ : ∃ B, q.units = B := ⟨_, rfl⟩
  rw [hA] at hU hul hj hlen hbn HE hf c3 ⊢
  rw [hB] at hV hj' hlen hbn HE e3 ⊢
  obtain ⟨N, hN⟩ : ∃ N, A.length = N := ⟨_, rfl⟩
  have hM : B.length = N := hlen.symm.trans hN
  have HN := Lib.hid (And.intro hN hM)
  rw [hN] at hU hul hj hbn c3 ⊢
  rw [hM] at hV hj' hbn e3 ⊢
  clear hlen hN hM hA hB
  have HJ := Lib.hid (fun W (hw : Below x3.heap.size x3 W) => obj_lower hj.out (hx3.trans (hw.mono hx3.size)) (by omega))
  have HJ' := Lib.hid (fun W (hw : Below x3.heap.size x3 W) => obj_lower hj'.out (hx3.trans (hw.mono hx3.size)) (by omega))
  have zx3 : w.heap.size + 2 ≤ x3.heap.size := by rw [← hz]; exact hx3.size
  clear hx1 hx2 hx2' hx3 hx3'
  go_wp2_with fail
  go_loopw [5] (fun jj wr => ∃ (k : Nat), k ≤ N ∧ jj = .int .i64 k ∧ Hid (((A.zip B).take k).all (fun p => sameU p.1 p.2) = true) ∧ Hid (Below x3.heap.size x3 wr)) (fun jj _ => N - (intOf jj).toNat)
  case atStart => exact ⟨0, by omega, rfl, Lib.hid (by simp), Lib.hid (Below.refl _ _)⟩
  case round =>
    clear c0 e0 c1 e1 c2 e2 c3 e3
    obtain ⟨k, hk, rfl, hall, HBr⟩ := hrel
    have c3 := obj_cell (HJ.out wr HBr.out) (i := 3) rfl
    have e3 := obj_cell (HJ'.out wr HBr.out) (i := 3) rfl
    have hzr := HBr.out.size
    have z1 : w.heap.size < wr.heap.size := by omega
    have z2 : w.heap.size + 1 < wr.heap.size := by omega
    have HBw := Lib.hid (y3.out.trans (HBr.out.mono y3.out.size))
    by_cases hlt : k < N
    · have qk : ((k : Int) < (N : Int)) = True := eq_true (by omega)
      obtain ⟨x, hx⟩ := get_some (L := A) (n := k) (by rw [HN.out.1]; exact hlt)
      obtain ⟨y, hy⟩ := get_some (L := B) (n := k) (by rw [HN.out.2]; exact hlt)
      obtain ⟨b1, o1, rfl, hb1, hc⟩ := unit_at hU (k := k) (by rw [HN.out.1]; exact hlt)
      obtain ⟨b2, o2, rfl, hb2, hd⟩ := unit_at hV (k := k) (by rw [HN.out.2]; exact hlt)
      obtain ⟨u1, u3, u4, d0, d1, d2, d3, d4, hUx⟩ := hc k x hx
      obtain ⟨w1, w3, w4, g0, g1, g2, g3, g4, hVy⟩ := hd k y hy
      have HNo := Lib.hid (fun h : sameU x y = false => allEq_no hx hy h)
      have HT := Lib.hid (take_snoc (zip_at hx hy))
      have hcl := hf x (List.mem_of_getElem? hx)
      obtain ⟨r1, m1, rfl⟩ := row_get hUx.ps
      obtain ⟨r3, m3, rfl⟩ := row_get hUx.ls
      obtain ⟨r4, m4, rfl⟩ := row_get hUx.cs
      obtain ⟨r1', m1', rfl⟩ := row_get hVy.ps
      obtain ⟨r3', m3', rfl⟩ := row_get hVy.ls
      obtain ⟨r4', m4', rfl⟩ := row_get hVy.cs
      have d0 := (HBw.out.cell (p := ⟨b1, o1 + k * 5, none⟩) hb1).trans d0
      have d1 := (HBw.out.cell (p := ⟨b1, o1 + k * 5 + 1, none⟩) hb1).trans d1
      have d2 := (HBw.out.cell (p := ⟨b1, o1 + k * 5 + 2, none⟩) hb1).trans d2
      have d3 := (HBw.out.cell (p := ⟨b1, o1 + k * 5 + 3, none⟩) hb1).trans d3
      have d4 := (HBw.out.cell (p := ⟨b1, o1 + k * 5 + 4, none⟩) hb1).trans d4
      have g0 := (HBw.out.cell (p := ⟨b2, o2 + k * 5, none⟩) hb2).trans g0
      have g1 := (HBw.out.cell (p := ⟨b2, o2 + k * 5 + 1, none⟩) hb2).trans g1
      have g2 := (HBw.out.cell (p := ⟨b2, o2 + k * 5 + 2, none⟩) hb2).trans g2
      have g3 := (HBw.out.cell (p := ⟨b2, o2 + k * 5 + 3, none⟩) hb2).trans g3
      have g4 := (HBw.out.cell (p := ⟨b2, o2 + k * 5 + 4, none⟩) hb2).trans g4
      have y1' : b1 < wr.heap.size := World.block_lt_of_cell? _ _ d0
      have y2' : b2 < wr.heap.size := World.block_lt_of_cell? _ _ g0
      clear y1 y2
      have y1 := y1'
      have y2 := y2'
      have HS := Lib.hid (fun W (hw : Below wr.heap.size wr W) => ref15_Same _ _ _ _ _ _ x y W (hUx.below (HBw.out.trans (hw.mono HBw.out.size))) (hVy.below (HBw.out.trans (hw.mono HBw.out.size))) hcl)
      clear hc hd hx hy hUx hVy hcl y1' y2'
      cases hs : sameU x y
      · rw [hs] at HS
        have hno := Lib.hid (HE.out _ (HNo.out hs))
        go_wp2_with fail
        refine wp_region_held_drew (S := (fun w' => Below wr.heap.size wr w')) (by kernel_rfl) ?_ (fun hHeld => ?_)
        · (try dsimp only); first | assumption | exact Below.alloc hHeld hHeld.size _ | exact (Below.refl _ _).drew | exact Below.drew (Below.refl _ _) | exact Below_drewN _ _ _ | exact Below.refl _ _ | (trace_state; fail)
        refine wpAnyH_take (i := 0) (oi := { dst := some 44, op := Op.fieldAddr 27 (Operand.tmp 2) 3, type := 0, pos := _, after := #[], guard := none }) (v := ?_) rfl (by kernel_rfl) (by kernel_rfl) (by kernel_rfl) (fun _ _ _ h => h) (Or.inl ⟨by rfl, ?_⟩) (by assumption) ?_
        rotate_left
        · intro wt hSw; (try dsimp only at hSw); have c3 := cellB hSw c3 z1; have e3 := cellB hSw e3 z2; have d0 := cellB hSw d0 y1; have d1 := cellB hSw d1 y1; have d2 := cellB hSw d2 y1; have d3 := cellB hSw d3 y1; have d4 := cellB hSw d4 y1; have g0 := cellB hSw g0 y2; have g1 := cellB hSw g1 y2; have g2 := cellB hSw g2 y2; have g3 := cellB hSw g3 y2; have g4 := cellB hSw g4 y2; first | (go_simp; done) | (go_simp; with_reducible rfl) | (trace_state; fail)
        try simp only [Act.put, List.setIfInBounds_toArray, List.set_cons_zero, List.set_cons_succ]
        refine wpAnyH_take (i := 1) (oi := { dst := some 45, op := Op.load 25 (Operand.tmp 44), type := 25, pos := _, after := #[{ on := 0, ground := Ground.data }], guard := none }) (v := ?_) rfl (by kernel_rfl) (by kernel_rfl) (by kernel_rfl) (fun _ _ _ h => h) (Or.inl ⟨by rfl, ?_⟩) (by assumption) ?_
        rotate_left
        · intro wt hSw; (try dsimp only at hSw); have c3 := cellB hSw c3 z1; have e3 := cellB hSw e3 z2; have d0 := cellB hSw d0 y1; have d1 := cellB hSw d1 y1; have d2 := cellB hSw d2 y1; have d3 := cellB hSw d3 y1; have d4 := cellB hSw d4 y1; have g0 := cellB hSw g0 y2; have g1 := cellB hSw g1 y2; have g2 := cellB hSw g2 y2; have g3 := cellB hSw g3 y2; have g4 := cellB hSw g4 y2; first | (go_simp; done) | (go_simp; with_reducible rfl) | (trace_state; fail)
        try simp only [Act.put, List.setIfInBounds_toArray, List.set_cons_zero, List.set_cons_succ]
        refine wpAnyH_take (i := 2) (oi := { dst := some 46, op := Op.move (Operand.tmp 5), type := 3, pos := _, after := #[], guard := none }) (v := ?_) rfl (by kernel_rfl) (by kernel_rfl) (by kernel_rfl) (fun _ _ _ h => h) (Or.inl ⟨by rfl, ?_⟩) (by assumption) ?_
        rotate_left
        · intro wt hSw; (try dsimp only at hSw); have c3 := cellB hSw c3 z1; have e3 := cellB hSw e3 z2; have d0 := cellB hSw d0 y1; have d1 := cellB hSw d1 y1; have d2 := cellB hSw d2 y1; have d3 := cellB hSw d3 y1; have d4 := cellB hSw d4 y1; have g0 := cellB hSw g0 y2; have g1 := cellB hSw g1 y2; have g2 := cellB hSw g2 y2; have g3 := cellB hSw g3 y2; have g4 := cellB hSw g4 y2; first | (go_simp; done) | (go_simp; with_reducible rfl) | (trace_state; fail)
        try simp only [Act.put, List.setIfInBounds_toArray, List.set_cons_zero, List.set_cons_succ]
        refine wpAnyH_take (i := 3) (oi := { dst := some 47, op := Op.indexAddr 25 (Operand.tmp 45) (Operand.tmp 46), type := 0, pos := _, after := #[{ on := 1, ground := Ground.data }, { on := 2, ground := Ground.data }], guard := none }) (v := ?_) rfl (by kernel_rfl) (by kernel_rfl) (by kernel_rfl) (fun _ _ _ h => h) (Or.inl ⟨by rfl, ?_⟩) (by assumption) ?_
        rotate_left
        · intro wt hSw; (try dsimp only at hSw); have c3 := cellB hSw c3 z1; have e3 := cellB hSw e3 z2; have d0 := cellB hSw d0 y1; have d1 := cellB hSw d1 y1; have d2 := cellB hSw d2 y1; have d3 := cellB hSw d3 y1; have d4 := cellB hSw d4 y1; have g0 := cellB hSw g0 y2; have g1 := cellB hSw g1 y2; have g2 := cellB hSw g2 y2; have g3 := cellB hSw g3 y2; have g4 := cellB hSw g4 y2; first | (go_simp; done) | (go_simp; with_reducible rfl) | (trace_state; fail)
        try simp only [Act.put, List.setIfInBounds_toArray, List.set_cons_zero, List.set_cons_succ]
        refine wpAnyH_take (i := 4) (oi := { dst := some 48, op := Op.load 48 (Operand.tmp 47), type := 48, pos := _, after := #[{ on := 3, ground := Ground.data }], guard := none }) (v := ?_) rfl (by kernel_rfl) (by kernel_rfl) (by kernel_rfl) (fun _ _ _ h => h) (Or.inl ⟨by rfl, ?_⟩) (by assumption) ?_
        rotate_left
        · intro wt hSw; (try dsimp only at hSw); have c3 := cellB hSw c3 z1; have e3 := cellB hSw e3 z2; have d0 := cellB hSw d0 y1; have d1 := cellB hSw d1 y1; have d2 := cellB hSw d2 y1; have d3 := cellB hSw d3 y1; have d4 := cellB hSw d4 y1; have g0 := cellB hSw g0 y2; have g1 := cellB hSw g1 y2; have g2 := cellB hSw g2 y2; have g3 := cellB hSw g3 y2; have g4 := cellB hSw g4 y2; first | (go_simp; done) | (go_simp; with_reducible rfl) | (trace_state; fail)
        try simp only [Act.put, List.setIfInBounds_toArray, List.set_cons_zero, List.set_cons_succ]
        refine wpAnyH_take (i := 5) (oi := { dst := some 49, op := Op.fieldAddr 27 (Operand.tmp 3) 3, type := 0, pos := _, after := #[], guard := none }) (v := ?_) rfl (by kernel_rfl) (by kernel_rfl) (by kernel_rfl) (fun _ _ _ h => h) (Or.inl ⟨by rfl, ?_⟩) (by assumption) ?_
        rotate_left
        · intro wt hSw; (try dsimp only at hSw); have c3 := cellB hSw c3 z1; have e3 := cellB hSw e3 z2; have d0 := cellB hSw d0 y1; have d1 := cellB hSw d1 y1; have d2 := cellB hSw d2 y1; have d3 := cellB hSw d3 y1; have d4 := cellB hSw d4 y1; have g0 := cellB hSw g0 y2; have g1 := cellB hSw g1 y2; have g2 := cellB hSw g2 y2; have g3 := cellB hSw g3 y2; have g4 := cellB hSw g4 y2; first | (go_simp; done) | (go_simp; with_reducible rfl) | (trace_state; fail)
        try simp only [Act.put, List.setIfInBounds_toArray, List.set_cons_zero, List.set_cons_succ]
        refine wpAnyH_take (i := 6) (oi := { dst := some 50, op := Op.load 25 (Operand.tmp 49), type := 25, pos := _, after := #[{ on := 5, ground := Ground.data }], guard := none }) (v := ?_) rfl (by kernel_rfl) (by kernel_rfl) (by kernel_rfl) (fun _ _ _ h => h) (Or.inl ⟨by rfl, ?_⟩) (by assumption) ?_
        rotate_left
        · intro wt hSw; (try dsimp only at hSw); have c3 := cellB hSw c3 z1; have e3 := cellB hSw e3 z2; have d0 := cellB hSw d0 y1; have d1 := cellB hSw d1 y1; have d2 := cellB hSw d2 y1; have d3 := cellB hSw d3 y1; have d4 := cellB hSw d4 y1; have g0 := cellB hSw g0 y2; have g1 := cellB hSw g1 y2; have g2 := cellB hSw g2 y2; have g3 := cellB hSw g3 y2; have g4 := cellB hSw g4 y2; first | (go_simp; done) | (go_simp; with_reducible rfl) | (trace_state; fail)
        try simp only [Act.put, List.setIfInBounds_toArray, List.set_cons_zero, List.set_cons_succ]
        refine wpAnyH_take (i := 7) (oi := { dst := some 51, op := Op.move (Operand.tmp 5), type := 3, pos := _, after := #[], guard := none }) (v := ?_) rfl (by kernel_rfl) (by kernel_rfl) (by kernel_rfl) (fun _ _ _ h => h) (Or.inl ⟨by rfl, ?_⟩) (by assumption) ?_
        rotate_left
        · intro wt hSw; (try dsimp only at hSw); have c3 := cellB hSw c3 z1; have e3 := cellB hSw e3 z2; have d0 := cellB hSw d0 y1; have d1 := cellB hSw d1 y1; have d2 := cellB hSw d2 y1; have d3 := cellB hSw d3 y1; have d4 := cellB hSw d4 y1; have g0 := cellB hSw g0 y2; have g1 := cellB hSw g1 y2; have g2 := cellB hSw g2 y2; have g3 := cellB hSw g3 y2; have g4 := cellB hSw g4 y2; first | (go_simp; done) | (go_simp; with_reducible rfl) | (trace_state; fail)
        try simp only [Act.put, List.setIfInBounds_toArray, List.set_cons_zero, List.set_cons_succ]
        refine wpAnyH_take (i := 8) (oi := { dst := some 52, op := Op.indexAddr 25 (Operand.tmp 50) (Operand.tmp 51), type := 0, pos := _, after := #[{ on := 6, ground := Ground.data }, { on := 7, ground := Ground.data }], guard := none }) (v := ?_) rfl (by kernel_rfl) (by kernel_rfl) (by kernel_rfl) (fun _ _ _ h => h) (Or.inl ⟨by rfl, ?_⟩) (by assumption) ?_
        rotate_left
        · intro wt hSw; (try dsimp only at hSw); have c3 := cellB hSw c3 z1; have e3 := cellB hSw e3 z2; have d0 := cellB hSw d0 y1; have d1 := cellB hSw d1 y1; have d2 := cellB hSw d2 y1; have d3 := cellB hSw d3 y1; have d4 := cellB hSw d4 y1; have g0 := cellB hSw g0 y2; have g1 := cellB hSw g1 y2; have g2 := cellB hSw g2 y2; have g3 := cellB hSw g3 y2; have g4 := cellB hSw g4 y2; first | (go_simp; done) | (go_simp; with_reducible rfl) | (trace_state; fail)
        try simp only [Act.put, List.setIfInBounds_toArray, List.set_cons_zero, List.set_cons_succ]
        refine wpAnyH_take (i := 9) (oi := { dst := some 53, op := Op.load 48 (Operand.tmp 52), type := 48, pos := _, after := #[{ on := 8, ground := Ground.data }], guard := none }) (v := ?_) rfl (by kernel_rfl) (by kernel_rfl) (by kernel_rfl) (fun _ _ _ h => h) (Or.inl ⟨by rfl, ?_⟩) (by assumption) ?_
        rotate_left
        · intro wt hSw; (try dsimp only at hSw); have c3 := cellB hSw c3 z1; have e3 := cellB hSw e3 z2; have d0 := cellB hSw d0 y1; have d1 := cellB hSw d1 y1; have d2 := cellB hSw d2 y1; have d3 := cellB hSw d3 y1; have d4 := cellB hSw d4 y1; have g0 := cellB hSw g0 y2; have g1 := cellB hSw g1 y2; have g2 := cellB hSw g2 y2; have g3 := cellB hSw g3 y2; have g4 := cellB hSw g4 y2; first | (go_simp; done) | (go_simp; with_reducible rfl) | (trace_state; fail)
        try simp only [Act.put, List.setIfInBounds_toArray, List.set_cons_zero, List.set_cons_succ]
        refine wpAnyH_ready (rs := [10]) (by kernel_rfl) (by simp) ?_
        refine AllReadyH.cons (o := { dst := some 54, op := Op.call { callee := Callee.value (Operand.func 39), args := #[Operand.tmp 48, Operand.tmp 53], argTypes := #[48, 48] }, type := 4, pos := _, after := #[{ on := 4, ground := Ground.data }, { on := 9, ground := Ground.data }], guard := none }) rfl (fun K hK => ?_) AllReadyH.nil
        go_simp
        refine (HS.out _ hHeld).mono ?_; rintro e v1 ⟨rfl, hb⟩; have hHeld := hHeld.trans (hb.mono hHeld.size)
        go_wp2_with fail
        refine hK.out _ _ ?_ (fun hHeld => ?_)
        · (try dsimp only); first | assumption | exact Below.alloc hHeld hHeld.size _ | exact (Below.refl _ _).drew | exact Below.drew (Below.refl _ _) | exact Below_drewN _ _ _ | exact Below.refl _ _ | (trace_state; fail)
        clear hK K
        try simp only [Act.put, List.setIfInBounds_toArray, List.set_cons_zero, List.set_cons_succ]
        refine wpAnyH_take (i := 11) (oi := { dst := some 55, op := Op.unOp UnOp.not 4 (Operand.tmp 54), type := 4, pos := _, after := #[{ on := 10, ground := Ground.data }], guard := none }) (v := ?_) rfl (by kernel_rfl) (by kernel_rfl) (by kernel_rfl) (fun _ _ _ h => h) (Or.inl ⟨by rfl, ?_⟩) (by assumption) ?_
        rotate_left
        · intro wt hSw; (try dsimp only at hSw); have c3 := cellB hSw c3 z1; have e3 := cellB hSw e3 z2; have d0 := cellB hSw d0 y1; have d1 := cellB hSw d1 y1; have d2 := cellB hSw d2 y1; have d3 := cellB hSw d3 y1; have d4 := cellB hSw d4 y1; have g0 := cellB hSw g0 y2; have g1 := cellB hSw g1 y2; have g2 := cellB hSw g2 y2; have g3 := cellB hSw g3 y2; have g4 := cellB hSw g4 y2; first | (go_simp; done) | (go_simp; with_reducible rfl) | (trace_state; fail)
        try simp only [Act.put, List.setIfInBounds_toArray, List.set_cons_zero, List.set_cons_succ]
        refine wpAnyH_done (by kernel_rfl) ?_ _
        go_wp2_with fail
        go_ret
        exact ⟨by rw [hno.out]; rfl, HBw.out.trans (hHeld.mono HBw.out.size)⟩
      · rw [hs] at HS
        have hgood := Lib.hid (show ((A.zip B).take (k + 1)).all (fun p => sameU p.1 p.2) = true by rw [HT.out, List.all_append, hall.out]; simp [hs])
        go_wp2_with fail
        refine wp_region_held_drew (S := (fun w' => Below wr.heap.size wr w')) (by kernel_rfl) ?_ (fun hHeld => ?_)
        · (try dsimp only); first | assumption | exact Below.alloc hHeld hHeld.size _ | exact (Below.refl _ _).drew | exact Below.drew (Below.refl _ _) | exact Below_drewN _ _ _ | exact Below.refl _ _ | (trace_state; fail)
        refine wpAnyH_take (i := 0) (oi := { dst := some 44, op := Op.fieldAddr 27 (Operand.tmp 2) 3, type := 0, pos := _, after := #[], guard := none }) (v := ?_) rfl (by kernel_rfl) (by kernel_rfl) (by kernel_rfl) (fun _ _ _ h => h) (Or.inl ⟨by rfl, ?_⟩) (by assumption) ?_
        rotate_left
        · intro wt hSw; (try dsimp only at hSw); have c3 := cellB hSw c3 z1; have e3 := cellB hSw e3 z2; have d0 := cellB hSw d0 y1; have d1 := cellB hSw d1 y1; have d2 := cellB hSw d2 y1; have d3 := cellB hSw d3 y1; have d4 := cellB hSw d4 y1; have g0 := cellB hSw g0 y2; have g1 := cellB hSw g1 y2; have g2 := cellB hSw g2 y2; have g3 := cellB hSw g3 y2; have g4 := cellB hSw g4 y2; first | (go_simp; done) | (go_simp; with_reducible rfl) | (trace_state; fail)
        try simp only [Act.put, List.setIfInBounds_toArray, List.set_cons_zero, List.set_cons_succ]
        refine wpAnyH_take (i := 1) (oi := { dst := some 45, op := Op.load 25 (Operand.tmp 44), type := 25, pos := _, after := #[{ on := 0, ground := Ground.data }], guard := none }) (v := ?_) rfl (by kernel_rfl) (by kernel_rfl) (by kernel_rfl) (fun _ _ _ h => h) (Or.inl ⟨by rfl, ?_⟩) (by assumption) ?_
        rotate_left
        · intro wt hSw; (try dsimp only at hSw); have c3 := cellB hSw c3 z1; have e3 := cellB hSw e3 z2; have d0 := cellB hSw d0 y1; have d1 := cellB hSw d1 y1; have d2 := cellB hSw d2 y1; have d3 := cellB hSw d3 y1; have d4 := cellB hSw d4 y1; have g0 := cellB hSw g0 y2; have g1 := cellB hSw g1 y2; have g2 := cellB hSw g2 y2; have g3 := cellB hSw g3 y2; have g4 := cellB hSw g4 y2; first | (go_simp; done) | (go_simp; with_reducible rfl) | (trace_state; fail)
        try simp only [Act.put, List.setIfInBounds_toArray, List.set_cons_zero, List.set_cons_succ]
        refine wpAnyH_take (i := 2) (oi := { dst := some 46, op := Op.move (Operand.tmp 5), type := 3, pos := _, after := #[], guard := none }) (v := ?_) rfl (by kernel_rfl) (by kernel_rfl) (by kernel_rfl) (fun _ _ _ h => h) (Or.inl ⟨by rfl, ?_⟩) (by assumption) ?_
        rotate_left
        · intro wt hSw; (try dsimp only at hSw); have c3 := cellB hSw c3 z1; have e3 := cellB hSw e3 z2; have d0 := cellB hSw d0 y1; have d1 := cellB hSw d1 y1; have d2 := cellB hSw d2 y1; have d3 := cellB hSw d3 y1; have d4 := cellB hSw d4 y1; have g0 := cellB hSw g0 y2; have g1 := cellB hSw g1 y2; have g2 := cellB hSw g2 y2; have g3 := cellB hSw g3 y2; have g4 := cellB hSw g4 y2; first | (go_simp; done) | (go_simp; with_reducible rfl) | (trace_state; fail)
        try simp only [Act.put, List.setIfInBounds_toArray, List.set_cons_zero, List.set_cons_succ]
        refine wpAnyH_take (i := 3) (oi := { dst := some 47, op := Op.indexAddr 25 (Operand.tmp 45) (Operand.tmp 46), type := 0, pos := _, after := #[{ on := 1, ground := Ground.data }, { on := 2, ground := Ground.data }], guard := none }) (v := ?_) rfl (by kernel_rfl) (by kernel_rfl) (by kernel_rfl) (fun _ _ _ h => h) (Or.inl ⟨by rfl, ?_⟩) (by assumption) ?_
        rotate_left
        · intro wt hSw; (try dsimp only at hSw); have c3 := cellB hSw c3 z1; have e3 := cellB hSw e3 z2; have d0 := cellB hSw d0 y1; have d1 := cellB hSw d1 y1; have d2 := cellB hSw d2 y1; have d3 := cellB hSw d3 y1; have d4 := cellB hSw d4 y1; have g0 := cellB hSw g0 y2; have g1 := cellB hSw g1 y2; have g2 := cellB hSw g2 y2; have g3 := cellB hSw g3 y2; have g4 := cellB hSw g4 y2; first | (go_simp; done) | (go_simp; with_reducible rfl) | (trace_state; fail)
        try simp only [Act.put, List.setIfInBounds_toArray, List.set_cons_zero, List.set_cons_succ]
        refine wpAnyH_take (i := 4) (oi := { dst := some 48, op := Op.load 48 (Operand.tmp 47), type := 48, pos := _, after := #[{ on := 3, ground := Ground.data }], guard := none }) (v := ?_) rfl (by kernel_rfl) (by kernel_rfl) (by kernel_rfl) (fun _ _ _ h => h) (Or.inl ⟨by rfl, ?_⟩) (by assumption) ?_
        rotate_left
        · intro wt hSw; (try dsimp only at hSw); have c3 := cellB hSw c3 z1; have e3 := cellB hSw e3 z2; have d0 := cellB hSw d0 y1; have d1 := cellB hSw d1 y1; have d2 := cellB hSw d2 y1; have d3 := cellB hSw d3 y1; have d4 := cellB hSw d4 y1; have g0 := cellB hSw g0 y2; have g1 := cellB hSw g1 y2; have g2 := cellB hSw g2 y2; have g3 := cellB hSw g3 y2; have g4 := cellB hSw g4 y2; first | (go_simp; done) | (go_simp; with_reducible rfl) | (trace_state; fail)
        try simp only [Act.put, List.setIfInBounds_toArray, List.set_cons_zero, List.set_cons_succ]
        refine wpAnyH_take (i := 5) (oi := { dst := some 49, op := Op.fieldAddr 27 (Operand.tmp 3) 3, type := 0, pos := _, after := #[], guard := none }) (v := ?_) rfl (by kernel_rfl) (by kernel_rfl) (by kernel_rfl) (fun _ _ _ h => h) (Or.inl ⟨by rfl, ?_⟩) (by assumption) ?_
        rotate_left
        · intro wt hSw; (try dsimp only at hSw); have c3 := cellB hSw c3 z1; have e3 := cellB hSw e3 z2; have d0 := cellB hSw d0 y1; have d1 := cellB hSw d1 y1; have d2 := cellB hSw d2 y1; have d3 := cellB hSw d3 y1; have d4 := cellB hSw d4 y1; have g0 := cellB hSw g0 y2; have g1 := cellB hSw g1 y2; have g2 := cellB hSw g2 y2; have g3 := cellB hSw g3 y2; have g4 := cellB hSw g4 y2; first | (go_simp; done) | (go_simp; with_reducible rfl) | (trace_state; fail)
        try simp only [Act.put, List.setIfInBounds_toArray, List.set_cons_zero, List.set_cons_succ]
        refine wpAnyH_take (i := 6) (oi := { dst := some 50, op := Op.load 25 (Operand.tmp 49), type := 25, pos := _, after := #[{ on := 5, ground := Ground.data }], guard := none }) (v := ?_) rfl (by kernel_rfl) (by kernel_rfl) (by kernel_rfl) (fun _ _ _ h => h) (Or.inl ⟨by rfl, ?_⟩) (by assumption) ?_
        rotate_left
        · intro wt hSw; (try dsimp only at hSw); have c3 := cellB hSw c3 z1; have e3 := cellB hSw e3 z2; have d0 := cellB hSw d0 y1; have d1 := cellB hSw d1 y1; have d2 := cellB hSw d2 y1; have d3 := cellB hSw d3 y1; have d4 := cellB hSw d4 y1; have g0 := cellB hSw g0 y2; have g1 := cellB hSw g1 y2; have g2 := cellB hSw g2 y2; have g3 := cellB hSw g3 y2; have g4 := cellB hSw g4 y2; first | (go_simp; done) | (go_simp; with_reducible rfl) | (trace_state; fail)
        try simp only [Act.put, List.setIfInBounds_toArray, List.set_cons_zero, List.set_cons_succ]
        refine wpAnyH_take (i := 7) (oi := { dst := some 51, op := Op.move (Operand.tmp 5), type := 3, pos := _, after := #[], guard := none }) (v := ?_) rfl (by kernel_rfl) (by kernel_rfl) (by kernel_rfl) (fun _ _ _ h => h) (Or.inl ⟨by rfl, ?_⟩) (by assumption) ?_
        rotate_left
        · intro wt hSw; (try dsimp only at hSw); have c3 := cellB hSw c3 z1; have e3 := cellB hSw e3 z2; have d0 := cellB hSw d0 y1; have d1 := cellB hSw d1 y1; have d2 := cellB hSw d2 y1; have d3 := cellB hSw d3 y1; have d4 := cellB hSw d4 y1; have g0 := cellB hSw g0 y2; have g1 := cellB hSw g1 y2; have g2 := cellB hSw g2 y2; have g3 := cellB hSw g3 y2; have g4 := cellB hSw g4 y2; first | (go_simp; done) | (go_simp; with_reducible rfl) | (trace_state; fail)
        try simp only [Act.put, List.setIfInBounds_toArray, List.set_cons_zero, List.set_cons_succ]
        refine wpAnyH_take (i := 8) (oi := { dst := some 52, op := Op.indexAddr 25 (Operand.tmp 50) (Operand.tmp 51), type := 0, pos := _, after := #[{ on := 6, ground := Ground.data }, { on := 7, ground := Ground.data }], guard := none }) (v := ?_) rfl (by kernel_rfl) (by kernel_rfl) (by kernel_rfl) (fun _ _ _ h => h) (Or.inl ⟨by rfl, ?_⟩) (by assumption) ?_
        rotate_left
        · intro wt hSw; (try dsimp only at hSw); have c3 := cellB hSw c3 z1; have e3 := cellB hSw e3 z2; have d0 := cellB hSw d0 y1; have d1 := cellB hSw d1 y1; have d2 := cellB hSw d2 y1; have d3 := cellB hSw d3 y1; have d4 := cellB hSw d4 y1; have g0 := cellB hSw g0 y2; have g1 := cellB hSw g1 y2; have g2 := cellB hSw g2 y2; have g3 := cellB hSw g3 y2; have g4 := cellB hSw g4 y2; first | (go_simp; done) | (go_simp; with_reducible rfl) | (trace_state; fail)
        try simp only [Act.put, List.setIfInBounds_toArray, List.set_cons_zero, List.set_cons_succ]
        refine wpAnyH_take (i := 9) (oi := { dst := some 53, op := Op.load 48 (Operand.tmp 52), type := 48, pos := _, after := #[{ on := 8, ground := Ground.data }], guard := none }) (v := ?_) rfl (by kernel_rfl) (by kernel_rfl) (by kernel_rfl) (fun _ _ _ h => h) (Or.inl ⟨by rfl, ?_⟩) (by assumption) ?_
        rotate_left
        · intro wt hSw; (try dsimp only at hSw); have c3 := cellB hSw c3 z1; have e3 := cellB hSw e3 z2; have d0 := cellB hSw d0 y1; have d1 := cellB hSw d1 y1; have d2 := cellB hSw d2 y1; have d3 := cellB hSw d3 y1; have d4 := cellB hSw d4 y1; have g0 := cellB hSw g0 y2; have g1 := cellB hSw g1 y2; have g2 := cellB hSw g2 y2; have g3 := cellB hSw g3 y2; have g4 := cellB hSw g4 y2; first | (go_simp; done) | (go_simp; with_reducible rfl) | (trace_state; fail)
        try simp only [Act.put, List.setIfInBounds_toArray, List.set_cons_zero, List.set_cons_succ]
        refine wpAnyH_ready (rs := [10]) (by kernel_rfl) (by simp) ?_
        refine AllReadyH.cons (o := { dst := some 54, op := Op.call { callee := Callee.value (Operand.func 39), args := #[Operand.tmp 48, Operand.tmp 53], argTypes := #[48, 48] }, type := 4, pos := _, after := #[{ on := 4, ground := Ground.data }, { on := 9, ground := Ground.data }], guard := none }) rfl (fun K hK => ?_) AllReadyH.nil
        go_simp
        refine (HS.out _ hHeld).mono ?_; rintro e v1 ⟨rfl, hb⟩; have hHeld := hHeld.trans (hb.mono hHeld.size)
        go_wp2_with fail
        refine hK.out _ _ ?_ (fun hHeld => ?_)
        · (try dsimp only); first | assumption | exact Below.alloc hHeld hHeld.size _ | exact (Below.refl _ _).drew | exact Below.drew (Below.refl _ _) | exact Below_drewN _ _ _ | exact Below.refl _ _ | (trace_state; fail)
        clear hK K
        try simp only [Act.put, List.setIfInBounds_toArray, List.set_cons_zero, List.set_cons_succ]
        refine wpAnyH_take (i := 11) (oi := { dst := some 55, op := Op.unOp UnOp.not 4 (Operand.tmp 54), type := 4, pos := _, after := #[{ on := 10, ground := Ground.data }], guard := none }) (v := ?_) rfl (by kernel_rfl) (by kernel_rfl) (by kernel_rfl) (fun _ _ _ h => h) (Or.inl ⟨by rfl, ?_⟩) (by assumption) ?_
        rotate_left
        · intro wt hSw; (try dsimp only at hSw); have c3 := cellB hSw c3 z1; have e3 := cellB hSw e3 z2; have d0 := cellB hSw d0 y1; have d1 := cellB hSw d1 y1; have d2 := cellB hSw d2 y1; have d3 := cellB hSw d3 y1; have d4 := cellB hSw d4 y1; have g0 := cellB hSw g0 y2; have g1 := cellB hSw g1 y2; have g2 := cellB hSw g2 y2; have g3 := cellB hSw g3 y2; have g4 := cellB hSw g4 y2; first | (go_simp; done) | (go_simp; with_reducible rfl) | (trace_state; fail)
        try simp only [Act.put, List.setIfInBounds_toArray, List.set_cons_zero, List.set_cons_succ]
        refine wpAnyH_done (by kernel_rfl) ?_ _
        have HB3 := Lib.hid (HBr.out.trans (hHeld.mono HBr.out.size))
        clear hHeld
        go_wp2_with fail
        go_roundw
        case rel => exact ⟨k + 1, by omega, by simp, hgood, HB3⟩
        case measure => first | (simp [intOf]; done) | (simp [intOf]; omega)
    · obtain rfl : k = N := by omega
      have qk : ((k : Int) < (k : Int)) = False := eq_false (by omega)
      have hs := Lib.hid (HE.out _ (allEq_yes HN.out.1 HN.out.2 hall.out))
      go_wp2_with fail
      go_ret
      exact ⟨by rw [hs.out]; rfl, HBw.out⟩
end Go.Proofs.YtjikkipdmonndaaDoor

/- Layer 16: the law's awake; parts of rows of bytes. -/
namespace Go.Proofs.YtjikkipdmonndaaDoor
open Go.RowKit
set_option linter.unusedSimpArgs false
set_option linter.unusedVariables false
theorem byte_sub {w : World} {b off cap : Nat} {l : List UInt8} (hb : b < w.heap.size) (hcap : l.length ≤ cap ∧ cap ≤ maxLen) (hc : ∀ i, i < l.length → w.cell? ⟨b, off + i, none⟩ = some (byteV l i)) {i j : Nat} (hij : i ≤ j) (hj : j ≤ l.length) :
    RowAt w (.slice (some ⟨b, off + i, none⟩) (j - i) (cap - i)) ((l.drop i).take (j - i)).length (byteV ((l.drop i).take (j - i))) := by
  have hlen : ((l.drop i).take (j - i)).length = j - i := by rw [List.length_take, List.length_drop]; omega
  rw [hlen]
  by_cases h0 : j - i = 0
  · rw [h0]; exact Or.inl ⟨_, _, rfl, rfl, fun h => by cases h⟩
  · refine Or.inr ⟨b, off + i, cap - i, rfl, by omega, by omega, by omega, hb, fun k hk => ?_⟩
    rw [Nat.add_assoc, hc (i + k) (by omega)]
    unfold byteV
    simp [List.getD, List.getElem?_take, hk]
theorem byte_part {w : World} {a : Option Addr} {n cap : Nat} {l : List UInt8} (h : RowAt w (.slice a n cap) l.length (byteV l)) (h0 : 0 < l.length) : ∃ b off, a = some ⟨b, off, none⟩ ∧ n = l.length ∧ b < w.heap.size ∧ (l.length ≤ cap ∧ cap ≤ maxLen) ∧ ∀ i, i < l.length → w.cell? ⟨b, off + i, none⟩ = some (byteV l i) := by
  rcases h with ⟨a', cap', h1, h2, _⟩ | ⟨b, off, cap', h1, h2, h3, h4, h5, h6⟩
  · omega
  · injection h1 with e1 e2 e3
    subst e1; subst e3
    exact ⟨b, off, rfl, e2, h5, ⟨h3, h4⟩, h6⟩
def emptyP : Pr := ⟨[], [], [], []⟩
set_option maxRecDepth 100000 in
set_option maxHeartbeats 4000000 in
theorem law16_awake (w : World) (hT : STab w) : Calls Tryd.prog 8 #[] w fun e w' => e = .returned (.bool true) ∧ Below w.heap.size w w' := by
  have hp : PrAt w (.slice none 0 0) (.slice none 0 0) (.slice none 0 0) (.slice none 0 0) emptyP := ⟨row_none, row_none, row_none, row_none⟩
  have hfit : fitP emptyP = true := by decide
  have hlen : (boxL emptyP).length = 35 := by unfold boxL; rw [List.length_append, putL_len]; rfl
  have htk : (boxL emptyP).take 4 = [76, 66, 75, 49] := by unfold boxL bodyL magicL; rfl
  have H := box_Encode _ _ _ _ emptyP w hT hp (by decide)
  unfold PutsP at H
  rw [hfit, hlen] at H
  have H := Lib.hid H
  have HT := Lib.hid htk
  have HL := Lib.hid hlen
  clear hfit hlen htk hp
  go_enter Tryd.func8, Tryd.ntmps8
  go_wp2_with fail
  refine H.out.mono ?_; rintro e W1 ⟨r, rfl, hr, _, hb⟩
  have hr := hr (by first | trivial | rfl)
  obtain ⟨g, cap, rfl, hc1, hc2, hc3⟩ := owns_slice hr (by omega)
  have hrow : RowAt W1 (.slice (some ⟨g, 0, none⟩) 35 cap) (boxL emptyP).length (byteV (boxL emptyP)) := bytes_at hr
  obtain ⟨b, off, e, _, hb1, hb2, hb3⟩ := byte_part hrow (by rw [HL.out]; omega)
  injection e with e
  injection e with e1 e2
  subst e1; subst e2
  have hs := byte_sub hb1 hb2 hb3 (i := 0) (j := 4) (by omega) (by rw [HL.out]; omega)
  rw [List.drop_zero, HT.out] at hs
  have hcv := conv_row (P := Tryd.prog) (src := 30) (dst := 9) Tryd.underlying30 Tryd.underlying5 Tryd.underlying9 hs
  simp only [Nat.sub_zero, Nat.zero_add, Nat.add_zero] at hcv
  clear hs hrow hr hb2 hb3
  go_wp2_with fail
  go_ret
  exact ⟨rfl, hb⟩
end Go.Proofs.YtjikkipdmonndaaDoor

/- Layer 16: the walk of BoxEncodes. -/
namespace Go.Proofs.YtjikkipdmonndaaDoor
open Go.RowKit
set_option linter.unusedSimpArgs false
set_option linter.unusedVariables false
def boxB (p : Pr) : List UInt8 := if fitP p = true then boxL p else []
theorem putsP_row {w w' : World} {p : Pr} {e : Ending} (h : PutsP w p e w') : ∃ r, e = .returned (.tuple #[r, .bool (fitP p)]) ∧ RowAt w' r (boxB p).length (byteV (boxB p)) ∧ Below w.heap.size w w' := by
  obtain ⟨r, h1, h2, h3, h4⟩ := h
  refine ⟨r, h1, ?_, h4⟩
  unfold boxB
  cases hf : fitP p
  · rw [h3 hf]
    exact Or.inl ⟨none, 0, rfl, rfl, fun _ => rfl⟩
  · exact bytes_at (h2 hf)
theorem box_Fits (vc vv vb vu : Value) (p : Pr) (w : World) (hT : STab w) (h : PrAt w vc vv vb vu p) (hf : fewP p = true) : Calls Tryd.prog 11 #[.agg #[vc, vv, vb, vu]] w fun e w' => e = .returned (.bool (fitP p)) ∧ Below w.heap.size w w' := by
  have hb0 : Below w.heap.size w (w.alloc (.cells #[vc, vv, vb, vu] 27)) := by (repeat' (first | (with_reducible exact Below.refl _ _) | (with_reducible assumption) | (with_reducible refine below_drewN ?_ _) | (with_reducible refine Below.alloc ?_ ?_ _) | (with_reducible refine Below.drew ?_) | (with_reducible refine Below.setCell ?_ ?_ _) | go_size))
  have HE := box_Encode vc vv vb vu p _ (hT.below hb0) (h.below hb0) hf
  obtain ⟨s1, t1, rfl⟩ := row_get h.cs
  obtain ⟨s2, t2, rfl⟩ := row_get h.vs
  obtain ⟨s3, t3, rfl⟩ := row_get h.bs
  obtain ⟨s4, t4, rfl⟩ := row_get h.us
  go_enter Tryd.func11, Tryd.ntmps11
  go_wp2_with fail
  refine HE.mono ?_
  intro e w1 hp
  obtain ⟨r, rfl, hr, hb1⟩ := putsP_row hp
  obtain ⟨a, c, rfl⟩ := box_form hr
  have HB := Lib.hid (hb0.trans (hb1.mono hb0.size))
  clear hp hr hb1
  go_wp2_with fail
  go_ret
  exact ⟨rfl, HB.out⟩
set_option maxRecDepth 100000 in
set_option maxHeartbeats 8000000 in
theorem boxEncodes_walk (a b c d a' b' c' d' : Value) (p q : Pr) (w : World) (h : PrAt w a b c d p) (g : PrAt w a' b' c' d' q) (hT : STab w) :
    Calls Tryd.prog 3 #[.agg #[a, b, c, d], .agg #[a', b', c', d']] w fun e w' => e = .returned (.bool true) ∧ Below w.heap.size w w' := by
  have HA := Lib.hid (fun W (hb : Below w.heap.size w W) => law16_awake W (hT.below hb))
  have HF := Lib.hid (fun W (hb : Below w.heap.size w W) => law16_Few a b c d p W (h.below hb))
  have HG := Lib.hid (fun W (hb : Below w.heap.size w W) => law16_Few a' b' c' d' q W (g.below hb))
  have hTT := Lib.hid hT
  have hP := Lib.hid h
  have hQ := Lib.hid g
  obtain ⟨s1, t1, rfl⟩ := row_get h.cs
  obtain ⟨s2, t2, rfl⟩ := row_get h.vs
  obtain ⟨s3, t3, rfl⟩ := row_get h.bs
  obtain ⟨s4, t4, rfl⟩ := row_get h.us
  obtain ⟨s1', t1', rfl⟩ := row_get g.cs
  obtain ⟨s2', t2', rfl⟩ := row_get g.vs
  obtain ⟨s3', t3', rfl⟩ := row_get g.bs
  obtain ⟨s4', t4', rfl⟩ := row_get g.us
  obtain ⟨W1, hW1⟩ : ∃ W1, W1 = (w.alloc (.cells #[.slice s1 p.consts.length t1, .slice s2 p.vars.length t2, .slice s3 p.blocks.length t3, .slice s4 p.units.length t4] 27)).alloc (.cells #[.slice s1' q.consts.length t1', .slice s2' q.vars.length t2', .slice s3' q.blocks.length t3', .slice s4' q.units.length t4'] 27) := ⟨_, rfl⟩
  have hb : Below w.heap.size w W1 := by rw [hW1]; exact by (repeat' (first | (with_reducible exact Below.refl _ _) | (with_reducible assumption) | (with_reducible refine below_drewN ?_ _) | (with_reducible refine Below.alloc ?_ ?_ _) | (with_reducible refine Below.drew ?_) | (with_reducible refine Below.setCell ?_ ?_ _) | go_size))
  have hz : W1.heap.size = w.heap.size + 2 := by rw [hW1]; simp
  have hj := Lib.hid (show W1.heap[w.heap.size]? = some (.cells #[.slice s1 p.consts.length t1, .slice s2 p.vars.length t2, .slice s3 p.blocks.length t3, .slice s4 p.units.length t4] 27) by rw [hW1]; exact (get_past (by simp)).trans (get_last rfl))
  have hj' := Lib.hid (show W1.heap[w.heap.size + 1]? = some (.cells #[.slice s1' q.consts.length t1', .slice s2' q.vars.length t2', .slice s3' q.blocks.length t3', .slice s4' q.units.length t4'] 27) by rw [hW1]; exact get_last (by simp))
  have HW1 := Lib.hid hW1
  have HB := Lib.hid hb
  clear hW1 hb h g hT
  have c0 := obj_cell (obj_lower hj.out (Below.refl W1.heap.size W1) (by omega)) (i := 0) rfl
  have e0 := obj_cell (obj_lower hj'.out (Below.refl W1.heap.size W1) (by omega)) (i := 0) rfl
  have c1 := obj_cell (obj_lower hj.out (Below.refl W1.heap.size W1) (by omega)) (i := 1) rfl
  have e1 := obj_cell (obj_lower hj'.out (Below.refl W1.heap.size W1) (by omega)) (i := 1) rfl
  have c2 := obj_cell (obj_lower hj.out (Below.refl W1.heap.size W1) (by omega)) (i := 2) rfl
  have e2 := obj_cell (obj_lower hj'.out (Below.refl W1.heap.size W1) (by omega)) (i := 2) rfl
  have c3 := obj_cell (obj_lower hj.out (Below.refl W1.heap.size W1) (by omega)) (i := 3) rfl
  have e3 := obj_cell (obj_lower hj'.out (Below.refl W1.heap.size W1) (by omega)) (i := 3) rfl
  cases hp : fewP p
  · rw [hp] at HF
    clear hp
    go_enter Tryd.func3, Tryd.ntmps3
    go_upto_region 1 with fail
    rw [← HW1.out]
    go_wp2_with fail
    refine (HF.out _ HB.out).mono ?_; rintro e w2 ⟨rfl, hb2⟩
    have HB2 := Lib.hid (HB.out.trans (hb2.mono HB.out.size))
    clear hb2
    go_wp2_with fail
    refine (HA.out _ HB2.out).mono ?_; rintro e w3 ⟨rfl, hb3⟩
    go_wp2_with fail
    go_ret
    exact ⟨rfl, HB2.out.trans (hb3.mono HB2.out.size)⟩
  rw [hp] at HF
  cases hq : fewP q
  · rw [hq] at HG
    clear hp hq
    go_enter Tryd.func3, Tryd.ntmps3
    go_upto_region 1 with fail
    rw [← HW1.out]
    go_wp2_with fail
    refine (HF.out _ HB.out).mono ?_; rintro e w2 ⟨rfl, hb2⟩
    have HB2 := Lib.hid (HB.out.trans (hb2.mono HB.out.size))
    clear c0 e0 c1 e1 c2 e2 c3 e3
    have c0 := obj_cell (obj_lower hj.out hb2 (by omega)) (i := 0) rfl
    have e0 := obj_cell (obj_lower hj'.out hb2 (by omega)) (i := 0) rfl
    have c1 := obj_cell (obj_lower hj.out hb2 (by omega)) (i := 1) rfl
    have e1 := obj_cell (obj_lower hj'.out hb2 (by omega)) (i := 1) rfl
    have c2 := obj_cell (obj_lower hj.out hb2 (by omega)) (i := 2) rfl
    have e2 := obj_cell (obj_lower hj'.out hb2 (by omega)) (i := 2) rfl
    have c3 := obj_cell (obj_lower hj.out hb2 (by omega)) (i := 3) rfl
    have e3 := obj_cell (obj_lower hj'.out hb2 (by omega)) (i := 3) rfl
    clear hb2
    go_wp2_with fail
    refine (HG.out _ HB2.out).mono ?_; rintro e w3 ⟨rfl, hb3⟩
    have HB3 := Lib.hid (HB2.out.trans (hb3.mono HB2.out.size))
    clear hb3
    go_wp2_with fail
    refine (HA.out _ HB3.out).mono ?_; rintro e w4 ⟨rfl, hb4⟩
    go_wp2_with fail
    go_ret
    exact ⟨rfl, HB3.out.trans (hb4.mono HB3.out.size)⟩
  rw [hq] at HG
  have hpc : ∀ x ∈ p.units, x.code.length ≤ 1000000000 := fun x hx => by
    have h1 := (fewP_parts hp).2.2.2 x hx
    have h2 : x.name.length ≤ 300 ∧ x.params.length ≤ 20 ∧ x.locals.length ≤ 1100 ∧ x.code.length ≤ 300 := of_decide_eq_true h1
    omega
  have HE := Lib.hid (fun W (hb : Below w.heap.size w W) => box_Encode _ _ _ _ p W (hTT.out.below hb) (hP.out.below hb) hp)
  have HR := Lib.hid (fun W (hb : Below w.heap.size w W) => ref16_Encode _ _ _ _ p W (hP.out.below hb) hp)
  have HFi := Lib.hid (fun W (hb : Below w.heap.size w W) => box_Fits _ _ _ _ p W (hTT.out.below hb) (hP.out.below hb) hp)
  have HSa := Lib.hid (fun W (hb : Below w.heap.size w W) => box_Same _ _ _ _ _ _ _ _ p q W (hP.out.below hb) (hQ.out.below hb) hpc)
  have HSs := Lib.hid (fun W (hb : Below w.heap.size w W) => box_Same _ _ _ _ _ _ _ _ p p W (hP.out.below hb) (hP.out.below hb) hpc)
  have HSb := Lib.hid (fun W (hb : Below w.heap.size w W) => ref16_Same _ _ _ _ _ _ _ _ p q W (hP.out.below hb) (hQ.out.below hb) hpc)
  have hself := sameP_self p
  clear hp hq hpc
  go_enter Tryd.func3, Tryd.ntmps3
  go_upto_region 1 with fail
  rw [← HW1.out]
  go_wp2_with fail
  refine (HF.out _ HB.out).mono ?_; rintro e w2 ⟨rfl, hb2⟩
  have HB2 := Lib.hid (HB.out.trans (hb2.mono HB.out.size))
  clear c0 e0 c1 e1 c2 e2 c3 e3
  have c0 := obj_cell (obj_lower hj.out hb2 (by omega)) (i := 0) rfl
  have e0 := obj_cell (obj_lower hj'.out hb2 (by omega)) (i := 0) rfl
  have c1 := obj_cell (obj_lower hj.out hb2 (by omega)) (i := 1) rfl
  have e1 := obj_cell (obj_lower hj'.out hb2 (by omega)) (i := 1) rfl
  have c2 := obj_cell (obj_lower hj.out hb2 (by omega)) (i := 2) rfl
  have e2 := obj_cell (obj_lower hj'.out hb2 (by omega)) (i := 2) rfl
  have c3 := obj_cell (obj_lower hj.out hb2 (by omega)) (i := 3) rfl
  have e3 := obj_cell (obj_lower hj'.out hb2 (by omega)) (i := 3) rfl
  go_wp2_with fail
  refine (HG.out _ HB2.out).mono ?_; rintro e w3 ⟨rfl, hb3⟩
  have hb13 := hb2.trans (hb3.mono hb2.size)
  have HB3 := Lib.hid (HB2.out.trans (hb3.mono HB2.out.size))
  clear c0 e0 c1 e1 c2 e2 c3 e3
  have c0 := obj_cell (obj_lower hj.out hb13 (by omega)) (i := 0) rfl
  have e0 := obj_cell (obj_lower hj'.out hb13 (by omega)) (i := 0) rfl
  have c1 := obj_cell (obj_lower hj.out hb13 (by omega)) (i := 1) rfl
  have e1 := obj_cell (obj_lower hj'.out hb13 (by omega)) (i := 1) rfl
  have c2 := obj_cell (obj_lower hj.out hb13 (by omega)) (i := 2) rfl
  have e2 := obj_cell (obj_lower hj'.out hb13 (by omega)) (i := 2) rfl
  have c3 := obj_cell (obj_lower hj.out hb13 (by omega)) (i := 3) rfl
  have e3 := obj_cell (obj_lower hj'.out hb13 (by omega)) (i := 3) rfl
  go_wp2_with fail
  refine (HE.out _ HB3.out).mono ?_; intro e x1 hE
  obtain ⟨r1, rfl, hr1, hx1⟩ := putsP_row hE
  have hb14 := hb13.trans (hx1.mono hb13.size)
  have HB4a := Lib.hid (HB3.out.trans (hx1.mono HB3.out.size))
  clear c0 e0 c1 e1 c2 e2 c3 e3
  have c0 := obj_cell (obj_lower hj.out hb14 (by omega)) (i := 0) rfl
  have e0 := obj_cell (obj_lower hj'.out hb14 (by omega)) (i := 0) rfl
  have c1 := obj_cell (obj_lower hj.out hb14 (by omega)) (i := 1) rfl
  have e1 := obj_cell (obj_lower hj'.out hb14 (by omega)) (i := 1) rfl
  have c2 := obj_cell (obj_lower hj.out hb14 (by omega)) (i := 2) rfl
  have e2 := obj_cell (obj_lower hj'.out hb14 (by omega)) (i := 2) rfl
  have c3 := obj_cell (obj_lower hj.out hb14 (by omega)) (i := 3) rfl
  have e3 := obj_cell (obj_lower hj'.out hb14 (by omega)) (i := 3) rfl
  obtain ⟨f1, k1, rfl⟩ := box_form hr1
  have HL1 := Lib.hid hr1
  clear hE hr1
  go_wp2_with fail
  refine (HR.out _ HB4a.out).mono ?_; intro e W4 hR
  obtain ⟨r2, rfl, hr2, hx2⟩ := putsP_row hR
  have hb15 := hb14.trans (hx2.mono hb14.size)
  have HB4 := Lib.hid (HB4a.out.trans (hx2.mono HB4a.out.size))
  clear c0 e0 c1 e1 c2 e2 c3 e3
  have c0 := obj_cell (obj_lower hj.out hb15 (by omega)) (i := 0) rfl
  have e0 := obj_cell (obj_lower hj'.out hb15 (by omega)) (i := 0) rfl
  have c1 := obj_cell (obj_lower hj.out hb15 (by omega)) (i := 1) rfl
  have e1 := obj_cell (obj_lower hj'.out hb15 (by omega)) (i := 1) rfl
  have c2 := obj_cell (obj_lower hj.out hb15 (by omega)) (i := 2) rfl
  have e2 := obj_cell (obj_lower hj'.out hb15 (by omega)) (i := 2) rfl
  have c3 := obj_cell (obj_lower hj.out hb15 (by omega)) (i := 3) rfl
  have e3 := obj_cell (obj_lower hj'.out hb15 (by omega)) (i := 3) rfl
  obtain ⟨f2, k2, rfl⟩ := box_form hr2
  have hr1 := HL1.out.below hx2
  have z1 : w.heap.size < W4.heap.size := World.block_lt_of_cell? _ _ c0
  have z2 : w.heap.size + 1 < W4.heap.size := World.block_lt_of_cell? _ _ e0
  obtain ⟨S, hS⟩ : ∃ S : ByteArray, S = ⟨(boxB p).toArray⟩ := ⟨_, rfl⟩
  have HCa := Lib.hid (fun W (hW : Below W4.heap.size W4 W) => (show (convert 30 9 (.slice f1 (boxB p).length k1)).run Tryd.prog W = .ok (.string S) W by rw [hS]; exact conv_row Tryd.underlying30 Tryd.underlying5 Tryd.underlying9 (hr1.below hW)))
  have HCb := Lib.hid (fun W (hW : Below W4.heap.size W4 W) => (show (convert 30 9 (.slice f2 (boxB p).length k2)).run Tryd.prog W = .ok (.string S) W by rw [hS]; exact conv_row Tryd.underlying30 Tryd.underlying5 Tryd.underlying9 (hr2.below hW)))
  obtain ⟨fp, hfp⟩ : ∃ x, fitP p = x := ⟨_, rfl⟩
  obtain ⟨sq, hsq⟩ : ∃ x, sameP p q = x := ⟨_, rfl⟩
  rw [hfp] at HFi ⊢
  rw [hsq] at HSa HSb
  clear hR hr1 hr2 HL1 hS hfp hsq hb2 hb3 hb13 hb14 hb15 hx1 hx2 HE HR HF HG
  go_upto_region 5 with fail
  refine wp_region_held_drew (S := (fun w' => Below W4.heap.size W4 w')) (by kernel_rfl) ?_ (fun hHeld => ?_)
  · (try dsimp only); first | assumption | exact Below.alloc hHeld hHeld.size _ | exact (Below.refl _ _).drew | exact Below.drew (Below.refl _ _) | exact Below_drewN _ _ _ | exact Below.refl _ _ | (trace_state; fail)
  refine wpAnyH_take (i := 0) (oi := { dst := some 28, op := Op.move (Operand.tmp 5), type := 30, pos := _, after := #[], guard := none }) (v := ?_) rfl (by kernel_rfl) (by kernel_rfl) (by kernel_rfl) (fun _ _ _ h => h) (Or.inl ⟨by rfl, ?_⟩) (by assumption) ?_
  rotate_left
  · intro wt hSw; (try dsimp only at hSw); have c0 := cellB hSw c0 z1; have c1 := cellB hSw c1 z1; have c2 := cellB hSw c2 z1; have c3 := cellB hSw c3 z1; have e0 := cellB hSw e0 z2; have e1 := cellB hSw e1 z2; have e2 := cellB hSw e2 z2; have e3 := cellB hSw e3 z2; first | (go_simp; done) | (go_simp; with_reducible rfl) | (trace_state; fail)
  try simp only [Act.put, List.setIfInBounds_toArray, List.set_cons_zero, List.set_cons_succ]
  refine wpAnyH_take (i := 1) (oi := { dst := some 29, op := Op.convert 30 9 (Operand.tmp 28), type := 9, pos := _, after := #[{ on := 0, ground := Ground.data }], guard := none }) (v := ?_) rfl (by kernel_rfl) (by kernel_rfl) (by kernel_rfl) (fun _ _ _ h => h) (Or.inl ⟨by rfl, ?_⟩) (by assumption) ?_
  rotate_left
  · intro wt hSw; (try dsimp only at hSw); have hcv := HCa.out wt hSw; first | (go_simp; done) | (go_simp; with_reducible rfl) | (trace_state; fail)
  try simp only [Act.put, List.setIfInBounds_toArray, List.set_cons_zero, List.set_cons_succ]
  refine wpAnyH_take (i := 2) (oi := { dst := some 30, op := Op.move (Operand.tmp 7), type := 30, pos := _, after := #[], guard := none }) (v := ?_) rfl (by kernel_rfl) (by kernel_rfl) (by kernel_rfl) (fun _ _ _ h => h) (Or.inl ⟨by rfl, ?_⟩) (by assumption) ?_
  rotate_left
  · intro wt hSw; (try dsimp only at hSw); have c0 := cellB hSw c0 z1; have c1 := cellB hSw c1 z1; have c2 := cellB hSw c2 z1; have c3 := cellB hSw c3 z1; have e0 := cellB hSw e0 z2; have e1 := cellB hSw e1 z2; have e2 := cellB hSw e2 z2; have e3 := cellB hSw e3 z2; first | (go_simp; done) | (go_simp; with_reducible rfl) | (trace_state; fail)
  try simp only [Act.put, List.setIfInBounds_toArray, List.set_cons_zero, List.set_cons_succ]
  refine wpAnyH_take (i := 3) (oi := { dst := some 31, op := Op.convert 30 9 (Operand.tmp 30), type := 9, pos := _, after := #[{ on := 2, ground := Ground.data }], guard := none }) (v := ?_) rfl (by kernel_rfl) (by kernel_rfl) (by kernel_rfl) (fun _ _ _ h => h) (Or.inl ⟨by rfl, ?_⟩) (by assumption) ?_
  rotate_left
  · intro wt hSw; (try dsimp only at hSw); have hcv := HCb.out wt hSw; first | (go_simp; done) | (go_simp; with_reducible rfl) | (trace_state; fail)
  try simp only [Act.put, List.setIfInBounds_toArray, List.set_cons_zero, List.set_cons_succ]
  refine wpAnyH_take (i := 4) (oi := { dst := some 32, op := Op.binOp BinOp.eql 9 (Operand.tmp 29) (Operand.tmp 31) 9, type := 4, pos := _, after := #[{ on := 1, ground := Ground.data }, { on := 3, ground := Ground.data }], guard := none }) (v := ?_) rfl (by kernel_rfl) (by kernel_rfl) (by kernel_rfl) (fun _ _ _ h => h) (Or.inl ⟨by rfl, ?_⟩) (by assumption) ?_
  rotate_left
  · intro wt hSw; (try dsimp only at hSw); have c0 := cellB hSw c0 z1; have c1 := cellB hSw c1 z1; have c2 := cellB hSw c2 z1; have c3 := cellB hSw c3 z1; have e0 := cellB hSw e0 z2; have e1 := cellB hSw e1 z2; have e2 := cellB hSw e2 z2; have e3 := cellB hSw e3 z2; first | (go_simp; done) | (go_simp; with_reducible rfl) | (trace_state; fail)
  try simp only [Act.put, List.setIfInBounds_toArray, List.set_cons_zero, List.set_cons_succ]
  refine wpAnyH_take (i := 5) (oi := { dst := some 33, op := Op.move (Operand.tmp 32), type := 4, pos := _, after := #[{ on := 4, ground := Ground.data }], guard := none }) (v := ?_) rfl (by kernel_rfl) (by kernel_rfl) (by kernel_rfl) (fun _ _ _ h => h) (Or.inl ⟨by rfl, ?_⟩) (by assumption) ?_
  rotate_left
  · intro wt hSw; (try dsimp only at hSw); have c0 := cellB hSw c0 z1; have c1 := cellB hSw c1 z1; have c2 := cellB hSw c2 z1; have c3 := cellB hSw c3 z1; have e0 := cellB hSw e0 z2; have e1 := cellB hSw e1 z2; have e2 := cellB hSw e2 z2; have e3 := cellB hSw e3 z2; first | (go_simp; done) | (go_simp; with_reducible rfl) | (trace_state; fail)
  try simp only [Act.put, List.setIfInBounds_toArray, List.set_cons_zero, List.set_cons_succ]
  refine wpAnyH_take (i := 6) (oi := { dst := some 34, op := Op.move (Operand.tmp 6), type := 4, pos := _, after := #[{ on := 5, ground := Ground.guard }], guard := some (5, true) }) (v := ?_) rfl (by kernel_rfl) (by kernel_rfl) (by kernel_rfl) (fun _ _ _ h => h) (Or.inl ⟨by rfl, ?_⟩) (by assumption) ?_
  rotate_left
  · intro wt hSw; (try dsimp only at hSw); have c0 := cellB hSw c0 z1; have c1 := cellB hSw c1 z1; have c2 := cellB hSw c2 z1; have c3 := cellB hSw c3 z1; have e0 := cellB hSw e0 z2; have e1 := cellB hSw e1 z2; have e2 := cellB hSw e2 z2; have e3 := cellB hSw e3 z2; first | (go_simp; done) | (go_simp; with_reducible rfl) | (trace_state; fail)
  try simp only [Act.put, List.setIfInBounds_toArray, List.set_cons_zero, List.set_cons_succ]
  refine wpAnyH_take (i := 7) (oi := { dst := some 35, op := Op.move (Operand.tmp 8), type := 4, pos := _, after := #[{ on := 5, ground := Ground.guard }], guard := some (5, true) }) (v := ?_) rfl (by kernel_rfl) (by kernel_rfl) (by kernel_rfl) (fun _ _ _ h => h) (Or.inl ⟨by rfl, ?_⟩) (by assumption) ?_
  rotate_left
  · intro wt hSw; (try dsimp only at hSw); have c0 := cellB hSw c0 z1; have c1 := cellB hSw c1 z1; have c2 := cellB hSw c2 z1; have c3 := cellB hSw c3 z1; have e0 := cellB hSw e0 z2; have e1 := cellB hSw e1 z2; have e2 := cellB hSw e2 z2; have e3 := cellB hSw e3 z2; first | (go_simp; done) | (go_simp; with_reducible rfl) | (trace_state; fail)
  try simp only [Act.put, List.setIfInBounds_toArray, List.set_cons_zero, List.set_cons_succ]
  refine wpAnyH_take (i := 8) (oi := { dst := some 36, op := Op.binOp BinOp.eql 4 (Operand.tmp 34) (Operand.tmp 35) 4, type := 4, pos := _, after := #[{ on := 6, ground := Ground.data }, { on := 7, ground := Ground.data }, { on := 5, ground := Ground.guard }], guard := some (5, true) }) (v := ?_) rfl (by kernel_rfl) (by kernel_rfl) (by kernel_rfl) (fun _ _ _ h => h) (Or.inl ⟨by rfl, ?_⟩) (by assumption) ?_
  rotate_left
  · intro wt hSw; (try dsimp only at hSw); have c0 := cellB hSw c0 z1; have c1 := cellB hSw c1 z1; have c2 := cellB hSw c2 z1; have c3 := cellB hSw c3 z1; have e0 := cellB hSw e0 z2; have e1 := cellB hSw e1 z2; have e2 := cellB hSw e2 z2; have e3 := cellB hSw e3 z2; first | (go_simp; done) | (go_simp; with_reducible rfl) | (trace_state; fail)
  try simp only [Act.put, List.setIfInBounds_toArray, List.set_cons_zero, List.set_cons_succ]
  refine wpAnyH_take (i := 9) (oi := { dst := some 37, op := Op.pick (Operand.tmp 33) (Operand.tmp 36) (Operand.const (Value.bool false)), type := 4, pos := _, after := #[{ on := 5, ground := Ground.data }, { on := 8, ground := Ground.data }], guard := none }) (v := ?_) rfl (by kernel_rfl) (by kernel_rfl) (by kernel_rfl) (fun _ _ _ h => h) (Or.inl ⟨by rfl, ?_⟩) (by assumption) ?_
  rotate_left
  · intro wt hSw; (try dsimp only at hSw); have c0 := cellB hSw c0 z1; have c1 := cellB hSw c1 z1; have c2 := cellB hSw c2 z1; have c3 := cellB hSw c3 z1; have e0 := cellB hSw e0 z2; have e1 := cellB hSw e1 z2; have e2 := cellB hSw e2 z2; have e3 := cellB hSw e3 z2; first | (go_simp; done) | (go_simp; with_reducible rfl) | (trace_state; fail)
  try simp only [Act.put, List.setIfInBounds_toArray, List.set_cons_zero, List.set_cons_succ]
  refine wpAnyH_take (i := 10) (oi := { dst := some 38, op := Op.move (Operand.tmp 37), type := 4, pos := _, after := #[{ on := 9, ground := Ground.data }, { on := 5, ground := Ground.chain }], guard := none }) (v := ?_) rfl (by kernel_rfl) (by kernel_rfl) (by kernel_rfl) (fun _ _ _ h => h) (Or.inl ⟨by rfl, ?_⟩) (by assumption) ?_
  rotate_left
  · intro wt hSw; (try dsimp only at hSw); have c0 := cellB hSw c0 z1; have c1 := cellB hSw c1 z1; have c2 := cellB hSw c2 z1; have c3 := cellB hSw c3 z1; have e0 := cellB hSw e0 z2; have e1 := cellB hSw e1 z2; have e2 := cellB hSw e2 z2; have e3 := cellB hSw e3 z2; first | (go_simp; done) | (go_simp; with_reducible rfl) | (trace_state; fail)
  try simp only [Act.put, List.setIfInBounds_toArray, List.set_cons_zero, List.set_cons_succ]
  refine wpAnyH_take (i := 11) (oi := { dst := some 39, op := Op.load 27 (Operand.tmp 2), type := 27, pos := _, after := #[{ on := 10, ground := Ground.guard }], guard := some (10, true) }) (v := ?_) rfl (by kernel_rfl) (by kernel_rfl) (by kernel_rfl) (fun _ _ _ h => h) (Or.inl ⟨by rfl, ?_⟩) (by assumption) ?_
  rotate_left
  · intro wt hSw; (try dsimp only at hSw); have c0 := cellB hSw c0 z1; have c1 := cellB hSw c1 z1; have c2 := cellB hSw c2 z1; have c3 := cellB hSw c3 z1; have e0 := cellB hSw e0 z2; have e1 := cellB hSw e1 z2; have e2 := cellB hSw e2 z2; have e3 := cellB hSw e3 z2; first | (go_simp; done) | (go_simp; with_reducible rfl) | (trace_state; fail)
  try simp only [Act.put, List.setIfInBounds_toArray, List.set_cons_zero, List.set_cons_succ]
  refine wpAnyH_take (i := 13) (oi := { dst := some 41, op := Op.move (Operand.tmp 8), type := 4, pos := _, after := #[{ on := 10, ground := Ground.guard }], guard := some (10, true) }) (v := ?_) rfl (by kernel_rfl) (by kernel_rfl) (by kernel_rfl) (fun _ _ _ h => h) (Or.inl ⟨by rfl, ?_⟩) (by assumption) ?_
  rotate_left
  · intro wt hSw; (try dsimp only at hSw); have c0 := cellB hSw c0 z1; have c1 := cellB hSw c1 z1; have c2 := cellB hSw c2 z1; have c3 := cellB hSw c3 z1; have e0 := cellB hSw e0 z2; have e1 := cellB hSw e1 z2; have e2 := cellB hSw e2 z2; have e3 := cellB hSw e3 z2; first | (go_simp; done) | (go_simp; with_reducible rfl) | (trace_state; fail)
  try simp only [Act.put, List.setIfInBounds_toArray, List.set_cons_zero, List.set_cons_succ]
  refine wpAnyH_ready (rs := [12]) (by kernel_rfl) (by simp) ?_
  refine AllReadyH.cons (o := { dst := some 40, op := Op.call { callee := Callee.value (Operand.func 11), args := #[Operand.tmp 39], argTypes := #[27] }, type := 4, pos := _, after := #[{ on := 11, ground := Ground.data }, { on := 10, ground := Ground.chain }, { on := 10, ground := Ground.guard }], guard := some (10, true) }) rfl (fun K hK => ?_) AllReadyH.nil
  go_simp
  refine (HFi.out _ (HB4.out.trans (hHeld.mono HB4.out.size))).mono ?_; rintro e v1 ⟨rfl, hb⟩; have hHeld := hHeld.trans (hb.mono hHeld.size); clear hb
  go_wp2_with fail
  refine hK.out _ _ ?_ (fun hHeld => ?_)
  · (try dsimp only); first | assumption | exact Below.alloc hHeld hHeld.size _ | exact (Below.refl _ _).drew | exact Below.drew (Below.refl _ _) | exact Below_drewN _ _ _ | exact Below.refl _ _ | (trace_state; fail)
  clear hK K
  try simp only [Act.put, List.setIfInBounds_toArray, List.set_cons_zero, List.set_cons_succ]
  refine wpAnyH_take (i := 14) (oi := { dst := some 42, op := Op.binOp BinOp.eql 4 (Operand.tmp 40) (Operand.tmp 41) 4, type := 4, pos := _, after := #[{ on := 12, ground := Ground.data }, { on := 13, ground := Ground.data }, { on := 10, ground := Ground.guard }], guard := some (10, true) }) (v := ?_) rfl (by kernel_rfl) (by kernel_rfl) (by kernel_rfl) (fun _ _ _ h => h) (Or.inl ⟨by rfl, ?_⟩) (by assumption) ?_
  rotate_left
  · intro wt hSw; (try dsimp only at hSw); have c0 := cellB hSw c0 z1; have c1 := cellB hSw c1 z1; have c2 := cellB hSw c2 z1; have c3 := cellB hSw c3 z1; have e0 := cellB hSw e0 z2; have e1 := cellB hSw e1 z2; have e2 := cellB hSw e2 z2; have e3 := cellB hSw e3 z2; first | (go_simp; done) | (go_simp; with_reducible rfl) | (trace_state; fail)
  try simp only [Act.put, List.setIfInBounds_toArray, List.set_cons_zero, List.set_cons_succ]
  refine wpAnyH_take (i := 15) (oi := { dst := some 43, op := Op.pick (Operand.tmp 38) (Operand.tmp 42) (Operand.const (Value.bool false)), type := 4, pos := _, after := #[{ on := 10, ground := Ground.data }, { on := 14, ground := Ground.data }], guard := none }) (v := ?_) rfl (by kernel_rfl) (by kernel_rfl) (by kernel_rfl) (fun _ _ _ h => h) (Or.inl ⟨by rfl, ?_⟩) (by assumption) ?_
  rotate_left
  · intro wt hSw; (try dsimp only at hSw); have c0 := cellB hSw c0 z1; have c1 := cellB hSw c1 z1; have c2 := cellB hSw c2 z1; have c3 := cellB hSw c3 z1; have e0 := cellB hSw e0 z2; have e1 := cellB hSw e1 z2; have e2 := cellB hSw e2 z2; have e3 := cellB hSw e3 z2; first | (go_simp; done) | (go_simp; with_reducible rfl) | (trace_state; fail)
  try simp only [Act.put, List.setIfInBounds_toArray, List.set_cons_zero, List.set_cons_succ]
  refine wpAnyH_take (i := 16) (oi := { dst := some 44, op := Op.move (Operand.tmp 43), type := 4, pos := _, after := #[{ on := 15, ground := Ground.data }, { on := 12, ground := Ground.chain }], guard := none }) (v := ?_) rfl (by kernel_rfl) (by kernel_rfl) (by kernel_rfl) (fun _ _ _ h => h) (Or.inl ⟨by rfl, ?_⟩) (by assumption) ?_
  rotate_left
  · intro wt hSw; (try dsimp only at hSw); have c0 := cellB hSw c0 z1; have c1 := cellB hSw c1 z1; have c2 := cellB hSw c2 z1; have c3 := cellB hSw c3 z1; have e0 := cellB hSw e0 z2; have e1 := cellB hSw e1 z2; have e2 := cellB hSw e2 z2; have e3 := cellB hSw e3 z2; first | (go_simp; done) | (go_simp; with_reducible rfl) | (trace_state; fail)
  try simp only [Act.put, List.setIfInBounds_toArray, List.set_cons_zero, List.set_cons_succ]
  refine wpAnyH_take (i := 17) (oi := { dst := some 45, op := Op.load 27 (Operand.tmp 2), type := 27, pos := _, after := #[{ on := 16, ground := Ground.guard }], guard := some (16, true) }) (v := ?_) rfl (by kernel_rfl) (by kernel_rfl) (by kernel_rfl) (fun _ _ _ h => h) (Or.inl ⟨by rfl, ?_⟩) (by assumption) ?_
  rotate_left
  · intro wt hSw; (try dsimp only at hSw); have c0 := cellB hSw c0 z1; have c1 := cellB hSw c1 z1; have c2 := cellB hSw c2 z1; have c3 := cellB hSw c3 z1; have e0 := cellB hSw e0 z2; have e1 := cellB hSw e1 z2; have e2 := cellB hSw e2 z2; have e3 := cellB hSw e3 z2; first | (go_simp; done) | (go_simp; with_reducible rfl) | (trace_state; fail)
  try simp only [Act.put, List.setIfInBounds_toArray, List.set_cons_zero, List.set_cons_succ]
  refine wpAnyH_take (i := 18) (oi := { dst := some 46, op := Op.load 27 (Operand.tmp 3), type := 27, pos := _, after := #[{ on := 16, ground := Ground.guard }], guard := some (16, true) }) (v := ?_) rfl (by kernel_rfl) (by kernel_rfl) (by kernel_rfl) (fun _ _ _ h => h) (Or.inl ⟨by rfl, ?_⟩) (by assumption) ?_
  rotate_left
  · intro wt hSw; (try dsimp only at hSw); have c0 := cellB hSw c0 z1; have c1 := cellB hSw c1 z1; have c2 := cellB hSw c2 z1; have c3 := cellB hSw c3 z1; have e0 := cellB hSw e0 z2; have e1 := cellB hSw e1 z2; have e2 := cellB hSw e2 z2; have e3 := cellB hSw e3 z2; first | (go_simp; done) | (go_simp; with_reducible rfl) | (trace_state; fail)
  try simp only [Act.put, List.setIfInBounds_toArray, List.set_cons_zero, List.set_cons_succ]
  refine wpAnyH_take (i := 20) (oi := { dst := some 48, op := Op.load 27 (Operand.tmp 2), type := 27, pos := _, after := #[{ on := 16, ground := Ground.guard }], guard := some (16, true) }) (v := ?_) rfl (by kernel_rfl) (by kernel_rfl) (by kernel_rfl) (fun _ _ _ h => h) (Or.inl ⟨by rfl, ?_⟩) (by assumption) ?_
  rotate_left
  · intro wt hSw; (try dsimp only at hSw); have c0 := cellB hSw c0 z1; have c1 := cellB hSw c1 z1; have c2 := cellB hSw c2 z1; have c3 := cellB hSw c3 z1; have e0 := cellB hSw e0 z2; have e1 := cellB hSw e1 z2; have e2 := cellB hSw e2 z2; have e3 := cellB hSw e3 z2; first | (go_simp; done) | (go_simp; with_reducible rfl) | (trace_state; fail)
  try simp only [Act.put, List.setIfInBounds_toArray, List.set_cons_zero, List.set_cons_succ]
  refine wpAnyH_take (i := 21) (oi := { dst := some 49, op := Op.load 27 (Operand.tmp 3), type := 27, pos := _, after := #[{ on := 16, ground := Ground.guard }], guard := some (16, true) }) (v := ?_) rfl (by kernel_rfl) (by kernel_rfl) (by kernel_rfl) (fun _ _ _ h => h) (Or.inl ⟨by rfl, ?_⟩) (by assumption) ?_
  rotate_left
  · intro wt hSw; (try dsimp only at hSw); have c0 := cellB hSw c0 z1; have c1 := cellB hSw c1 z1; have c2 := cellB hSw c2 z1; have c3 := cellB hSw c3 z1; have e0 := cellB hSw e0 z2; have e1 := cellB hSw e1 z2; have e2 := cellB hSw e2 z2; have e3 := cellB hSw e3 z2; first | (go_simp; done) | (go_simp; with_reducible rfl) | (trace_state; fail)
  try simp only [Act.put, List.setIfInBounds_toArray, List.set_cons_zero, List.set_cons_succ]
  refine wpAnyH_ready (rs := [19]) (by kernel_rfl) (by simp) ?_
  refine AllReadyH.cons (o := { dst := some 47, op := Op.call { callee := Callee.value (Operand.func 12), args := #[Operand.tmp 45, Operand.tmp 46], argTypes := #[27, 27] }, type := 4, pos := _, after := #[{ on := 17, ground := Ground.data }, { on := 18, ground := Ground.data }, { on := 16, ground := Ground.chain }, { on := 16, ground := Ground.guard }], guard := some (16, true) }) rfl (fun K hK => ?_) AllReadyH.nil
  go_simp
  refine (HSa.out _ (HB4.out.trans (hHeld.mono HB4.out.size))).mono ?_; rintro e v2 ⟨rfl, hb⟩; have hHeld := hHeld.trans (hb.mono hHeld.size); clear hb
  go_wp2_with fail
  refine hK.out _ _ ?_ (fun hHeld => ?_)
  · (try dsimp only); first | assumption | exact Below.alloc hHeld hHeld.size _ | exact (Below.refl _ _).drew | exact Below.drew (Below.refl _ _) | exact Below_drewN _ _ _ | exact Below.refl _ _ | (trace_state; fail)
  clear hK K
  try simp only [Act.put, List.setIfInBounds_toArray, List.set_cons_zero, List.set_cons_succ]
  refine wpAnyH_ready (rs := [22]) (by kernel_rfl) (by simp) ?_
  refine AllReadyH.cons (o := { dst := some 50, op := Op.call { callee := Callee.value (Operand.func 13), args := #[Operand.tmp 48, Operand.tmp 49], argTypes := #[27, 27] }, type := 4, pos := _, after := #[{ on := 20, ground := Ground.data }, { on := 21, ground := Ground.data }, { on := 19, ground := Ground.chain }, { on := 16, ground := Ground.guard }], guard := some (16, true) }) rfl (fun K hK => ?_) AllReadyH.nil
  go_simp
  refine (HSb.out _ (HB4.out.trans (hHeld.mono HB4.out.size))).mono ?_; rintro e v3 ⟨rfl, hb⟩; have hHeld := hHeld.trans (hb.mono hHeld.size); clear hb
  go_wp2_with fail
  refine hK.out _ _ ?_ (fun hHeld => ?_)
  · (try dsimp only); first | assumption | exact Below.alloc hHeld hHeld.size _ | exact (Below.refl _ _).drew | exact Below.drew (Below.refl _ _) | exact Below_drewN _ _ _ | exact Below.refl _ _ | (trace_state; fail)
  clear hK K
  try simp only [Act.put, List.setIfInBounds_toArray, List.set_cons_zero, List.set_cons_succ]
  refine wpAnyH_take (i := 23) (oi := { dst := some 51, op := Op.binOp BinOp.eql 4 (Operand.tmp 47) (Operand.tmp 50) 4, type := 4, pos := _, after := #[{ on := 19, ground := Ground.data }, { on := 22, ground := Ground.data }, { on := 16, ground := Ground.guard }], guard := some (16, true) }) (v := ?_) rfl (by kernel_rfl) (by kernel_rfl) (by kernel_rfl) (fun _ _ _ h => h) (Or.inl ⟨by rfl, ?_⟩) (by assumption) ?_
  rotate_left
  · intro wt hSw; (try dsimp only at hSw); have c0 := cellB hSw c0 z1; have c1 := cellB hSw c1 z1; have c2 := cellB hSw c2 z1; have c3 := cellB hSw c3 z1; have e0 := cellB hSw e0 z2; have e1 := cellB hSw e1 z2; have e2 := cellB hSw e2 z2; have e3 := cellB hSw e3 z2; first | (go_simp; done) | (go_simp; with_reducible rfl) | (trace_state; fail)
  try simp only [Act.put, List.setIfInBounds_toArray, List.set_cons_zero, List.set_cons_succ]
  refine wpAnyH_take (i := 24) (oi := { dst := some 52, op := Op.pick (Operand.tmp 44) (Operand.tmp 51) (Operand.const (Value.bool false)), type := 4, pos := _, after := #[{ on := 16, ground := Ground.data }, { on := 23, ground := Ground.data }], guard := none }) (v := ?_) rfl (by kernel_rfl) (by kernel_rfl) (by kernel_rfl) (fun _ _ _ h => h) (Or.inl ⟨by rfl, ?_⟩) (by assumption) ?_
  rotate_left
  · intro wt hSw; (try dsimp only at hSw); have c0 := cellB hSw c0 z1; have c1 := cellB hSw c1 z1; have c2 := cellB hSw c2 z1; have c3 := cellB hSw c3 z1; have e0 := cellB hSw e0 z2; have e1 := cellB hSw e1 z2; have e2 := cellB hSw e2 z2; have e3 := cellB hSw e3 z2; first | (go_simp; done) | (go_simp; with_reducible rfl) | (trace_state; fail)
  try simp only [Act.put, List.setIfInBounds_toArray, List.set_cons_zero, List.set_cons_succ]
  refine wpAnyH_take (i := 25) (oi := { dst := some 53, op := Op.move (Operand.tmp 52), type := 4, pos := _, after := #[{ on := 24, ground := Ground.data }, { on := 22, ground := Ground.chain }], guard := none }) (v := ?_) rfl (by kernel_rfl) (by kernel_rfl) (by kernel_rfl) (fun _ _ _ h => h) (Or.inl ⟨by rfl, ?_⟩) (by assumption) ?_
  rotate_left
  · intro wt hSw; (try dsimp only at hSw); have c0 := cellB hSw c0 z1; have c1 := cellB hSw c1 z1; have c2 := cellB hSw c2 z1; have c3 := cellB hSw c3 z1; have e0 := cellB hSw e0 z2; have e1 := cellB hSw e1 z2; have e2 := cellB hSw e2 z2; have e3 := cellB hSw e3 z2; first | (go_simp; done) | (go_simp; with_reducible rfl) | (trace_state; fail)
  try simp only [Act.put, List.setIfInBounds_toArray, List.set_cons_zero, List.set_cons_succ]
  refine wpAnyH_take (i := 26) (oi := { dst := some 54, op := Op.load 27 (Operand.tmp 2), type := 27, pos := _, after := #[{ on := 25, ground := Ground.guard }], guard := some (25, true) }) (v := ?_) rfl (by kernel_rfl) (by kernel_rfl) (by kernel_rfl) (fun _ _ _ h => h) (Or.inl ⟨by rfl, ?_⟩) (by assumption) ?_
  rotate_left
  · intro wt hSw; (try dsimp only at hSw); have c0 := cellB hSw c0 z1; have c1 := cellB hSw c1 z1; have c2 := cellB hSw c2 z1; have c3 := cellB hSw c3 z1; have e0 := cellB hSw e0 z2; have e1 := cellB hSw e1 z2; have e2 := cellB hSw e2 z2; have e3 := cellB hSw e3 z2; first | (go_simp; done) | (go_simp; with_reducible rfl) | (trace_state; fail)
  try simp only [Act.put, List.setIfInBounds_toArray, List.set_cons_zero, List.set_cons_succ]
  refine wpAnyH_take (i := 27) (oi := { dst := some 55, op := Op.load 27 (Operand.tmp 2), type := 27, pos := _, after := #[{ on := 25, ground := Ground.guard }], guard := some (25, true) }) (v := ?_) rfl (by kernel_rfl) (by kernel_rfl) (by kernel_rfl) (fun _ _ _ h => h) (Or.inl ⟨by rfl, ?_⟩) (by assumption) ?_
  rotate_left
  · intro wt hSw; (try dsimp only at hSw); have c0 := cellB hSw c0 z1; have c1 := cellB hSw c1 z1; have c2 := cellB hSw c2 z1; have c3 := cellB hSw c3 z1; have e0 := cellB hSw e0 z2; have e1 := cellB hSw e1 z2; have e2 := cellB hSw e2 z2; have e3 := cellB hSw e3 z2; first | (go_simp; done) | (go_simp; with_reducible rfl) | (trace_state; fail)
  try simp only [Act.put, List.setIfInBounds_toArray, List.set_cons_zero, List.set_cons_succ]
  refine wpAnyH_ready (rs := [28]) (by kernel_rfl) (by simp) ?_
  refine AllReadyH.cons (o := { dst := some 56, op := Op.call { callee := Callee.value (Operand.func 12), args := #[Operand.tmp 54, Operand.tmp 55], argTypes := #[27, 27] }, type := 4, pos := _, after := #[{ on := 26, ground := Ground.data }, { on := 27, ground := Ground.data }, { on := 25, ground := Ground.chain }, { on := 25, ground := Ground.guard }], guard := some (25, true) }) rfl (fun K hK => ?_) AllReadyH.nil
  go_simp
  refine (HSs.out _ (HB4.out.trans (hHeld.mono HB4.out.size))).mono ?_; rintro e v4 ⟨rfl, hb⟩; rw [hself]; have hHeld := hHeld.trans (hb.mono hHeld.size); clear hb
  go_wp2_with fail
  refine hK.out _ _ ?_ (fun hHeld => ?_)
  · (try dsimp only); first | assumption | exact Below.alloc hHeld hHeld.size _ | exact (Below.refl _ _).drew | exact Below.drew (Below.refl _ _) | exact Below_drewN _ _ _ | exact Below.refl _ _ | (trace_state; fail)
  clear hK K
  try simp only [Act.put, List.setIfInBounds_toArray, List.set_cons_zero, List.set_cons_succ]
  refine wpAnyH_take (i := 29) (oi := { dst := some 57, op := Op.pick (Operand.tmp 53) (Operand.tmp 56) (Operand.const (Value.bool false)), type := 4, pos := _, after := #[{ on := 25, ground := Ground.data }, { on := 28, ground := Ground.data }], guard := none }) (v := ?_) rfl (by kernel_rfl) (by kernel_rfl) (by kernel_rfl) (fun _ _ _ h => h) (Or.inl ⟨by rfl, ?_⟩) (by assumption) ?_
  rotate_left
  · intro wt hSw; (try dsimp only at hSw); have c0 := cellB hSw c0 z1; have c1 := cellB hSw c1 z1; have c2 := cellB hSw c2 z1; have c3 := cellB hSw c3 z1; have e0 := cellB hSw e0 z2; have e1 := cellB hSw e1 z2; have e2 := cellB hSw e2 z2; have e3 := cellB hSw e3 z2; first | (go_simp; done) | (go_simp; with_reducible rfl) | (trace_state; fail)
  try simp only [Act.put, List.setIfInBounds_toArray, List.set_cons_zero, List.set_cons_succ]
  refine wpAnyH_take (i := 30) (oi := { dst := some 58, op := Op.move (Operand.tmp 57), type := 4, pos := _, after := #[{ on := 29, ground := Ground.data }, { on := 28, ground := Ground.chain }], guard := none }) (v := ?_) rfl (by kernel_rfl) (by kernel_rfl) (by kernel_rfl) (fun _ _ _ h => h) (Or.inl ⟨by rfl, ?_⟩) (by assumption) ?_
  rotate_left
  · intro wt hSw; (try dsimp only at hSw); have c0 := cellB hSw c0 z1; have c1 := cellB hSw c1 z1; have c2 := cellB hSw c2 z1; have c3 := cellB hSw c3 z1; have e0 := cellB hSw e0 z2; have e1 := cellB hSw e1 z2; have e2 := cellB hSw e2 z2; have e3 := cellB hSw e3 z2; first | (go_simp; done) | (go_simp; with_reducible rfl) | (trace_state; fail)
  try simp only [Act.put, List.setIfInBounds_toArray, List.set_cons_zero, List.set_cons_succ]
  refine wpAnyH_ready (rs := [31]) (by kernel_rfl) (by simp) ?_
  refine AllReadyH.cons (o := { dst := some 59, op := Op.call { callee := Callee.value (Operand.func 8), args := #[], argTypes := #[] }, type := 4, pos := _, after := #[{ on := 30, ground := Ground.chain }, { on := 30, ground := Ground.guard }], guard := some (30, true) }) rfl (fun K hK => ?_) AllReadyH.nil
  go_simp
  refine (HA.out _ (HB4.out.trans (hHeld.mono HB4.out.size))).mono ?_; rintro e v5 ⟨rfl, hb⟩; have hHeld := hHeld.trans (hb.mono hHeld.size); clear hb
  go_wp2_with fail
  refine hK.out _ _ ?_ (fun hHeld => ?_)
  · (try dsimp only); first | assumption | exact Below.alloc hHeld hHeld.size _ | exact (Below.refl _ _).drew | exact Below.drew (Below.refl _ _) | exact Below_drewN _ _ _ | exact Below.refl _ _ | (trace_state; fail)
  clear hK K
  try simp only [Act.put, List.setIfInBounds_toArray, List.set_cons_zero, List.set_cons_succ]
  refine wpAnyH_take (i := 32) (oi := { dst := some 60, op := Op.pick (Operand.tmp 58) (Operand.tmp 59) (Operand.const (Value.bool false)), type := 4, pos := _, after := #[{ on := 30, ground := Ground.data }, { on := 31, ground := Ground.data }], guard := none }) (v := ?_) rfl (by kernel_rfl) (by kernel_rfl) (by kernel_rfl) (fun _ _ _ h => h) (Or.inl ⟨by rfl, ?_⟩) (by assumption) ?_
  rotate_left
  · intro wt hSw; (try dsimp only at hSw); have c0 := cellB hSw c0 z1; have c1 := cellB hSw c1 z1; have c2 := cellB hSw c2 z1; have c3 := cellB hSw c3 z1; have e0 := cellB hSw e0 z2; have e1 := cellB hSw e1 z2; have e2 := cellB hSw e2 z2; have e3 := cellB hSw e3 z2; first | (go_simp; done) | (go_simp; with_reducible rfl) | (trace_state; fail)
  try simp only [Act.put, List.setIfInBounds_toArray, List.set_cons_zero, List.set_cons_succ]
  refine wpAnyH_take (i := 33) (oi := { dst := some 4, op := Op.assign (Operand.tmp 60), type := 4, pos := _, after := #[{ on := 32, ground := Ground.data }, { on := 31, ground := Ground.chain }, { on := 0, ground := Ground.phase }, { on := 1, ground := Ground.phase }, { on := 2, ground := Ground.phase }, { on := 3, ground := Ground.phase }, { on := 4, ground := Ground.phase }, { on := 5, ground := Ground.phase }, { on := 6, ground := Ground.phase }, { on := 7, ground := Ground.phase }, { on := 8, ground := Ground.phase }, { on := 9, ground := Ground.phase }, { on := 10, ground := Ground.phase }, { on := 11, ground := Ground.phase }, { on := 12, ground := Ground.phase }, { on := 13, ground := Ground.phase }, { on := 14, ground := Ground.phase }, { on := 15, ground := Ground.phase }, { on := 16, ground := Ground.phase }, { on := 17, ground := Ground.phase }, { on := 18, ground := Ground.phase }, { on := 19, ground := Ground.phase }, { on := 20, ground := Ground.phase }, { on := 21, ground := Ground.phase }, { on := 22, ground := Ground.phase }, { on := 23, ground := Ground.phase }, { on := 24, ground := Ground.phase }, { on := 25, ground := Ground.phase }, { on := 26, ground := Ground.phase }, { on := 27, ground := Ground.phase }, { on := 28, ground := Ground.phase }, { on := 29, ground := Ground.phase }, { on := 30, ground := Ground.phase }, { on := 31, ground := Ground.phase }, { on := 32, ground := Ground.phase }], guard := none }) (v := ?_) rfl (by kernel_rfl) (by kernel_rfl) (by kernel_rfl) (fun _ _ _ h => h) (Or.inl ⟨by rfl, ?_⟩) (by assumption) ?_
  rotate_left
  · intro wt hSw; (try dsimp only at hSw); have c0 := cellB hSw c0 z1; have c1 := cellB hSw c1 z1; have c2 := cellB hSw c2 z1; have c3 := cellB hSw c3 z1; have e0 := cellB hSw e0 z2; have e1 := cellB hSw e1 z2; have e2 := cellB hSw e2 z2; have e3 := cellB hSw e3 z2; first | (go_simp; done) | (go_simp; with_reducible rfl) | (trace_state; fail)
  try simp only [Act.put, List.setIfInBounds_toArray, List.set_cons_zero, List.set_cons_succ]
  refine wpAnyH_done (by kernel_rfl) ?_ _
  go_wp2_with fail
  go_ret
  exact ⟨rfl, HB4.out.trans (hHeld.mono HB4.out.size)⟩
end Go.Proofs.YtjikkipdmonndaaDoor

/- Tables of structs and arrays: their cells, one behind the other. -/
namespace Go.Proofs.YtjikkipdmonndaaDoor
open Go.ChangeShapes Go.WideShapes Go.ChangeAt Go.RowKit
section
variable {P : Program}
def flatF {H : Type} : Nat → DataW H → List Value
  | _, .lit l => [leafVal (.lit l : DataW H)]
  | n + 1, .agg ds => ds.flatMap fun d => flatF n d
  | _, _ => []
theorem flatF_lit {H : Type} (n : Nat) (l : Lit) : flatF n (.lit l : DataW H) = [leafVal (.lit l : DataW H)] := by cases n <;> simp [flatF]
/-- a type of m cells that reads as what they hold -/
def FlatAt (P : Program) (t : TypeId) (n m : Nat) : Prop := ∀ {H : Type} (enc : TypeId × Value → H) (w : World) (base : Nat) (sp : Nat → Bool) (held : Bool) (fuel : Nat) (cs : List Value) (x : DataW H × List MemPlace),
  DataW.trod enc P w base sp held fuel t cs = some x → cs.length = m ∧ cs = flatF n x.1
theorem flatAt_int {e : TypeId} {k : IntKind} {n : Nat} (he : P.underlying e = some (.int k)) : FlatAt P e n 1 := by
  intro H enc w base sp held fuel cs x h
  obtain ⟨z, rfl, rfl, _⟩ := DataW.trod_int he h
  exact ⟨rfl, by simp [flatF_lit, leafVal]⟩
theorem flatAt_string {e : TypeId} {n : Nat} (he : P.underlying e = some .string) : FlatAt P e n 1 := by
  intro H enc w base sp held fuel cs x h
  obtain ⟨s, rfl, rfl, _⟩ := DataW.trod_string he h
  exact ⟨rfl, by simp [flatF_lit, leafVal]⟩
theorem cut_rows {H : Type} (f : DataW H → List Value) (m : Nat) : ∀ (n : Nat) (cs : List Value) (ys : List (DataW H)), cs.length = n * m → ys.length = n → (∀ i, i < n → ∃ y, ys[i]? = some y ∧ (cs.drop (i * m)).take m = f y) → cs = ys.flatMap f := by
  intro n
  induction n with
  | zero =>
    intro cs ys h1 h2 _
    obtain rfl : cs = [] := List.length_eq_zero_iff.1 (by omega)
    obtain rfl : ys = [] := List.length_eq_zero_iff.1 h2
    rfl
  | succ n ih =>
    intro cs ys h1 h2 h
    cases ys with
    | nil => simp at h2
    | cons y ys =>
      have h0 := h 0 (by omega)
      obtain ⟨y', hy, hc⟩ := h0
      obtain rfl : y = y' := by simpa using hy
      have hl : cs.length = n * m + m := by rw [h1]; rw [Nat.succ_mul]
      have hr := ih (cs.drop m) ys (by rw [List.length_drop]; omega) (by simpa using h2) (fun i hi => by
        obtain ⟨y'', hy, hc⟩ := h (i + 1) (by omega)
        refine ⟨y'', by simpa using hy, ?_⟩
        rw [List.drop_drop, ← hc]
        congr 2
        rw [Nat.succ_mul]; omega)
      rw [List.flatMap_cons, ← hr, ← hc]
      simp
theorem flatAt_array {t e : TypeId} {n m q : Nat} (ht : P.underlying t = some (.array n e)) (he : FlatAt P e q m) (hce : P.cellsOf e = m) (hct : P.cellsOf t = n * m) : FlatAt P t (q + 1) (n * m) := by
  intro H enc w base sp held fuel cs x h
  obtain ⟨xs, k, rfl, rfl, hl, hn, hall⟩ := DataW.trod_array ht h
  rw [hct] at hl
  refine ⟨hl, ?_⟩
  simp only [flatF]
  refine cut_rows _ m n cs _ hl (by simp [hn]) (fun i hi => ?_)
  have h1 := hall i hi
  obtain ⟨b, hb⟩ : ∃ b, xs[i]? = some b := ⟨xs[i], by simp [hn, hi]⟩
  rw [hb, hce] at h1
  exact ⟨b.1, by simp [hb], (he _ _ _ _ _ _ _ _ h1).2⟩
theorem flatAt_struct {t : TypeId} {fs : Array Field} {q : Nat} (ht : P.underlying t = some (.struct fs)) (hct : P.cellsOf t = fs.size)
    (hf : ∀ (i : Nat) (f : Field), fs[i]? = some f → FlatAt P f.type q 1 ∧ f.offset = i ∧ P.cellsOf f.type = 1) : FlatAt P t (q + 1) fs.size := by
  intro H enc w base sp held fuel cs x h
  obtain ⟨xs, k, rfl, rfl, hl, hn, hall⟩ := DataW.trod_struct ht h
  rw [hct] at hl
  refine ⟨hl, ?_⟩
  simp only [flatF]
  refine cut_rows _ 1 fs.size cs _ (by rw [hl]; omega) (by simp [hn]) (fun i hi => ?_)
  obtain ⟨f, hfi⟩ : ∃ f, fs[i]? = some f := ⟨fs[i], by simp [hi]⟩
  obtain ⟨h1, h2, h3⟩ := hf i f hfi
  have h4 := hall i f hfi
  obtain ⟨b, hb⟩ : ∃ b, xs[i]? = some b := ⟨xs[i], by simp [hn, hi]⟩
  rw [hb, h3, h2] at h4
  exact ⟨b.1, by simp [hb], by rw [Nat.mul_one]; exact (h1 _ _ _ _ _ _ _ _ h4).2⟩
/-- the cells of a table that stands first on the list -/
theorem laid_flat {W : World} {name : String} {d : DataW Unit} {rest : List (String × DataW Unit)} {g : Nat} {t : TypeId} {q m : Nat}
    (hg : P.globalNamed name = some g) (hty : (P.globals[g]?).map (·.type) = some t) (ht : FlatAt P t q m) (h : laidMet P ((name, d) :: rest) W) (i : Nat) : W.cell? ⟨g, i, none⟩ = (flatF q d)[i]? := by
  obtain ⟨ps, ⟨g', t', cs, fuel, p, r, hg', ht', hvar, hd, _, _⟩, _⟩ := h
  obtain rfl := Option.some.inj (hg.symm.trans hg')
  obtain rfl := Option.some.inj (hty.symm.trans ht')
  have := World.var?_cell hg hvar i
  rw [this, ← Array.getElem?_toList, (ht _ _ _ _ _ _ _ _ hd).2]
end
end Go.Proofs.YtjikkipdmonndaaDoor

/- Layer 13: what the rows' lists give. -/
namespace Go.Proofs.YtjikkipdmonndaaDoor
open Go.RowKit
theorem laidMet_of_H {l : List (String × DataW Unit)} {W : World} (h : laidMetH Tryd.prog l W) (hp : (l.all fun x => x.2.handleName?.isNone) = true) : laidMet Tryd.prog l W := (Go.MakeChecks.laidMetH_plain _ _ _ hp) ▸ h
theorem sTab_of {W : World} {rest : List (String × DataW Unit)} (h : laidMet Tryd.prog (("ladderback/op.shapes", Rows.laid_ladderback_op_shapes) :: rest) W) : STab W := by
  have d := laid_flat (g := 0) (t := 148) (q := 3) (by kernel_rfl) (by kernel_rfl) (flatAt_array (n := 38) (m := 2) Tryd.underlying148 (flatAt_array (n := 2) (m := 1) Tryd.underlying147 (flatAt_int Tryd.underlying3) (by kernel_rfl) (by kernel_rfl)) (by kernel_rfl) (by kernel_rfl)) h
  have ed : flatF 3 (Rows.laid_ladderback_op_shapes : DataW Unit) = shapesV := by kernel_rfl
  rw [ed] at d
  exact ⟨d, big_of_cell (d 0)⟩
end Go.Proofs.YtjikkipdmonndaaDoor

/- Arguments of nested types, opened. -/
namespace Go.Proofs.YtjikkipdmonndaaDoor
open Go.ChangeShapes Go.WideShapes Go.ChangeAt Go.RowKit Go.Deep
set_option linter.unusedSimpArgs false
set_option linter.unusedVariables false
def Opens {α : Type} (P : Program) (t : TypeId) (q : Nat) (R : Rep α) : Prop := P.cellsOf t = q ∧ ∀ {H : Type} (enc : TypeId × Value → H) (W : World) (sp : Nat → Bool) (held : Bool) (fuel : Nat) (cs : List Value) (x : DataW H × List MemPlace),
  DataW.trod enc P W 0 sp held fuel t cs = some x → ∃ a, R W cs a
set_option maxRecDepth 100000 in
theorem opens_int {P : Program} {t : TypeId} (ht : P.underlying t = some (.int .i64)) (hq : P.cellsOf t = 1) : Opens P t 1 intR := ⟨hq, fun enc W sp held fuel cs x h => by
  obtain ⟨z, rfl, _, hw⟩ := DataW.trod_int ht h
  exact ⟨z, rfl, bounds_i64 hw⟩⟩
set_option maxRecDepth 100000 in
theorem opens_string {P : Program} {t : TypeId} (ht : P.underlying t = some .string) (hq : P.cellsOf t = 1) : Opens P t 1 strR := ⟨hq, fun enc W sp held fuel cs x h => by
  obtain ⟨s, hs, hx, hw⟩ := DataW.trod_string ht h
  refine ⟨s.data.toList, by simpa using hs, ?_⟩
  have e : s.data.toList.length = s.size := by simp
  unfold maxLen at hw
  omega⟩
set_option maxRecDepth 100000 in
theorem choose_list {α : Type} {p : Nat → α → Prop} : ∀ n, (∀ i, i < n → ∃ a, p i a) → ∃ L : List α, L.length = n ∧ ∀ i x, L[i]? = some x → p i x := by
  intro n
  induction n with
  | zero => intro _; exact ⟨[], rfl, fun i x h => by simp at h⟩
  | succ n ih =>
    intro h
    obtain ⟨L, h1, h2⟩ := ih (fun i hi => h i (by omega))
    obtain ⟨a, ha⟩ := h n (by omega)
    refine ⟨L ++ [a], by simp [h1], fun i x hx => ?_⟩
    by_cases hi : i < n
    · rw [List.getElem?_append_left (by omega)] at hx
      exact h2 i x hx
    · have hin : i = n := by
        by_cases he : i = n
        · exact he
        · rw [List.getElem?_eq_none (by simp; omega)] at hx; cases hx
      subst hin
      rw [List.getElem?_append_right (by omega), h1] at hx
      simp at hx
      rw [← hx]
      exact ha
set_option maxRecDepth 100000 in
theorem opens_slice {P : Program} {t e : TypeId} {q : Nat} {α : Type} {R : Rep α} (ht : P.underlying t = some (.slice e)) (hq1 : P.cellsOf t = 1) (hq0 : 0 < q) (he : Opens P e q R) : Opens P t 1 (sliceR q R) := ⟨hq1, fun enc W sp held fuel cs x h => by
  obtain ⟨hq, he⟩ := he
  rcases open_slice ht h with ⟨rfl, hx⟩ | ⟨a, len, cap, m, k, D, Pl, rfl, _, hl, hm, hmm, hx, hi⟩
  · exact ⟨[], _, rfl, Or.inl ⟨_, _, rfl, rfl, fun _ => rfl⟩⟩
  · have hlm : len ≤ m := by rw [hmm]; split <;> omega
    have key : ∀ i, i < len → ∃ y : α, ∃ C : List Value, C.length = q ∧ (∀ j u, C[j]? = some u → W.cell? ((a.add (i * q)).add j) = some u) ∧ R W C y := by
      intro i hin
      obtain ⟨cs', hc, ht'⟩ := hi i (by omega)
      rw [hq] at hc
      obtain ⟨_, hcl, hat⟩ := World.cells?_some hc
      obtain ⟨y, hy⟩ := he enc W sp held k cs' _ ht'
      refine ⟨y, cs', hcl, fun j u hu => ?_, hy⟩
      have hj : j < q := by
        by_cases hj : j < q
        · exact hj
        · rw [List.getElem?_eq_none (by omega)] at hu; cases hu
      rw [hat j hj, hu]
    obtain ⟨L, hL, hLL⟩ := choose_list len key
    refine ⟨L, _, rfl, ?_⟩
    by_cases h0 : len = 0
    · subst h0
      exact Or.inl ⟨_, _, rfl, List.length_eq_zero_iff.1 hL, fun h => by cases h⟩
    obtain ⟨b, off, spot⟩ := a
    obtain ⟨C0, g1, g2, _⟩ := hLL 0 (L[0]'(by omega)) (by simp [show 0 < L.length by omega])
    have hz := g2 0 (C0[0]'(by omega)) (by simp [show 0 < C0.length by omega])
    have hspot : spot = none := by
      have := World.cell?_spot hz
      simpa [Addr.add] using this
    subst hspot
    have hblk := World.block_lt_of_cell? W _ hz
    have adr : ∀ j, (⟨b, off, none⟩ : Addr).add j = ⟨b, off + j, none⟩ := by
      intro j; unfold Addr.add; by_cases hj : j = 0 <;> simp [hj]
    rw [← hL]
    refine Or.inr ⟨b, off, cap, rfl, by omega, by omega, hm, by simpa [add_add, adr] using hblk, fun i x hx => ?_⟩
    obtain ⟨C, g1, g2, g3⟩ := hLL i x hx
    refine ⟨C, g1, fun j u hu => ?_, g3⟩
    have := g2 j u hu
    rw [add_add, adr] at this
    rw [show off + i * q + j = off + (i * q + j) by omega]
    exact this⟩
set_option maxRecDepth 100000 in
/-- the cells of a struct's field -/
theorem opens_field {H : Type} {P : Program} {t : TypeId} {fs : Array Field} {enc : TypeId × Value → H} {W : World} {sp : Nat → Bool} {held : Bool} {fuel : Nat} {cs : List Value} {x : DataW H × List MemPlace} (ht : P.underlying t = some (.struct fs))
    (h : DataW.trod enc P W 0 sp held fuel t cs = some x) (i : Nat) (u : TypeId) (o q : Nat) {α : Type} {R : Rep α} (hf : (fs[i]?.map fun f => (f.type, f.offset)) = some (u, o)) (hu : Opens P u q R) : ∃ a, R W ((cs.drop o).take q) a := by
  obtain ⟨xs, n, rfl, hx, hl, hlen, hall⟩ := DataW.trod_struct ht h
  obtain ⟨f, hf0, hf1⟩ := Option.map_eq_some_iff.1 hf
  have h1 := hall i f hf0
  have ht : f.type = u := congrArg Prod.fst hf1
  have ho : f.offset = o := congrArg Prod.snd hf1
  rw [ht, ho, hu.1] at h1
  have hi : i < fs.size := by
    by_cases hi : i < fs.size
    · exact hi
    · rw [Array.getElem?_eq_none (by omega)] at hf0; cases hf0
  obtain ⟨b, hb⟩ : ∃ b, xs[i]? = some b := ⟨xs[i]'(by omega), by simp [hlen, hi]⟩
  rw [hb] at h1
  exact hu.2 enc W sp held n _ _ h1
set_option maxRecDepth 100000 in
theorem opens_ins : Opens Tryd.prog 92 3 insR := ⟨by kernel_rfl, fun enc W sp held fuel cs x h => by
  have hu : Tryd.prog.underlying 92 = some (.struct (Tryd.prog.fieldsOf 92)) := by kernel_rfl
  have hi := opens_int (P := Tryd.prog) Tryd.underlying3 (by kernel_rfl)
  have hl : cs.length = 3 := by
    obtain ⟨xs, n, _, _, hl, _, _⟩ := DataW.trod_struct hu h
    exact hl.trans (by kernel_rfl)
  obtain ⟨o, h0, w0⟩ := opens_field hu h 0 3 0 1 (by kernel_rfl) hi
  obtain ⟨a, h1, w1⟩ := opens_field hu h 1 3 1 1 (by kernel_rfl) hi
  obtain ⟨b, h2, w2⟩ := opens_field hu h 2 3 2 1 (by kernel_rfl) hi
  refine ⟨(o, a, b), ?_, w0, w1, w2⟩
  match cs, hl with
  | [x, y, z], _ =>
    simp at h0 h1 h2
    rw [h0, h1, h2]⟩
set_option maxRecDepth 100000 in
theorem open_code {H : Type} {enc : TypeId × Value → H} {W : World} {r : Reach} {b0 : Nat} {v : Value} {d : DataW H} {ps : List MemPlace} {sp : Nat → Bool} {held : Bool}
    (hval : Value.okWide Tryd.prog W r b0 46 v) (h : DataW.Trod enc Tryd.prog W 0 sp held 46 v d ps) : ∃ L, RowR 3 insR W v L := by
  obtain ⟨a0, len, cap, rfl⟩ := okWide_slice Tryd.underlying46 hval
  obtain ⟨fuel, hf⟩ := h
  obtain ⟨L, v', hv, hr⟩ := (opens_slice Tryd.underlying46 (by kernel_rfl) (by omega) opens_ins).2 enc W sp held fuel _ _ hf
  simp [Value.cells] at hv
  subst hv
  exact ⟨L, hr⟩
end Go.Proofs.YtjikkipdmonndaaDoor

/- An argument of type api.Unit, opened. -/
namespace Go.Proofs.YtjikkipdmonndaaDoor
open Go.ChangeShapes Go.WideShapes Go.ChangeAt Go.RowKit
set_option maxRecDepth 100000 in
theorem opens_unit : Opens Tryd.prog 48 5 unitR := ⟨by kernel_rfl, fun enc W sp held fuel cs x h => by
  have hu : Tryd.prog.underlying 48 = some (.struct (Tryd.prog.fieldsOf 48)) := by kernel_rfl
  have hi := opens_int (P := Tryd.prog) Tryd.underlying3 (by kernel_rfl)
  have hs := opens_string (P := Tryd.prog) Tryd.underlying9 (by kernel_rfl)
  have hn := opens_slice (P := Tryd.prog) Tryd.underlying45 (by kernel_rfl) (by omega) hi
  have hc := opens_slice (P := Tryd.prog) Tryd.underlying46 (by kernel_rfl) (by omega) opens_ins
  have hl : cs.length = 5 := by
    obtain ⟨xs, n, _, _, hl, _, _⟩ := DataW.trod_struct hu h
    exact hl.trans (by kernel_rfl)
  obtain ⟨o, h0, w0⟩ := opens_field hu h 0 9 0 1 (by kernel_rfl) hs
  obtain ⟨a, v1, h1, w1⟩ := opens_field hu h 1 45 1 1 (by kernel_rfl) hn
  obtain ⟨b, h2, w2⟩ := opens_field hu h 2 3 2 1 (by kernel_rfl) hi
  obtain ⟨c, v3, h3, w3⟩ := opens_field hu h 3 45 3 1 (by kernel_rfl) hn
  obtain ⟨d, v4, h4, w4⟩ := opens_field hu h 4 46 4 1 (by kernel_rfl) hc
  refine ⟨⟨o, a, b, c, d⟩, v1, v3, v4, ?_, w1, w3, w4, w0, w2⟩
  match cs, hl with
  | [x, y, z, t, u], _ =>
    simp at h0 h1 h2 h3 h4
    rw [h0, h1, h2, h3, h4]⟩
set_option maxRecDepth 100000 in
theorem open_unit {H : Type} {enc : TypeId × Value → H} {W : World} {r : Reach} {b0 : Nat} {v : Value} {d : DataW H} {ps : List MemPlace} {sp : Nat → Bool} {held : Bool}
    (hval : Value.okWide Tryd.prog W r b0 48 v) (h : DataW.Trod enc Tryd.prog W 0 sp held 48 v d ps) :
    ∃ (a b c : Value) (x : Un), v = .agg #[.string ⟨x.name.toArray⟩, a, .int .i64 x.result, b, c] ∧ UnAt W a b c x := by
  have hu : Tryd.prog.underlying 48 = some (.struct (Tryd.prog.fieldsOf 48)) := by kernel_rfl
  obtain ⟨cs, rfl, hsz⟩ := okWide_struct hu hval
  obtain ⟨fuel, hf⟩ := h
  obtain ⟨x, a, b, c, h0, h1⟩ := opens_unit.2 enc W sp held fuel _ _ hf
  obtain ⟨l⟩ := cs
  simp only [Value.cells] at h0
  subst h0
  exact ⟨a, b, c, x, rfl, h1⟩
end Go.Proofs.YtjikkipdmonndaaDoor

/- An argument of type api.Prog, opened. -/
namespace Go.Proofs.YtjikkipdmonndaaDoor
open Go.ChangeShapes Go.WideShapes Go.ChangeAt Go.RowKit
set_option maxRecDepth 100000 in
theorem opens_const : Opens Tryd.prog 61 2 constR := ⟨by kernel_rfl, fun enc W sp held fuel cs x h => by
  have hu : Tryd.prog.underlying 61 = some (.struct (Tryd.prog.fieldsOf 61)) := by kernel_rfl
  have hi := opens_int (P := Tryd.prog) Tryd.underlying3 (by kernel_rfl)
  have hl : cs.length = 2 := by
    obtain ⟨xs, n, _, _, hl, _, _⟩ := DataW.trod_struct hu h
    exact hl.trans (by kernel_rfl)
  obtain ⟨o, h0, w0⟩ := opens_field hu h 0 3 0 1 (by kernel_rfl) hi
  obtain ⟨a, h1, w1⟩ := opens_field hu h 1 3 1 1 (by kernel_rfl) hi
  refine ⟨(o, a), ?_, w0, w1⟩
  match cs, hl with
  | [x, y], _ =>
    simp at h0 h1
    rw [h0, h1]⟩
set_option maxRecDepth 100000 in
theorem opens_blk : Opens Tryd.prog 43 2 blkR := ⟨by kernel_rfl, fun enc W sp held fuel cs x h => by
  have hu : Tryd.prog.underlying 43 = some (.struct (Tryd.prog.fieldsOf 43)) := by kernel_rfl
  have hi := opens_int (P := Tryd.prog) Tryd.underlying3 (by kernel_rfl)
  have hs := opens_string (P := Tryd.prog) Tryd.underlying9 (by kernel_rfl)
  have hl : cs.length = 2 := by
    obtain ⟨xs, n, _, _, hl, _, _⟩ := DataW.trod_struct hu h
    exact hl.trans (by kernel_rfl)
  obtain ⟨o, h0, w0⟩ := opens_field hu h 0 9 0 1 (by kernel_rfl) hs
  obtain ⟨a, h1, w1⟩ := opens_field hu h 1 3 1 1 (by kernel_rfl) hi
  refine ⟨⟨o, a⟩, ?_, w0, w1⟩
  match cs, hl with
  | [x, y], _ =>
    simp at h0 h1
    rw [h0, h1]⟩
set_option maxRecDepth 100000 in
theorem opens_var : Opens Tryd.prog 41 5 varR := ⟨by kernel_rfl, fun enc W sp held fuel cs x h => by
  have hu : Tryd.prog.underlying 41 = some (.struct (Tryd.prog.fieldsOf 41)) := by kernel_rfl
  have hi := opens_int (P := Tryd.prog) Tryd.underlying3 (by kernel_rfl)
  have hs := opens_string (P := Tryd.prog) Tryd.underlying9 (by kernel_rfl)
  have hl : cs.length = 5 := by
    obtain ⟨xs, n, _, _, hl, _, _⟩ := DataW.trod_struct hu h
    exact hl.trans (by kernel_rfl)
  obtain ⟨o, h0, w0⟩ := opens_field hu h 0 9 0 1 (by kernel_rfl) hs
  obtain ⟨a, h1, w1⟩ := opens_field hu h 1 3 1 1 (by kernel_rfl) hi
  obtain ⟨b, h2, w2⟩ := opens_field hu h 2 3 2 1 (by kernel_rfl) hi
  obtain ⟨c, h3, w3⟩ := opens_field hu h 3 3 3 1 (by kernel_rfl) hi
  obtain ⟨d, h4, w4⟩ := opens_field hu h 4 3 4 1 (by kernel_rfl) hi
  refine ⟨⟨o, a, b, c, d⟩, ?_, w0, w1, w2, w3, w4⟩
  match cs, hl with
  | [x, y, z, t, u], _ =>
    simp at h0 h1 h2 h3 h4
    rw [h0, h1, h2, h3, h4]⟩
set_option maxRecDepth 100000 in
theorem open_prog {H : Type} {enc : TypeId × Value → H} {W : World} {r : Reach} {b0 : Nat} {v : Value} {d : DataW H} {ps : List MemPlace} {sp : Nat → Bool} {held : Bool}
    (hval : Value.okWide Tryd.prog W r b0 27 v) (h : DataW.Trod enc Tryd.prog W 0 sp held 27 v d ps) :
    ∃ (a b c e : Value) (p : Pr), v = .agg #[a, b, c, e] ∧ PrAt W a b c e p := by
  have hu : Tryd.prog.underlying 27 = some (.struct (Tryd.prog.fieldsOf 27)) := by kernel_rfl
  have hA := opens_slice (P := Tryd.prog) Tryd.underlying22 (by kernel_rfl) (by omega) opens_const
  have hB := opens_slice (P := Tryd.prog) Tryd.underlying23 (by kernel_rfl) (by omega) opens_var
  have hC := opens_slice (P := Tryd.prog) Tryd.underlying24 (by kernel_rfl) (by omega) opens_blk
  have hE := opens_slice (P := Tryd.prog) Tryd.underlying25 (by kernel_rfl) (by omega) opens_unit
  obtain ⟨cs, rfl, hsz⟩ := okWide_struct hu hval
  have hl : cs.toList.length = 4 := by
    have : Tryd.prog.cellsOf 27 = 4 := by kernel_rfl
    rw [this] at hsz; simpa using hsz
  obtain ⟨fuel, hf⟩ := h
  obtain ⟨A0, h0⟩ := opens_field hu hf 0 22 0 1 (by kernel_rfl) hA
  obtain ⟨A1, h1⟩ := opens_field hu hf 1 23 1 1 (by kernel_rfl) hB
  obtain ⟨A2, h2⟩ := opens_field hu hf 2 24 2 1 (by kernel_rfl) hC
  obtain ⟨A3, h3⟩ := opens_field hu hf 3 25 3 1 (by kernel_rfl) hE
  obtain ⟨l⟩ := cs
  simp only [Value.cells] at h0 h1 h2 h3 hl
  match l, hl with
  | [x, y, z, t], _ =>
    simp at h0 h1 h2 h3
    obtain ⟨v0, e0, r0⟩ := h0
    obtain ⟨v1, e1, r1⟩ := h1
    obtain ⟨v2, e2, r2⟩ := h2
    obtain ⟨v3, e3, r3⟩ := h3
    simp at e0 e1 e2 e3
    subst e0 e1 e2 e3
    exact ⟨_, _, _, _, ⟨A0, A1, A2, A3⟩, rfl, r0, r1, r2, r3⟩
end Go.Proofs.YtjikkipdmonndaaDoor
