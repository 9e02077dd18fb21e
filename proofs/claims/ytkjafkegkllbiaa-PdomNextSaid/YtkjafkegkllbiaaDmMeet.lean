/- dom.Idom's meeting of two places, by ranks and a list. -/
import Derived.Test.YtkjafkegkllbiaaGrid
import Derived.Test.YtkjafkegkllbiaaDomC
import Derived.Deep.LoopGhost
import Derived.Deep.Cut
import Derived.Deep.CutRange
import Derived.Deep.QuietTactic
import Derived.BigQuiet
namespace Go.Proofs.Ytkjafkegkllbiaa
open Go.RowKit
set_option linter.unusedSimpArgs false
set_option linter.unusedVariables false
open DM (gI okN meetF)
set_option maxRecDepth 100000 in
set_option maxHeartbeats 4000000 in
theorem dom_meet (gr gd n : Nat) (rk D : List Int) (ar ad : Option Addr) (cr cd : Nat) (w : World) (c1 : w.cell? ⟨gr, 0, none⟩ = some (.slice ar n cr)) (c2 : w.cell? ⟨gd, 0, none⟩ = some (.slice ad n cd))
    (hr : RowR 1 intR w (.slice ar n cr) rk) (hd : RowR 1 intR w (.slice ad n cd) D) (hrn : rk.length = n) (hdn : D.length = n) (N a b c : Nat) (ha : a < n) (hb : b < n) (hm : meetF rk D N a b = some c) :
    Calls Try.prog 22 #[.int .i64 (a : Int), .int .i64 (b : Int), .pointer (some ⟨gr, 0, none⟩), .pointer (some ⟨gd, 0, none⟩)] w fun r w' => r = .returned (.int .i64 (c : Int)) ∧ ∃ m, w' = w.drewN m := by
  have HR := Lib.hid hr
  have HDr := Lib.hid hd
  have hlen := hd.len
  rw [hdn] at hlen
  have HRN := Lib.hid hrn
  have HDN := Lib.hid hdn
  have HA := Lib.hid ha
  have HB := Lib.hid hb
  have HM := Lib.hid hm
  clear hr hd hrn hdn ha hb hm
  go_enter Try.func22, Try.ntmps22
  go_wp2_with fail
  go_loopg [0, 1] N (fun k va vb wr => ∃ (x y : Nat), va = .int .i64 (x : Int) ∧ vb = .int .i64 (y : Int) ∧ Hid (x < n ∧ y < n ∧ meetF rk D k x y = some c) ∧ ∃ m, wr = w.drewN m)
  case atStart => exact ⟨a, b, rfl, rfl, Lib.hid ⟨HA.out, HB.out, HM.out⟩, 0, rfl⟩
  case round =>
    obtain ⟨x, y, rfl, rfl, hxy, m, hwr⟩ := hrel
    subst hwr
    by_cases he : x = y
    · subst he
      have hc : x = c := by
        have h := hxy.out.2.2
        cases gk with
        | zero => simp [meetF] at h; exact h
        | succ k => simp [meetF] at h; exact h
      subst hc
      have e1 : ((x : Int) != (x : Int)) = false := by simp
      clear hxy
      go_wp2_with fail
      go_ret
      exact ⟨rfl, m, rfl⟩
    · have e1 : ((x : Int) != (y : Int)) = true := by have : ¬ (x : Int) = (y : Int) := by omega
                                                      simpa using this
      have hx := hxy.out.1
      have hy := hxy.out.2.1
      obtain ⟨br, orr, rfl, hbr, hnr, hcr, _, _⟩ := int_at HR.out (k := x) (by rw [HRN.out]; exact hx)
      obtain ⟨br', orr', hbe, _, _, _, rx, _⟩ := int_at HR.out (k := x) (by rw [HRN.out]; exact hx)
      obtain ⟨br2, orr2, hbe2, _, _, _, ry, _⟩ := int_at HR.out (k := y) (by rw [HRN.out]; exact hy)
      obtain ⟨bd, od, rfl, hbd, hnd, hcd, _, _⟩ := int_at HDr.out (k := x) (by rw [HDN.out]; exact hx)
      obtain ⟨bd', od', hde, _, _, _, dx, _⟩ := int_at HDr.out (k := x) (by rw [HDN.out]; exact hx)
      obtain ⟨bd2, od2, hde2, _, _, _, dy, _⟩ := int_at HDr.out (k := y) (by rw [HDN.out]; exact hy)
      simp only [Option.some.injEq, Addr.mk.injEq, and_true] at hbe hbe2 hde hde2
      obtain ⟨rfl, rfl⟩ := hbe
      obtain ⟨rfl, rfl⟩ := hbe2
      obtain ⟨rfl, rfl⟩ := hde
      obtain ⟨rfl, rfl⟩ := hde2
      have HE := Lib.hid (show ∃ k', gk = k' + 1 ∧ (if rk.getD y 0 < rk.getD x 0 then (if okN n (D.getD x 0) = true then meetF rk D k' (D.getD x 0).toNat y else none) else (if okN n (D.getD y 0) = true then meetF rk D k' x (D.getD y 0).toNat else none)) = some c by
        have h := hxy.out.2.2
        cases gk with
        | zero => simp [meetF, he] at h
        | succ k =>
          unfold meetF at h
          rw [if_neg he, HDN.out] at h
          exact ⟨k, rfl, h⟩)
      have qx : ((x : Int) < (n : Int)) = True := eq_true (by omega)
      have qx' : (x < n) = True := eq_true hx
      have qy : ((y : Int) < (n : Int)) = True := eq_true (by omega)
      have qy' : (y < n) = True := eq_true hy
      have HX := Lib.hid hx
      have HY := Lib.hid hy
      generalize rk.getD x 0 = rx' at *
      generalize rk.getD y 0 = ry' at *
      generalize D.getD x 0 = dx' at *
      generalize D.getD y 0 = dy' at *
      clear hxy he hx hy
      by_cases hlt : ry' < rx'
      · have q3 : (ry' < rx') = True := eq_true hlt
        obtain ⟨k', hgk, h⟩ := HE.out
        rw [if_pos hlt] at h
        split at h
        · rename_i hok
          obtain ⟨h1, h2⟩ := DM.okN_cast hok
          have HH := Lib.hid (And.intro h1 (And.intro h2 h))
          subst hgk
          clear HE h hok h1 h2 hlt
          go_upto_region 2 with fail
          go_quiet (fail)
          go_wp2_with fail
          go_roundg k'
          case measure => omega
          case rel => exact ⟨dx'.toNat, y, by rw [HH.out.1], rfl, Lib.hid ⟨HH.out.2.1, HY.out, HH.out.2.2⟩, _, rfl⟩
        · cases h
      · have q3 : (ry' < rx') = False := eq_false hlt
        obtain ⟨k', hgk, h⟩ := HE.out
        rw [if_neg hlt] at h
        split at h
        · rename_i hok
          obtain ⟨h1, h2⟩ := DM.okN_cast hok
          have HH := Lib.hid (And.intro h1 (And.intro h2 h))
          subst hgk
          clear HE h hok h1 h2 hlt
          go_upto_region 2 with fail
          go_quiet (fail)
          go_wp2_with fail
          go_roundg k'
          case measure => omega
          case rel => exact ⟨x, dy'.toNat, rfl, by rw [HH.out.1], Lib.hid ⟨HX.out, HH.out.2.1, HH.out.2.2⟩, _, rfl⟩
        · cases h
end Go.Proofs.Ytkjafkegkllbiaa
