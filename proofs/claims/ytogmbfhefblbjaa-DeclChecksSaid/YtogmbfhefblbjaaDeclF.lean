/- Layer 17: all units; a program. -/
import Derived.Test.YtogmbfhefblbjaaDeclD
namespace Go.Proofs.Ytogmbfhefblbjaa
open Go.RowKit
set_option linter.unusedSimpArgs false
set_option linter.unusedVariables false
def codeE (n : Nat) : Int := unlessE (decide (0 < n) && decide (n ≤ 16384)) 5
def unitE (x : Un) (m : Bool) : Int := if headE x.params x.locals x.result m = 0 then codeE x.code.length else headE x.params x.locals x.result m
def unitsL (us : List Un) : List Int := us.mapIdx fun i x => unitE x ((i : Int) == 0)
def checkE (p : Pr) : Int := firstE [unlessE (decide (0 < p.units.length) && decide (p.units.length ≤ 8)) 5, unlessE (decide (p.consts.length ≤ 1024) && (decide (p.vars.length ≤ 64) && decide (p.blocks.length ≤ 32))) 5, allE (p.consts.all fun x => kIn x.1 x.2), tablesE p.vars p.blocks, firstE (unitsL p.units)]
theorem unitsL_at {us : List Un} {k : Nat} {x : Un} (h : us[k]? = some x) : (unitsL us)[k]? = some (unitE x ((k : Int) == 0)) := by
  unfold unitsL
  rw [List.getElem?_mapIdx, h]
  rfl
theorem unitsL_len (us : List Un) : (unitsL us).length = us.length := by simp [unitsL]
set_option maxHeartbeats 4000000 in
theorem decl_units (v : Value) (us : List Un) (w : World) (hv : RowR 5 unitR w v us) (hf : ∀ x ∈ us, fewU x = true) : Calls Try.prog 34 #[v] w fun e w' => e = .returned (.int .i64 (firstE (unitsL us))) ∧ Below w.heap.size w w' := by
  have hvl := hv.len
  obtain ⟨sv, cv, rfl⟩ := row_get hv
  obtain ⟨N, hN⟩ : ∃ N, us.length = N := ⟨_, rfl⟩
  have HN := Lib.hid hN
  rw [hN] at hv hvl ⊢
  clear hN
  have HL := Lib.hid (unitsL_len us)
  go_enter Try.func34, Try.ntmps34
  go_wp2_with fail
  go_loopw [8] (fun jj wr => ∃ (k : Nat), k ≤ N ∧ jj = .int .i64 k ∧ Hid (∀ z ∈ (unitsL us).take k, z = 0) ∧ Hid (Below w.heap.size w wr)) (fun jj _ => N - (intOf jj).toNat)
  case atStart => exact ⟨0, by omega, rfl, Lib.hid (by simp), Lib.hid (Below.refl _ _)⟩
  case round =>
    obtain ⟨k, hk, rfl, hall, HB⟩ := hrel
    by_cases hlt : k < N
    · have qk : ((k : Int) < (N : Int)) = True := eq_true (by omega)
      obtain ⟨x, hx⟩ := get_some (L := us) (n := k) (by rw [HN.out]; exact hlt)
      obtain ⟨b, off, rfl, hbw, hc⟩ := unit_at hv (k := k) (by rw [HN.out]; exact hlt)
      obtain ⟨u1, u3, u4, d0, d1, d2, d3, d4, hU⟩ := hc k x hx
      have d0 := (HB.out.cell (p := ⟨b, off + k * 5, none⟩) hbw).trans d0
      have d1 := (HB.out.cell (p := ⟨b, off + k * 5 + 1, none⟩) hbw).trans d1
      have d2 := (HB.out.cell (p := ⟨b, off + k * 5 + 2, none⟩) hbw).trans d2
      have d3 := (HB.out.cell (p := ⟨b, off + k * 5 + 3, none⟩) hbw).trans d3
      have d4 := (HB.out.cell (p := ⟨b, off + k * 5 + 4, none⟩) hbw).trans d4
      have hwr := HB.out.size
      have hfx := hf x (List.mem_of_getElem? hx)
      have hfx' : x.name.length ≤ 300 ∧ x.params.length ≤ 20 ∧ x.locals.length ≤ 1100 ∧ x.code.length ≤ 300 := of_decide_eq_true hfx
      obtain ⟨a1, b1, rfl⟩ := row_get hU.ps
      obtain ⟨a3, b3, rfl⟩ := row_get hU.ls
      obtain ⟨a4, b4, rfl⟩ := row_get hU.cs
      have hU' := hU.below HB.out
      have HZ := Lib.hid (unitsL_at hx)
      obtain ⟨mm, hmm⟩ : ∃ m, ((k : Int) == 0) = m := ⟨_, rfl⟩
      rw [hmm] at HZ
      have HT := Lib.hid (take_snoc HZ.out)
      obtain ⟨W1, hW1⟩ : ∃ W1, W1 = wr.alloc (.cells #[.string ⟨x.name.toArray⟩, .slice a1 x.params.length b1, .int .i64 x.result, .slice a3 x.locals.length b3, .slice a4 x.code.length b4] 41) := ⟨_, rfl⟩
      have hb1 : Below wr.heap.size wr W1 := by rw [hW1]; exact by (repeat' (first | (with_reducible exact Below.refl _ _) | (with_reducible assumption) | (with_reducible refine below_drewN ?_ _) | (with_reducible refine Below.alloc ?_ ?_ _) | (with_reducible refine Below.drew ?_) | (with_reducible refine Below.setCell ?_ ?_ _) | go_size))
      have hj1 : W1.heap[wr.heap.size]? = some (.cells #[.string ⟨x.name.toArray⟩, .slice a1 x.params.length b1, .int .i64 x.result, .slice a3 x.locals.length b3, .slice a4 x.code.length b4] 41) := by rw [hW1]; exact get_last rfl
      have e1 := obj_cell hj1 (i := 1) rfl
      have e2 := obj_cell hj1 (i := 2) rfl
      have e3 := obj_cell hj1 (i := 3) rfl
      have HJ := Lib.hid hj1
      have HHd := decl_Head (.slice a1 x.params.length b1) (.slice a3 x.locals.length b3) x.params x.locals x.result mm W1 (hU'.ps.below intR_stable hb1) (hU'.ls.below intR_stable hb1) hU'.r64 hfx'.2.1 hfx'.2.2.1
      have HB1 := Lib.hid (HB.out.trans (hb1.mono hwr))
      have hz1 : W1.heap.size = wr.heap.size + 1 := by rw [hW1]; simp
      have HW1 := Lib.hid hW1
      clear hc hx hU hU' hW1 hb1 hj1 hfx
      go_upto_region 4 with fail
      rw [← HW1.out]
      by_cases h0 : headE x.params x.locals x.result mm = 0
      · rw [h0] at HHd
        have HC := Lib.hid (show unitE x mm = codeE x.code.length from if_pos h0)
        clear h0
        go_wp2_with fail
        refine HHd.mono ?_; rintro e w2 ⟨rfl, hb2⟩
        have hj2 := obj_below HJ.out hb2 (by omega)
        have e4 := obj_cell hj2 (i := 4) rfl
        have HB2 := Lib.hid (HB1.out.trans (hb2.mono HB1.out.size))
        clear hb2 hj2
        by_cases hp : 0 < x.code.length
        · have q1 : (0 < (x.code.length : Int)) = True := eq_true (by omega)
          have q1' : (0 < x.code.length) = True := eq_true hp
          have q2 : ((x.code.length : Int) ≤ 16384) = True := eq_true (by omega)
          have q2' : (x.code.length ≤ 16384) = True := eq_true (by omega)
          have HC0 := Lib.hid (show unitE x mm = 0 by rw [HC.out]; exact unless_yes (by simp [hp]; omega))
          clear hp
          go_wp2_with fail
          refine (decl_unless _ _ _).mono ?_; rintro e w3 ⟨rfl, rfl⟩
          rw [unless_yes rfl]
          go_wp2_with fail
          go_roundw
          case rel => exact ⟨k + 1, by omega, by simp, Lib.hid (by rw [HT.out]; intro z hz; rcases List.mem_append.1 hz with h | h; exact hall.out z h; rw [List.mem_singleton.1 h]; exact HC0.out), HB2⟩
          case measure => first | (simp [intOf]; done) | (simp [intOf]; omega)
        · have q1 : (0 < (x.code.length : Int)) = False := eq_false (by omega)
          have q1' : (0 < x.code.length) = False := eq_false hp
          have HC5 := Lib.hid (show unitE x mm = 5 by rw [HC.out]; exact unless_no (by simp; omega))
          have hfe := Lib.hid (firstE_at hall.out HZ.out (by rw [HC5.out]; decide))
          clear hp
          go_wp2_with fail
          refine (decl_unless _ _ _).mono ?_; rintro e w3 ⟨rfl, rfl⟩
          rw [unless_no rfl]
          go_wp2_with fail
          go_ret
          exact ⟨by rw [hfe.out, HC5.out]; rfl, HB2.out⟩
      · obtain ⟨z, hz⟩ : ∃ z, headE x.params x.locals x.result mm = z := ⟨_, rfl⟩
        rw [hz] at HHd h0
        have HC := Lib.hid (show unitE x mm = z by unfold unitE; rw [hz, if_neg h0])
        have hfe := Lib.hid (firstE_at hall.out HZ.out (by rw [HC.out]; exact h0))
        have q0 : (z != 0) = true := by simpa using h0
        have q0' : (z == 0) = false := by simpa using h0
        clear hz
        go_wp2_with fail
        refine HHd.mono ?_; rintro e w2 ⟨rfl, hb2⟩
        have HB2 := Lib.hid (HB1.out.trans (hb2.mono HB1.out.size))
        clear hb2
        go_wp2_with fail
        go_ret
        exact ⟨by rw [hfe.out, HC.out]; rfl, HB2.out⟩
    · obtain rfl : k = N := by omega
      have qk : ((k : Int) < (k : Int)) = False := eq_false (by omega)
      have hfe := Lib.hid (firstE_none (es := unitsL us) (by have := hall.out; rwa [List.take_of_length_le (by rw [HL.out, HN.out]; exact Nat.le_refl _)] at this))
      go_wp2_with fail
      go_ret
      exact ⟨by rw [hfe.out]; rfl, HB.out⟩
end Go.Proofs.Ytogmbfhefblbjaa
