/- Whether a program's lists are short: all of it. -/
import Derived.Test.YtefejcofmopjfaaGreatDoorFew
namespace Go.Proofs.YtefejcofmopjfaaGreatDoor
open Go.RowKit
set_option linter.unusedSimpArgs false
set_option linter.unusedVariables false
set_option maxHeartbeats 4000000 in
theorem law16_Few (vc vv vb vu : Value) (p : Pr) (w : World) (h : PrAt w vc vv vb vu p) : Calls Tryz.prog 5 #[.agg #[vc, vv, vb, vu]] w fun e w' => e = .returned (.bool (fewP p)) ∧ Below w.heap.size w w' := by
  have l0 := h.cs.len
  have l1 := h.vs.len
  have l2 := h.bs.len
  have l3 := h.us.len
  have hv := h.vs
  have hb := h.bs
  have hu := h.us
  obtain ⟨s0, t0, rfl⟩ := row_get h.cs
  obtain ⟨s1, t1, rfl⟩ := row_get h.vs
  obtain ⟨s2, t2, rfl⟩ := row_get h.bs
  obtain ⟨s3, t3, rfl⟩ := row_get h.us
  have cp := @cell_past
  have HD := Lib.hid (show fewP p = decide ((p.consts.length ≤ 60 ∧ p.vars.length ≤ 70 ∧ p.blocks.length ≤ 40 ∧ p.units.length ≤ 10) ∧ (∀ x ∈ p.vars, x.name.length ≤ 300) ∧ (∀ x ∈ p.blocks, x.name.length ≤ 300) ∧ ∀ x ∈ p.units, fewU x = true) from rfl)
  clear h
  obtain ⟨n0, e0⟩ : ∃ n, p.consts.length = n := ⟨_, rfl⟩
  obtain ⟨n1, e1⟩ : ∃ n, p.vars.length = n := ⟨_, rfl⟩
  obtain ⟨n2, e2⟩ : ∃ n, p.blocks.length = n := ⟨_, rfl⟩
  obtain ⟨n3, e3⟩ : ∃ n, p.units.length = n := ⟨_, rfl⟩
  rw [e0] at l0 HD ⊢
  rw [e1] at l1 hv HD ⊢
  rw [e2] at l2 hb HD ⊢
  rw [e3] at l3 hu HD ⊢
  have HE := Lib.hid (show p.vars.length = n1 ∧ p.blocks.length = n2 ∧ p.units.length = n3 from ⟨e1, e2, e3⟩)
  clear e0 e1 e2 e3
  by_cases h0 : 60 < n0
  · have q0 : (60 < (n0 : Int)) = True := eq_true (by omega)
    have hs := Lib.hid (HD.out.trans (decide_eq_false (fun g => by omega)))
    clear h0 hv hb hu
    go_enter Tryz.func5, Tryz.ntmps5
    go_wp2_with fail
    go_ret
    exact ⟨by rw [hs.out]; rfl, by (repeat' (first | (with_reducible exact Below.refl _ _) | (with_reducible assumption) | (with_reducible refine below_drewN ?_ _) | (with_reducible refine Below.alloc ?_ ?_ _) | (with_reducible refine Below.drew ?_) | (with_reducible refine Below.setCell ?_ ?_ _) | go_size))⟩
  have q0 : (60 < (n0 : Int)) = False := eq_false (by omega)
  by_cases h1 : 70 < n1
  · have q1 : (70 < (n1 : Int)) = True := eq_true (by omega)
    have hs := Lib.hid (HD.out.trans (decide_eq_false (fun g => by omega)))
    clear h0 h1 hv hb hu
    go_enter Tryz.func5, Tryz.ntmps5
    go_wp2_with fail
    go_ret
    exact ⟨by rw [hs.out]; rfl, by (repeat' (first | (with_reducible exact Below.refl _ _) | (with_reducible assumption) | (with_reducible refine below_drewN ?_ _) | (with_reducible refine Below.alloc ?_ ?_ _) | (with_reducible refine Below.drew ?_) | (with_reducible refine Below.setCell ?_ ?_ _) | go_size))⟩
  have q1 : (70 < (n1 : Int)) = False := eq_false (by omega)
  by_cases h2 : 40 < n2
  · have q2 : (40 < (n2 : Int)) = True := eq_true (by omega)
    have hs := Lib.hid (HD.out.trans (decide_eq_false (fun g => by omega)))
    clear h0 h1 h2 hv hb hu
    go_enter Tryz.func5, Tryz.ntmps5
    go_wp2_with fail
    go_ret
    exact ⟨by rw [hs.out]; rfl, by (repeat' (first | (with_reducible exact Below.refl _ _) | (with_reducible assumption) | (with_reducible refine below_drewN ?_ _) | (with_reducible refine Below.alloc ?_ ?_ _) | (with_reducible refine Below.drew ?_) | (with_reducible refine Below.setCell ?_ ?_ _) | go_size))⟩
  have q2 : (40 < (n2 : Int)) = False := eq_false (by omega)
  by_cases h3 : 10 < n3
  · have q3 : (10 < (n3 : Int)) = True := eq_true (by omega)
    have hs := Lib.hid (HD.out.trans (decide_eq_false (fun g => by omega)))
    clear h0 h1 h2 h3 hv hb hu
    go_enter Tryz.func5, Tryz.ntmps5
    go_wp2_with fail
    go_ret
    exact ⟨by rw [hs.out]; rfl, by (repeat' (first | (with_reducible exact Below.refl _ _) | (with_reducible assumption) | (with_reducible refine below_drewN ?_ _) | (with_reducible refine Below.alloc ?_ ?_ _) | (with_reducible refine Below.drew ?_) | (with_reducible refine Below.setCell ?_ ?_ _) | go_size))⟩
  have q3 : (10 < (n3 : Int)) = False := eq_false (by omega)
  have HY := Lib.hid (fun (g1 : ∀ x ∈ p.vars, x.name.length ≤ 300) (g2 : ∀ x ∈ p.blocks, x.name.length ≤ 300) (g3 : ∀ x ∈ p.units, fewU x = true) => HD.out.trans (decide_eq_true ⟨by omega, g1, g2, g3⟩))
  have HV := Lib.hid (fun (x : Vr) (hx : x ∈ p.vars) (g : 300 < x.name.length) => HD.out.trans (decide_eq_false (fun q => by have := q.2.1 x hx; omega)))
  have HB := Lib.hid (fun (x : Bk) (hx : x ∈ p.blocks) (g : 300 < x.name.length) => HD.out.trans (decide_eq_false (fun q => by have := q.2.2.1 x hx; omega)))
  have HU := Lib.hid (fun (x : Un) (hx : x ∈ p.units) (g : fewU x = false) => HD.out.trans (decide_eq_false (fun q => by have := q.2.2.2 x hx; rw [g] at this; cases this)))
  clear HD h0 h1 h2 h3
  have mc := @more_cell
  have mf := @more_frozen
  have ms := @more_set
  have md := more_drewN
  have mm := more_more
  go_enter Tryz.func5, Tryz.ntmps5
  go_wp2_with fail
  go_loopw [3] (fun j wr => ∃ k : Nat, k ≤ n1 ∧ j = .int .i64 k ∧ Hid (∀ x ∈ p.vars.take k, x.name.length ≤ 300) ∧ wr = w.alloc (.cells #[.slice s0 n0 t0, .slice s1 n1 t1, .slice s2 n2 t2, .slice s3 n3 t3] 27)) (fun j _ => n1 - (intOf j).toNat)
  case atStart => exact ⟨0, by omega, rfl, Lib.hid (by simp), rfl⟩
  case round =>
    obtain ⟨k, hk, rfl, hall, rfl⟩ := hrel
    by_cases hlt : k < n1
    · obtain ⟨x, hx⟩ := get_some (L := p.vars) (n := k) (by have := HE.out.1; omega)
      obtain ⟨b, off, rfl, hbw, hc⟩ := var_at hv (k := k) (lt_of_get hx)
      obtain ⟨c0, _, _, _, _, hz, _⟩ := hc k x hx
      have hz : x.name.length ≤ 9223372036854775807 := hz
      have hsz : (⟨x.name.toArray⟩ : ByteArray).size = x.name.length := by simp [ByteArray.size]
      have HX := Lib.hid hx
      clear hc hx
      generalize (⟨x.name.toArray⟩ : ByteArray) = nm at *
      by_cases hl : 300 < x.name.length
      · have hs := Lib.hid (HV.out x (List.mem_of_getElem? HX.out) hl)
        generalize x.name.length = nl at *
        have q4 : (300 < (nl : Int)) = True := eq_true (by omega)
        clear hall hv hb hu
        go_wp2_with fail
        go_ret
        exact ⟨by rw [hs.out]; rfl, by (repeat' (first | (with_reducible exact Below.refl _ _) | (with_reducible assumption) | (with_reducible refine below_drewN ?_ _) | (with_reducible refine Below.alloc ?_ ?_ _) | (with_reducible refine Below.drew ?_) | (with_reducible refine Below.setCell ?_ ?_ _) | go_size))⟩
      · have hs := Lib.hid (show ∀ m ∈ p.vars.take (k + 1), m.name.length ≤ 300 by
          intro m hm
          rw [take_snoc HX.out] at hm
          rcases List.mem_append.1 hm with hm | hm
          · exact hall.out m hm
          · rw [List.mem_singleton.1 hm]; omega)
        generalize x.name.length = nl at *
        have q4 : (300 < (nl : Int)) = False := eq_false (by omega)
        clear hall
        go_wp2_with fail
        go_roundw
        case rel => exact ⟨k + 1, by omega, by simp, hs, trivial⟩
        case measure => first | (simp [intOf]; done) | (simp [intOf]; omega)
    · obtain rfl : k = n1 := by omega
      have H1 := Lib.hid (show ∀ x ∈ p.vars, x.name.length ≤ 300 by have := hall.out; rw [List.take_of_length_le (by have := HE.out.1; omega)] at this; exact this)
      clear hall hv
      go_wp2_with fail
      go_loopw [4] (fun j wr => ∃ q : Nat, q ≤ n2 ∧ j = .int .i64 q ∧ Hid (∀ x ∈ p.blocks.take q, x.name.length ≤ 300) ∧ wr = w.alloc (.cells #[.slice s0 n0 t0, .slice s1 k t1, .slice s2 n2 t2, .slice s3 n3 t3] 27)) (fun j _ => n2 - (intOf j).toNat)
      case atStart => exact ⟨0, by omega, rfl, Lib.hid (by simp), rfl⟩
      case round =>
        obtain ⟨q, hq, rfl, hall, rfl⟩ := hrel
        by_cases hlq : q < n2
        · obtain ⟨x, hx⟩ := get_some (L := p.blocks) (n := q) (by have := HE.out.2.1; omega)
          obtain ⟨b, off, rfl, hbw, hc⟩ := blk_at hb (k := q) (lt_of_get hx)
          obtain ⟨c0, _, hz, _⟩ := hc q x hx
          have hz : x.name.length ≤ 9223372036854775807 := hz
          have hsz : (⟨x.name.toArray⟩ : ByteArray).size = x.name.length := by simp [ByteArray.size]
          have HX := Lib.hid hx
          clear hc hx
          generalize (⟨x.name.toArray⟩ : ByteArray) = nm at *
          by_cases hl : 300 < x.name.length
          · have hs := Lib.hid (HB.out x (List.mem_of_getElem? HX.out) hl)
            generalize x.name.length = nl at *
            have q4 : (300 < (nl : Int)) = True := eq_true (by omega)
            clear hall hb hu
            go_wp2_with fail
            go_ret
            exact ⟨by rw [hs.out]; rfl, by (repeat' (first | (with_reducible exact Below.refl _ _) | (with_reducible assumption) | (with_reducible refine below_drewN ?_ _) | (with_reducible refine Below.alloc ?_ ?_ _) | (with_reducible refine Below.drew ?_) | (with_reducible refine Below.setCell ?_ ?_ _) | go_size))⟩
          · have hs := Lib.hid (show ∀ m ∈ p.blocks.take (q + 1), m.name.length ≤ 300 by
              intro m hm
              rw [take_snoc HX.out] at hm
              rcases List.mem_append.1 hm with hm | hm
              · exact hall.out m hm
              · rw [List.mem_singleton.1 hm]; omega)
            generalize x.name.length = nl at *
            have q4 : (300 < (nl : Int)) = False := eq_false (by omega)
            clear hall
            go_wp2_with fail
            go_roundw
            case rel => exact ⟨q + 1, by omega, by simp, hs, trivial⟩
            case measure => first | (simp [intOf]; done) | (simp [intOf]; omega)
        · obtain rfl : q = n2 := by omega
          have H2 := Lib.hid (show ∀ x ∈ p.blocks, x.name.length ≤ 300 by have := hall.out; rw [List.take_of_length_le (by have := HE.out.2.1; omega)] at this; exact this)
          clear hall hb
          go_wp2_with fail
          go_loopw [5] (fun j wr => ∃ (i : Nat) (l : Array Obj) (d : Nat), i ≤ n3 ∧ j = .int .i64 i ∧ Hid (∀ x ∈ p.units.take i, fewU x = true) ∧ wr = wmore (w.alloc (.cells #[.slice s0 n0 t0, .slice s1 k t1, .slice s2 q t2, .slice s3 n3 t3] 27)) l d) (fun j _ => n3 - (intOf j).toNat)
          case atStart => exact ⟨0, #[], _, by omega, rfl, Lib.hid (by simp), more_start _⟩
          case round =>
            obtain ⟨i, l, d, hi, rfl, hall, rfl⟩ := hrel
            by_cases hli : i < n3
            · have hB : Below w.heap.size w (wmore (w.alloc (.cells #[.slice s0 n0 t0, .slice s1 k t1, .slice s2 q t2, .slice s3 n3 t3] 27)) l d) := by (repeat' (first | (with_reducible exact Below.refl _ _) | (with_reducible assumption) | (with_reducible refine more_below ?_ ?_ _ _) | (with_reducible refine below_drewN ?_ _) | (with_reducible refine Below.alloc ?_ ?_ _) | (with_reducible refine Below.drew ?_) | (with_reducible refine Below.setCell ?_ ?_ _) | (simp only [World.size_alloc, World.size_setCell, World.size_drew, more_size, World.heap_drewN]; omega) | go_size))
              obtain ⟨x, hx⟩ := get_some (L := p.units) (n := i) (by have := HE.out.2.2; omega)
              obtain ⟨b, off, rfl, hbw, hc⟩ := unit_at hu (k := i) (lt_of_get hx)
              obtain ⟨u1, u3, u4, c0, c1, c2, c3, c4, hU⟩ := hc i x hx
              have HX := Lib.hid hx
              have HF := Lib.hid (law15_Few u1 u3 u4 x _ (hU.below hB))
              obtain ⟨su1, cu1, rfl⟩ := row_get hU.ps
              obtain ⟨su3, cu3, rfl⟩ := row_get hU.ls
              obtain ⟨su4, cu4, rfl⟩ := row_get hU.cs
              have hU0 := hU.below hB
              clear hc hx hU
              go_wp2_with fail
              refine (HF.out).mono ?_
              rintro e W1 ⟨rfl, hb1⟩
              obtain ⟨l2, d2, rfl⟩ := more_of hb1
              clear hb1
              rw [more_more]
              generalize hff : fewU x = ff
              cases ff
              · have hs := Lib.hid (HU.out x (List.mem_of_getElem? HX.out) hff)
                clear hff
                go_wp2_with fail
                go_ret
                exact ⟨by rw [hs.out]; rfl, by (repeat' (first | (with_reducible exact Below.refl _ _) | (with_reducible assumption) | (with_reducible refine more_below ?_ ?_ _ _) | (with_reducible refine below_drewN ?_ _) | (with_reducible refine Below.alloc ?_ ?_ _) | (with_reducible refine Below.drew ?_) | (with_reducible refine Below.setCell ?_ ?_ _) | (simp only [World.size_alloc, World.size_setCell, World.size_drew, more_size, World.heap_drewN]; omega) | go_size))⟩
              · have hs := Lib.hid (show ∀ m ∈ p.units.take (i + 1), fewU m = true by
                  intro m hm
                  rw [take_snoc HX.out] at hm
                  rcases List.mem_append.1 hm with hm | hm
                  · exact hall.out m hm
                  · rw [List.mem_singleton.1 hm]; exact hff)
                clear hff
                go_wp2_with fail
                go_roundw
                case rel => exact ⟨i + 1, _, _, by omega, by simp, hs, rfl⟩
                case measure => first | (simp [intOf]; done) | (simp [intOf]; omega)
            · obtain rfl : i = n3 := by omega
              have hs := Lib.hid (HY.out H1.out H2.out (by have := hall.out; rw [List.take_of_length_le (by have := HE.out.2.2; omega)] at this; exact this))
              clear hall
              go_wp2_with fail
              go_ret
              exact ⟨by rw [hs.out]; rfl, by (repeat' (first | (with_reducible exact Below.refl _ _) | (with_reducible assumption) | (with_reducible refine more_below ?_ ?_ _ _) | (with_reducible refine below_drewN ?_ _) | (with_reducible refine Below.alloc ?_ ?_ _) | (with_reducible refine Below.drew ?_) | (with_reducible refine Below.setCell ?_ ?_ _) | (simp only [World.size_alloc, World.size_setCell, World.size_drew, more_size, World.heap_drewN]; omega) | go_size))⟩
end Go.Proofs.YtefejcofmopjfaaGreatDoor
