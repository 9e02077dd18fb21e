/- Merged texts: Few, FewP, Ints, StRep, StRead, StFit, StFitR, ExS, TablesR, DeclA, DeclB, DeclC, Slots, UnSlots, DeclD, DeclF, DeclG, RowOwn, ChunkC, HeldTill, DeclH, UnPl, DeclAw, DeclPl, LawDeclLe, RefHead, RefCheck, Facts, DeclS, SlotsO, DeclSc, RefScope, ExSc, NnP. -/
import Derived.Test.YtknbomikiakpmaaDoorMg0
import Derived.LoopTactic
import Derived.OwnWalk
import Derived.WalkKit
import Derived.WalkSpells
import Derived.WalkLawsBesides
import Derived.Deep.QuietTactic
import Derived.BigQuiet
import Derived.WalkSmall
import Derived.IntWalk
import Derived.Deep.CutRange
import Derived.Deep.Cut
import Derived.Deep.RegionHeld3
import Derived.RegionTactic
import Derived.Laws.OwnMore
import Derived.BigRegion
/- Whether a program's lists are short. -/
namespace Go.Proofs.YtknbomikiakpmaaDoor
open Go.RowKit
set_option linter.unusedSimpArgs false
set_option linter.unusedVariables false
set_option maxHeartbeats 2000000 in
theorem law15_Few (a b c : Value) (x : Un) (w : World) (h : UnAt w a b c x) : Calls Tryd.prog 54 #[.agg #[.string ⟨x.name.toArray⟩, a, .int .i64 x.result, b, c]] w fun e w' => e = .returned (.bool (fewU x)) ∧ Below w.heap.size w w' := by
  have l1 := h.ps.len
  have l2 := h.ls.len
  have l3 := h.cs.len
  have l0 : x.name.length ≤ 9223372036854775807 := h.ns
  obtain ⟨sa, ca, rfl⟩ := row_get h.ps
  obtain ⟨sb, cb, rfl⟩ := row_get h.ls
  obtain ⟨sc, cc, rfl⟩ := row_get h.cs
  have cp := @cell_past
  have HD := Lib.hid (show fewU x = decide (x.name.length ≤ 300 ∧ x.params.length ≤ 20 ∧ x.locals.length ≤ 1100 ∧ x.code.length ≤ 300) from rfl)
  clear h
  have hsz : (⟨x.name.toArray⟩ : ByteArray).size = x.name.length := by simp [ByteArray.size]
  generalize (⟨x.name.toArray⟩ : ByteArray) = nm at *
  generalize x.name.length = n0 at *
  generalize x.params.length = n1 at *
  generalize x.locals.length = n2 at *
  generalize x.code.length = n3 at *
  by_cases h0 : n0 ≤ 300
  · have q0 : ((n0 : Int) ≤ 300) = True := eq_true (by omega)
    by_cases h1 : n1 ≤ 20
    · have q1 : ((n1 : Int) ≤ 20) = True := eq_true (by omega)
      by_cases h2 : n2 ≤ 1100
      · have q2 : ((n2 : Int) ≤ 1100) = True := eq_true (by omega)
        by_cases h3 : n3 ≤ 300
        · have q3 : ((n3 : Int) ≤ 300) = True := eq_true (by omega)
          have hs := Lib.hid (HD.out.trans (decide_eq_true ⟨h0, h1, h2, h3⟩))
          clear h0 h1 h2 h3
          go_enter Tryd.func54, Tryd.ntmps54
          go_wp2_with fail
          go_ret
          exact ⟨by rw [hs.out]; rfl, by (repeat' (first | (with_reducible exact Below.refl _ _) | (with_reducible assumption) | (with_reducible refine below_drewN ?_ _) | (with_reducible refine Below.alloc ?_ ?_ _) | (with_reducible refine Below.drew ?_) | (with_reducible refine Below.setCell ?_ ?_ _) | go_size))⟩
        · have q3 : ((n3 : Int) ≤ 300) = False := eq_false (by omega)
          have hs := Lib.hid (HD.out.trans (decide_eq_false (fun g => h3 g.2.2.2)))
          clear h0 h1 h2 h3
          go_enter Tryd.func54, Tryd.ntmps54
          go_wp2_with fail
          go_ret
          exact ⟨by rw [hs.out]; rfl, by (repeat' (first | (with_reducible exact Below.refl _ _) | (with_reducible assumption) | (with_reducible refine below_drewN ?_ _) | (with_reducible refine Below.alloc ?_ ?_ _) | (with_reducible refine Below.drew ?_) | (with_reducible refine Below.setCell ?_ ?_ _) | go_size))⟩
      · have q2 : ((n2 : Int) ≤ 1100) = False := eq_false (by omega)
        have hs := Lib.hid (HD.out.trans (decide_eq_false (fun g => h2 g.2.2.1)))
        clear h0 h1 h2
        go_enter Tryd.func54, Tryd.ntmps54
        go_wp2_with fail
        go_ret
        exact ⟨by rw [hs.out]; rfl, by (repeat' (first | (with_reducible exact Below.refl _ _) | (with_reducible assumption) | (with_reducible refine below_drewN ?_ _) | (with_reducible refine Below.alloc ?_ ?_ _) | (with_reducible refine Below.drew ?_) | (with_reducible refine Below.setCell ?_ ?_ _) | go_size))⟩
    · have q1 : ((n1 : Int) ≤ 20) = False := eq_false (by omega)
      have hs := Lib.hid (HD.out.trans (decide_eq_false (fun g => h1 g.2.1)))
      clear h0 h1
      go_enter Tryd.func54, Tryd.ntmps54
      go_wp2_with fail
      go_ret
      exact ⟨by rw [hs.out]; rfl, by (repeat' (first | (with_reducible exact Below.refl _ _) | (with_reducible assumption) | (with_reducible refine below_drewN ?_ _) | (with_reducible refine Below.alloc ?_ ?_ _) | (with_reducible refine Below.drew ?_) | (with_reducible refine Below.setCell ?_ ?_ _) | go_size))⟩
  · have q0 : ((n0 : Int) ≤ 300) = False := eq_false (by omega)
    have hs := Lib.hid (HD.out.trans (decide_eq_false (fun g => h0 g.1)))
    clear h0
    go_enter Tryd.func54, Tryd.ntmps54
    go_wp2_with fail
    go_ret
    exact ⟨by rw [hs.out]; rfl, by (repeat' (first | (with_reducible exact Below.refl _ _) | (with_reducible assumption) | (with_reducible refine below_drewN ?_ _) | (with_reducible refine Below.alloc ?_ ?_ _) | (with_reducible refine Below.drew ?_) | (with_reducible refine Below.setCell ?_ ?_ _) | go_size))⟩
end Go.Proofs.YtknbomikiakpmaaDoor

/- Whether a program's lists are short: all of it. -/
namespace Go.Proofs.YtknbomikiakpmaaDoor
open Go.RowKit
set_option linter.unusedSimpArgs false
set_option linter.unusedVariables false
set_option maxHeartbeats 4000000 in
theorem law16_Few (vc vv vb vu : Value) (p : Pr) (w : World) (h : PrAt w vc vv vb vu p) : Calls Tryd.prog 30 #[.agg #[vc, vv, vb, vu]] w fun e w' => e = .returned (.bool (fewP p)) ∧ Below w.heap.size w w' := by
  have l0 := h.cs.len
  have l1 := h.vs.len
  have l2 := h.bs.len
  have l3 := h.us.len
  have hv := h.vs
  have hb := h.bs
  have hu := h.us
  obtain ⟨s0, t0, rfl⟩ := row_get h.cs
  obtain ⟨s1, t1, rfl⟩ := row_get h.vs
  obtain ⟨s2, t2, rfl⟩ := row_get h.bs
  obtain ⟨s3, t3, rfl⟩ := row_get h.us
  have cp := @cell_past
  have HD := Lib.hid (show fewP p = decide ((p.consts.length ≤ 60 ∧ p.vars.length ≤ 70 ∧ p.blocks.length ≤ 40 ∧ p.units.length ≤ 10) ∧ (∀ x ∈ p.vars, x.name.length ≤ 300) ∧ (∀ x ∈ p.blocks, x.name.length ≤ 300) ∧ ∀ x ∈ p.units, fewU x = true) from rfl)
  clear h
  obtain ⟨n0, e0⟩ : ∃ n, p.consts.length = n := ⟨_, rfl⟩
  obtain ⟨n1, e1⟩ : ∃ n, p.vars.length = n := ⟨_, rfl⟩
  obtain ⟨n2, e2⟩ : ∃ n, p.blocks.length = n := ⟨_, rfl⟩
  obtain ⟨n3, e3⟩ : ∃ n, p.units.length = n := ⟨_, rfl⟩
  rw [e0] at l0 HD ⊢
  rw [e1] at l1 hv HD ⊢
  rw [e2] at l2 hb HD ⊢
  rw [e3] at l3 hu HD ⊢
  have HE := Lib.hid (show p.vars.length = n1 ∧ p.blocks.length = n2 ∧ p.units.length = n3 from ⟨e1, e2, e3⟩)
  clear e0 e1 e2 e3
  by_cases h0 : 60 < n0
  · have q0 : (60 < (n0 : Int)) = True := eq_true (by omega)
    have hs := Lib.hid (HD.out.trans (decide_eq_false (fun g => by omega)))
    clear h0 hv hb hu
    go_enter Tryd.func30, Tryd.ntmps30
    go_wp2_with fail
    go_ret
    exact ⟨by rw [hs.out]; rfl, by (repeat' (first | (with_reducible exact Below.refl _ _) | (with_reducible assumption) | (with_reducible refine below_drewN ?_ _) | (with_reducible refine Below.alloc ?_ ?_ _) | (with_reducible refine Below.drew ?_) | (with_reducible refine Below.setCell ?_ ?_ _) | go_size))⟩
  have q0 : (60 < (n0 : Int)) = False := eq_false (by omega)
  by_cases h1 : 70 < n1
  · have q1 : (70 < (n1 : Int)) = True := eq_true (by omega)
    have hs := Lib.hid (HD.out.trans (decide_eq_false (fun g => by omega)))
    clear h0 h1 hv hb hu
    go_enter Tryd.func30, Tryd.ntmps30
    go_wp2_with fail
    go_ret
    exact ⟨by rw [hs.out]; rfl, by (repeat' (first | (with_reducible exact Below.refl _ _) | (with_reducible assumption) | (with_reducible refine below_drewN ?_ _) | (with_reducible refine Below.alloc ?_ ?_ _) | (with_reducible refine Below.drew ?_) | (with_reducible refine Below.setCell ?_ ?_ _) | go_size))⟩
  have q1 : (70 < (n1 : Int)) = False := eq_false (by omega)
  by_cases h2 : 40 < n2
  · have q2 : (40 < (n2 : Int)) = True := eq_true (by omega)
    have hs := Lib.hid (HD.out.trans (decide_eq_false (fun g => by omega)))
    clear h0 h1 h2 hv hb hu
    go_enter Tryd.func30, Tryd.ntmps30
    go_wp2_with fail
    go_ret
    exact ⟨by rw [hs.out]; rfl, by (repeat' (first | (with_reducible exact Below.refl _ _) | (with_reducible assumption) | (with_reducible refine below_drewN ?_ _) | (with_reducible refine Below.alloc ?_ ?_ _) | (with_reducible refine Below.drew ?_) | (with_reducible refine Below.setCell ?_ ?_ _) | go_size))⟩
  have q2 : (40 < (n2 : Int)) = False := eq_false (by omega)
  by_cases h3 : 10 < n3
  · have q3 : (10 < (n3 : Int)) = True := eq_true (by omega)
    have hs := Lib.hid (HD.out.trans (decide_eq_false (fun g => by omega)))
    clear h0 h1 h2 h3 hv hb hu
    go_enter Tryd.func30, Tryd.ntmps30
    go_wp2_with fail
    go_ret
    exact ⟨by rw [hs.out]; rfl, by (repeat' (first | (with_reducible exact Below.refl _ _) | (with_reducible assumption) | (with_reducible refine below_drewN ?_ _) | (with_reducible refine Below.alloc ?_ ?_ _) | (with_reducible refine Below.drew ?_) | (with_reducible refine Below.setCell ?_ ?_ _) | go_size))⟩
  have q3 : (10 < (n3 : Int)) = False := eq_false (by omega)
  have HY := Lib.hid (fun (g1 : ∀ x ∈ p.vars, x.name.length ≤ 300) (g2 : ∀ x ∈ p.blocks, x.name.length ≤ 300) (g3 : ∀ x ∈ p.units, fewU x = true) => HD.out.trans (decide_eq_true ⟨by omega, g1, g2, g3⟩))
  have HV := Lib.hid (fun (x : Vr) (hx : x ∈ p.vars) (g : 300 < x.name.length) => HD.out.trans (decide_eq_false (fun q => by have := q.2.1 x hx; omega)))
  have HB := Lib.hid (fun (x : Bk) (hx : x ∈ p.blocks) (g : 300 < x.name.length) => HD.out.trans (decide_eq_false (fun q => by have := q.2.2.1 x hx; omega)))
  have HU := Lib.hid (fun (x : Un) (hx : x ∈ p.units) (g : fewU x = false) => HD.out.trans (decide_eq_false (fun q => by have := q.2.2.2 x hx; rw [g] at this; cases this)))
  clear HD h0 h1 h2 h3
  have mc := @more_cell
  have mf := @more_frozen
  have ms := @more_set
  have md := more_drewN
  have mm := more_more
  go_enter Tryd.func30, Tryd.ntmps30
  go_wp2_with fail
  go_loopw [3] (fun j wr => ∃ k : Nat, k ≤ n1 ∧ j = .int .i64 k ∧ Hid (∀ x ∈ p.vars.take k, x.name.length ≤ 300) ∧ wr = w.alloc (.cells #[.slice s0 n0 t0, .slice s1 n1 t1, .slice s2 n2 t2, .slice s3 n3 t3] 27)) (fun j _ => n1 - (intOf j).toNat)
  case atStart => exact ⟨0, by omega, rfl, Lib.hid (by simp), rfl⟩
  case round =>
    obtain ⟨k, hk, rfl, hall, rfl⟩ := hrel
    by_cases hlt : k < n1
    · obtain ⟨x, hx⟩ := get_some (L := p.vars) (n := k) (by have := HE.out.1; omega)
      obtain ⟨b, off, rfl, hbw, hc⟩ := var_at hv (k := k) (lt_of_get hx)
      obtain ⟨c0, _, _, _, _, hz, _⟩ := hc k x hx
      have hz : x.name.length ≤ 9223372036854775807 := hz
      have hsz : (⟨x.name.toArray⟩ : ByteArray).size = x.name.length := by simp [ByteArray.size]
      have HX := Lib.hid hx
      clear hc hx
      generalize (⟨x.name.toArray⟩ : ByteArray) = nm at *
      by_cases hl : 300 < x.name.length
      · have hs := Lib.hid (HV.out x (List.mem_of_getElem? HX.out) hl)
        generalize x.name.length = nl at *
        have q4 : (300 < (nl : Int)) = True := eq_true (by omega)
        clear hall hv hb hu
        go_wp2_with fail
        go_ret
        exact ⟨by rw [hs.out]; rfl, by (repeat' (first | (with_reducible exact Below.refl _ _) | (with_reducible assumption) | (with_reducible refine below_drewN ?_ _) | (with_reducible refine Below.alloc ?_ ?_ _) | (with_reducible refine Below.drew ?_) | (with_reducible refine Below.setCell ?_ ?_ _) | go_size))⟩
      · have hs := Lib.hid (show ∀ m ∈ p.vars.take (k + 1), m.name.length ≤ 300 by
          intro m hm
          rw [take_snoc HX.out] at hm
          rcases List.mem_append.1 hm with hm | hm
          · exact hall.out m hm
          · rw [List.mem_singleton.1 hm]; omega)
        generalize x.name.length = nl at *
        have q4 : (300 < (nl : Int)) = False := eq_false (by omega)
        clear hall
        go_wp2_with fail
        go_roundw
        case rel => exact ⟨k + 1, by omega, by simp, hs, trivial⟩
        case measure => first | (simp [intOf]; done) | (simp [intOf]; omega)
    · obtain rfl : k = n1 := by omega
      have H1 := Lib.hid (show ∀ x ∈ p.vars, x.name.length ≤ 300 by have := hall.out; rw [List.take_of_length_le (by have := HE.out.1; omega)] at this; exact this)
      clear hall hv
      go_wp2_with fail
      go_loopw [4] (fun j wr => ∃ q : Nat, q ≤ n2 ∧ j = .int .i64 q ∧ Hid (∀ x ∈ p.blocks.take q, x.name.length ≤ 300) ∧ wr = w.alloc (.cells #[.slice s0 n0 t0, .slice s1 k t1, .slice s2 n2 t2, .slice s3 n3 t3] 27)) (fun j _ => n2 - (intOf j).toNat)
      case atStart => exact ⟨0, by omega, rfl, Lib.hid (by simp), rfl⟩
      case round =>
        obtain ⟨q, hq, rfl, hall, rfl⟩ := hrel
        by_cases hlq : q < n2
        · obtain ⟨x, hx⟩ := get_some (L := p.blocks) (n := q) (by have := HE.out.2.1; omega)
          obtain ⟨b, off, rfl, hbw, hc⟩ := blk_at hb (k := q) (lt_of_get hx)
          obtain ⟨c0, _, hz, _⟩ := hc q x hx
          have hz : x.name.length ≤ 9223372036854775807 := hz
          have hsz : (⟨x.name.toArray⟩ : ByteArray).size = x.name.length := by simp [ByteArray.size]
          have HX := Lib.hid hx
          clear hc hx
          generalize (⟨x.name.toArray⟩ : ByteArray) = nm at *
          by_cases hl : 300 < x.name.length
          · have hs := Lib.hid (HB.out x (List.mem_of_getElem? HX.out) hl)
            generalize x.name.length = nl at *
            have q4 : (300 < (nl : Int)) = True := eq_true (by omega)
            clear hall hb hu
            go_wp2_with fail
            go_ret
            exact ⟨by rw [hs.out]; rfl, by (repeat' (first | (with_reducible exact Below.refl _ _) | (with_reducible assumption) | (with_reducible refine below_drewN ?_ _) | (with_reducible refine Below.alloc ?_ ?_ _) | (with_reducible refine Below.drew ?_) | (with_reducible refine Below.setCell ?_ ?_ _) | go_size))⟩
          · have hs := Lib.hid (show ∀ m ∈ p.blocks.take (q + 1), m.name.length ≤ 300 by
              intro m hm
              rw [take_snoc HX.out] at hm
              rcases List.mem_append.1 hm with hm | hm
              · exact hall.out m hm
              · rw [List.mem_singleton.1 hm]; omega)
            generalize x.name.length = nl at *
            have q4 : (300 < (nl : Int)) = False := eq_false (by omega)
            clear hall
            go_wp2_with fail
            go_roundw
            case rel => exact ⟨q + 1, by omega, by simp, hs, trivial⟩
            case measure => first | (simp [intOf]; done) | (simp [intOf]; omega)
        · obtain rfl : q = n2 := by omega
          have H2 := Lib.hid (show ∀ x ∈ p.blocks, x.name.length ≤ 300 by have := hall.out; rw [List.take_of_length_le (by have := HE.out.2.1; omega)] at this; exact this)
          clear hall hb
          go_wp2_with fail
          go_loopw [5] (fun j wr => ∃ (i : Nat) (l : Array Obj) (d : Nat), i ≤ n3 ∧ j = .int .i64 i ∧ Hid (∀ x ∈ p.units.take i, fewU x = true) ∧ wr = wmore (w.alloc (.cells #[.slice s0 n0 t0, .slice s1 k t1, .slice s2 q t2, .slice s3 n3 t3] 27)) l d) (fun j _ => n3 - (intOf j).toNat)
          case atStart => exact ⟨0, #[], _, by omega, rfl, Lib.hid (by simp), more_start _⟩
          case round =>
            obtain ⟨i, l, d, hi, rfl, hall, rfl⟩ := hrel
            by_cases hli : i < n3
            · have hB : Below w.heap.size w (wmore (w.alloc (.cells #[.slice s0 n0 t0, .slice s1 k t1, .slice s2 q t2, .slice s3 n3 t3] 27)) l d) := by (repeat' (first | (with_reducible exact Below.refl _ _) | (with_reducible assumption) | (with_reducible refine more_below ?_ ?_ _ _) | (with_reducible refine below_drewN ?_ _) | (with_reducible refine Below.alloc ?_ ?_ _) | (with_reducible refine Below.drew ?_) | (with_reducible refine Below.setCell ?_ ?_ _) | (simp only [World.size_alloc, World.size_setCell, World.size_drew, more_size, World.heap_drewN]; omega) | go_size))
              obtain ⟨x, hx⟩ := get_some (L := p.units) (n := i) (by have := HE.out.2.2; omega)
              obtain ⟨b, off, rfl, hbw, hc⟩ := unit_at hu (k := i) (lt_of_get hx)
              obtain ⟨u1, u3, u4, c0, c1, c2, c3, c4, hU⟩ := hc i x hx
              have HX := Lib.hid hx
              have HF := Lib.hid (law15_Few u1 u3 u4 x _ (hU.below hB))
              obtain ⟨su1, cu1, rfl⟩ := row_get hU.ps
              obtain ⟨su3, cu3, rfl⟩ := row_get hU.ls
              obtain ⟨su4, cu4, rfl⟩ := row_get hU.cs
              have hU0 := hU.below hB
              clear hc hx hU
              go_wp2_with fail
              refine (HF.out).mono ?_
              rintro e W1 ⟨rfl, hb1⟩
              obtain ⟨l2, d2, rfl⟩ := more_of hb1
              clear hb1
              rw [more_more]
              generalize hff : fewU x = ff
              cases ff
              · have hs := Lib.hid (HU.out x (List.mem_of_getElem? HX.out) hff)
                clear hff
                go_wp2_with fail
                go_ret
                exact ⟨by rw [hs.out]; rfl, by (repeat' (first | (with_reducible exact Below.refl _ _) | (with_reducible assumption) | (with_reducible refine more_below ?_ ?_ _ _) | (with_reducible refine below_drewN ?_ _) | (with_reducible refine Below.alloc ?_ ?_ _) | (with_reducible refine Below.drew ?_) | (with_reducible refine Below.setCell ?_ ?_ _) | (simp only [World.size_alloc, World.size_setCell, World.size_drew, more_size, World.heap_drewN]; omega) | go_size))⟩
              · have hs := Lib.hid (show ∀ m ∈ p.units.take (i + 1), fewU m = true by
                  intro m hm
                  rw [take_snoc HX.out] at hm
                  rcases List.mem_append.1 hm with hm | hm
                  · exact hall.out m hm
                  · rw [List.mem_singleton.1 hm]; exact hff)
                clear hff
                go_wp2_with fail
                go_roundw
                case rel => exact ⟨i + 1, _, _, by omega, by simp, hs, rfl⟩
                case measure => first | (simp [intOf]; done) | (simp [intOf]; omega)
            · obtain rfl : i = n3 := by omega
              have hs := Lib.hid (HY.out H1.out H2.out (by have := hall.out; rw [List.take_of_length_le (by have := HE.out.2.2; omega)] at this; exact this))
              clear hall
              go_wp2_with fail
              go_ret
              exact ⟨by rw [hs.out]; rfl, by (repeat' (first | (with_reducible exact Below.refl _ _) | (with_reducible assumption) | (with_reducible refine more_below ?_ ?_ _ _) | (with_reducible refine below_drewN ?_ _) | (with_reducible refine Below.alloc ?_ ?_ _) | (with_reducible refine Below.drew ?_) | (with_reducible refine Below.setCell ?_ ?_ _) | (simp only [World.size_alloc, World.size_setCell, World.size_drew, more_size, World.heap_drewN]; omega) | go_size))⟩
end Go.Proofs.YtknbomikiakpmaaDoor

/- Whether two lists of numbers are the same. -/
namespace Go.Proofs.YtknbomikiakpmaaDoor
open Go.RowKit
set_option linter.unusedSimpArgs false
set_option linter.unusedVariables false
end Go.Proofs.YtknbomikiakpmaaDoor

/- Layer 23: states as plain lists; the smallest functions on them. -/
namespace Go.Proofs.YtknbomikiakpmaaDoor
open Go.RowKit
set_option linter.unusedSimpArgs false
set_option linter.unusedVariables false
def intsR : Rep (List Int) := sliceR 1 intR
theorem intsR_stable : Stable intsR := sliceR_stable intR_stable
/-- a function block's instance -/
def instR : Rep (List Int) := fun _ cs x => cs = x.map (Value.int .i64) ∧ x.length = 10 ∧ ∀ z ∈ x, I64 z
theorem instR_stable : Stable instR := fun _ _ _ _ h _ => h
structure St where
  vars : List (List Int)
  blocks : List (List Int)
  now : Int
  fault : Int
/-- a state, by its two slices -/
structure StAt (w : World) (v b : Value) (s : St) : Prop where
  vs : RowR 1 intsR w v s.vars
  bs : RowR 10 instR w b s.blocks
  n64 : I64 s.now
  f64 : I64 s.fault
theorem StAt.below {w w' : World} {v b : Value} {s : St} (h : StAt w v b s) (hb : Below w.heap.size w w') : StAt w' v b s :=
  ⟨h.vs.below intsR_stable hb, h.bs.below instR_stable hb, h.n64, h.f64⟩
/-- the rows of a list of lists -/
theorem rows_at {w : World} {a : Option Addr} {n cap : Nat} {L : List (List Int)} (hv : RowR 1 intsR w (.slice a n cap) L) {k : Nat} (hk : k < L.length) : ∃ b off, a = some ⟨b, off, none⟩ ∧ b < w.heap.size ∧ ∀ i l, L[i]? = some l → ∃ u, w.cell? ⟨b, off + i, none⟩ = some u ∧ RowR 1 intR w u l := by
  rcases hv with ⟨a, cap, h, rfl, _⟩ | ⟨b, off, cap, h1, _, _, _, h5, h6⟩
  · simp at hk
  · have e : a = some ⟨b, off, none⟩ := by injection h1
    refine ⟨b, off, e, h5, fun i l hl => ?_⟩
    obtain ⟨C, g1, g2, u, g3, g4⟩ := h6 i l hl
    subst g3
    exact ⟨u, by simpa using g2 0 u rfl, g4⟩
/-- whether a state's lists are short -/
def shortS (s : St) : Bool := decide (s.vars.length ≤ 100 ∧ s.blocks.length ≤ 100 ∧ ∀ l ∈ s.vars, l.length ≤ 100)
set_option maxHeartbeats 2000000 in
theorem law23_Short (v b : Value) (s : St) (w : World) (h : StAt w v b s) : Calls Tryd.prog 31 #[.agg #[v, b, .int .i64 s.now, .int .i64 s.fault]] w fun e w' => e = .returned (.bool (shortS s)) ∧ Below w.heap.size w w' := by
  have hvl := h.vs.len
  have hbl := h.bs.len
  have hv := h.vs
  obtain ⟨sa, ca, rfl⟩ := row_get h.vs
  obtain ⟨sb, cb, rfl⟩ := row_get h.bs
  have cp := @cell_past
  by_cases h1 : 100 < s.vars.length
  · have q1 : (100 < (s.vars.length : Int)) = True := eq_true (by omega)
    have hs := Lib.hid (show shortS s = false from decide_eq_false (by omega))
    go_enter Tryd.func31, Tryd.ntmps31
    go_wp2_with fail
    go_ret
    exact ⟨by rw [hs.out]; rfl, by (repeat' (first | (with_reducible exact Below.refl _ _) | (with_reducible assumption) | (with_reducible refine below_drewN ?_ _) | (with_reducible refine Below.alloc ?_ ?_ _) | (with_reducible refine Below.drew ?_) | (with_reducible refine Below.setCell ?_ ?_ _) | go_size))⟩
  have q1 : (100 < (s.vars.length : Int)) = False := eq_false (by omega)
  by_cases h2 : 100 < s.blocks.length
  · have q2 : (100 < (s.blocks.length : Int)) = True := eq_true (by omega)
    have hs := Lib.hid (show shortS s = false from decide_eq_false (by omega))
    go_enter Tryd.func31, Tryd.ntmps31
    go_wp2_with fail
    go_ret
    exact ⟨by rw [hs.out]; rfl, by (repeat' (first | (with_reducible exact Below.refl _ _) | (with_reducible assumption) | (with_reducible refine below_drewN ?_ _) | (with_reducible refine Below.alloc ?_ ?_ _) | (with_reducible refine Below.drew ?_) | (with_reducible refine Below.setCell ?_ ?_ _) | go_size))⟩
  have q2 : (100 < (s.blocks.length : Int)) = False := eq_false (by omega)
  have HY := Lib.hid (fun (hh : ∀ l ∈ s.vars, l.length ≤ 100) => show shortS s = true from decide_eq_true ⟨by omega, by omega, hh⟩)
  have HN := Lib.hid (fun (l : List Int) (hl : l ∈ s.vars) (hh : 100 < l.length) => show shortS s = false from decide_eq_false (fun g => absurd (g.2.2 l hl) (by omega)))
  generalize s.vars = L at *
  clear h h1 h2
  generalize s.blocks.length = NB at *
  obtain ⟨N, hN⟩ : ∃ N, L.length = N := ⟨_, rfl⟩
  rw [hN] at hv hvl q1 ⊢
  go_enter Tryd.func31, Tryd.ntmps31
  go_wp2_with fail
  go_loopw [3] (fun j wr => ∃ k : Nat, k ≤ N ∧ j = .int .i64 k ∧ Hid (∀ l ∈ L.take k, l.length ≤ 100) ∧ wr = w.alloc (.cells #[.slice sa N ca, .slice sb NB cb, .int .i64 s.now, .int .i64 s.fault] 31)) (fun j _ => N - (intOf j).toNat)
  case atStart => exact ⟨0, by omega, rfl, Lib.hid (by simp), rfl⟩
  case round =>
    obtain ⟨k, hk, rfl, hall, rfl⟩ := hrel
    by_cases hlt : k < N
    · obtain ⟨b, off, rfl, hbw, hc⟩ := rows_at hv (k := k) (by omega)
      obtain ⟨l, hx⟩ : ∃ l, L[k]? = some l := ⟨L[k]'(by omega), by simp [hN, hlt]⟩
      obtain ⟨u, c0, hu⟩ := hc k l hx
      obtain ⟨su, cu, rfl⟩ := row_get hu
      clear hc
      by_cases hl : 100 < l.length
      · have hs := Lib.hid (HN.out l (List.mem_of_getElem? hx) hl)
        have q3 : (100 < (l.length : Int)) = True := eq_true (by omega)
        clear hx hu hall
        generalize l.length = nl at *
        go_wp2_with fail
        go_ret
        exact ⟨by rw [hs.out]; rfl, by (repeat' (first | (with_reducible exact Below.refl _ _) | (with_reducible assumption) | (with_reducible refine below_drewN ?_ _) | (with_reducible refine Below.alloc ?_ ?_ _) | (with_reducible refine Below.drew ?_) | (with_reducible refine Below.setCell ?_ ?_ _) | go_size))⟩
      · have hs := Lib.hid (show ∀ m ∈ L.take (k + 1), m.length ≤ 100 by
          intro m hm
          rw [take_snoc hx] at hm
          rcases List.mem_append.1 hm with hm | hm
          · exact hall.out m hm
          · rw [List.mem_singleton.1 hm]; omega)
        have q3 : (100 < (l.length : Int)) = False := eq_false (by omega)
        clear hx hu hall
        generalize l.length = nl at *
        go_wp2_with fail
        go_roundw
        case rel => exact ⟨k + 1, by omega, by simp, hs, trivial⟩
        case measure => first | (simp [intOf]; done) | (simp [intOf]; omega)
    · obtain rfl : k = N := by omega
      have hs := Lib.hid (HY.out (by have := hall.out; rw [List.take_of_length_le (by omega)] at this; exact this))
      clear hall
      go_wp2_with fail
      go_ret
      exact ⟨by rw [hs.out]; rfl, by (repeat' (first | (with_reducible exact Below.refl _ _) | (with_reducible assumption) | (with_reducible refine below_drewN ?_ _) | (with_reducible refine Below.alloc ?_ ?_ _) | (with_reducible refine Below.drew ?_) | (with_reducible refine Below.setCell ?_ ?_ _) | go_size))⟩
end Go.Proofs.YtknbomikiakpmaaDoor

/- Layer 23: whether a place is one, and what stands there. -/
namespace Go.Proofs.YtknbomikiakpmaaDoor
open Go.RowKit
set_option linter.unusedSimpArgs false
set_option linter.unusedVariables false
/-- the four cells of a state in memory -/
def C4 (W : World) (g : Nat) (x y z u : Value) : Prop := W.cell? ⟨g, 0, none⟩ = some x ∧ W.cell? ⟨g, 1, none⟩ = some y ∧ W.cell? ⟨g, 2, none⟩ = some z ∧ W.cell? ⟨g, 3, none⟩ = some u
theorem C4.new (W : World) (x y z u : Value) (t : TypeId) {W' : World} (h : Below (W.heap.size + 1) (W.alloc (.cells #[x, y, z, u] t)) W') : C4 W' W.heap.size x y z u :=
  ⟨(h.cell (by simp)).trans (by rw [cell_at (by simp)]; rfl), (h.cell (by simp)).trans (by rw [cell_at (by simp)]; rfl), (h.cell (by simp)).trans (by rw [cell_at (by simp)]; rfl), (h.cell (by simp)).trans (by rw [cell_at (by simp)]; rfl)⟩
theorem C4.keep {W W' : World} {g : Nat} {x y z u : Value} (c : C4 W g x y z u) (hb : g < W.heap.size) (h : Below W.heap.size W W') : C4 W' g x y z u :=
  ⟨(h.cell (p := ⟨g, 0, none⟩) hb).trans c.1, (h.cell (p := ⟨g, 1, none⟩) hb).trans c.2.1, (h.cell (p := ⟨g, 2, none⟩) hb).trans c.2.2.1, (h.cell (p := ⟨g, 3, none⟩) hb).trans c.2.2.2⟩
def rowS (s : St) (i : Int) : List Int := s.vars.getD i.toNat []
def hasS (s : St) (i k : Int) : Bool := decide (0 ≤ i ∧ i < s.vars.length ∧ 0 ≤ k ∧ k < (rowS s i).length)
def valS (s : St) (i k : Int) : Int := (rowS s i).getD k.toNat 0
def readS (s : St) (i k : Int) : Int := if hasS s i k then valS s i k else 0
theorem readS_yes {s : St} {i k : Int} (h : hasS s i k = true) : readS s i k = valS s i k := if_pos h
theorem readS_no {s : St} {i k : Int} (h : hasS s i k = false) : readS s i k = 0 := by unfold readS; rw [h]; exact if_neg (by decide)
end Go.Proofs.YtknbomikiakpmaaDoor

/- Layer 23: whether a state fits declarations, by both. -/
namespace Go.Proofs.YtknbomikiakpmaaDoor
open Go.RowKit
set_option linter.unusedSimpArgs false
set_option linter.unusedVariables false
def fitRow (x : Vr) (l : List Int) : Bool := decide ((l.length : Int) = x.n) && l.all (kIn x.t)
def fitRows : List Vr → List (List Int) → Bool
  | x :: V, l :: R => fitRow x l && fitRows V R
  | _, _ => true
def headSt (V : List Vr) (nb : Nat) (s : St) : Prop := s.vars.length = V.length ∧ s.blocks.length = nb ∧ 0 ≤ s.now ∧ s.now ≤ 1099511627776 ∧ 0 ≤ s.fault ∧ s.fault ≤ 3
def fitS (V : List Vr) (nb : Nat) (s : St) : Bool := @decide (headSt V nb s) (by unfold headSt; exact inferInstance) && fitRows V s.vars
theorem fitRows_at {V : List Vr} {R : List (List Int)} : ∀ {k : Nat} {x : Vr} {l : List Int}, V[k]? = some x → R[k]? = some l → fitRow x l = false → fitRows V R = false := by
  induction V generalizing R with
  | nil => intro k x l h; simp at h
  | cons y V ih =>
    intro k x l hx hl hf
    cases R with
    | nil => simp at hl
    | cons m R =>
      cases k with
      | zero =>
        obtain rfl : y = x := by simpa using hx
        obtain rfl : m = l := by simpa using hl
        simp [fitRows, hf]
      | succ k =>
        simp only [fitRows, Bool.and_eq_false_iff]
        exact Or.inr (ih (by simpa using hx) (by simpa using hl) hf)
theorem fitRows_take {V : List Vr} {R : List (List Int)} : ∀ {k : Nat} {x : Vr} {l : List Int}, V[k]? = some x → R[k]? = some l → fitRows (V.take k) R = true → fitRow x l = true → fitRows (V.take (k + 1)) R = true := by
  induction V generalizing R with
  | nil => intro k x l h; simp at h
  | cons y V ih =>
    intro k x l hx hl h1 h2
    cases R with
    | nil => simp at hl
    | cons m R =>
      cases k with
      | zero =>
        obtain rfl : y = x := by simpa using hx
        obtain rfl : m = l := by simpa using hl
        simp [fitRows, h2]
      | succ k =>
        simp only [List.take_succ_cons, fitRows, Bool.and_eq_true] at h1 ⊢
        exact ⟨h1.1, ih (by simpa using hx) (by simpa using hl) h1.2 h2⟩
theorem kIn_all_no {t : Int} {l : List Int} {q : Nat} {z : Int} (hz : l[q]? = some z) (h : kIn t z = false) : l.all (kIn t) = false := List.all_eq_false.2 ⟨z, List.mem_of_getElem? hz, by simp [h]⟩
theorem fitS_head {V : List Vr} {nb : Nat} {s : St} (h : ¬ headSt V nb s) : fitS V nb s = false := by unfold fitS; rw [@decide_eq_false _ (_) h]; rfl
theorem fitS_rows {V : List Vr} {nb : Nat} {s : St} (h : fitRows V s.vars = false) : fitS V nb s = false := by unfold fitS; rw [h, Bool.and_false]
theorem fitS_yes {V : List Vr} {nb : Nat} {s : St} (h : headSt V nb s) (h2 : fitRows V s.vars = true) : fitS V nb s = true := by unfold fitS; rw [@decide_eq_true _ (_) h, h2]; rfl
end Go.Proofs.YtknbomikiakpmaaDoor

/- Layer 23: whether a state fits declarations, by the answer. -/
namespace Go.Proofs.YtknbomikiakpmaaDoor
open Go.RowKit
set_option linter.unusedSimpArgs false
set_option linter.unusedVariables false
theorem kIn_rightS {t z : Int} (h : kRight t = false) : kIn t z = false := by unfold kIn; rw [h]; rfl
set_option maxHeartbeats 4000000 in
theorem ref23_Fits (vv bv v b : Value) (V : List Vr) (nb : Nat) (s : St) (w : World) (hvv : RowR 5 varR w vv V) (hbv : ∃ a c, bv = .slice a nb c) (h : StAt w v b s) (hsh : shortS s = true) (hV : V.length ≤ 70) (hnb : nb ≤ 40) :
    Calls Tryd.prog 32 #[vv, bv, .agg #[v, b, .int .i64 s.now, .int .i64 s.fault]] w fun e w' => e = .returned (.bool (fitS V nb s)) ∧ Below w.heap.size w w' := by
  obtain ⟨s1, s2, s3⟩ : s.vars.length ≤ 100 ∧ s.blocks.length ≤ 100 ∧ ∀ l ∈ s.vars, l.length ≤ 100 := of_decide_eq_true hsh
  obtain ⟨ab, cb0, rfl⟩ := hbv
  have hv := h.vs
  obtain ⟨sv, cv, rfl⟩ := row_get hvv
  obtain ⟨sa, ca, rfl⟩ := row_get h.vs
  obtain ⟨sb, cb, rfl⟩ := row_get h.bs
  clear h
  obtain ⟨N, hN⟩ : ∃ N, V.length = N := ⟨_, rfl⟩
  obtain ⟨M, hM⟩ : ∃ N, s.vars.length = N := ⟨_, rfl⟩
  obtain ⟨BL, hBL⟩ : ∃ N, s.blocks.length = N := ⟨_, rfl⟩
  have HL := Lib.hid (And.intro hN (And.intro hM hBL))
  rw [hN] at hvv hV ⊢
  rw [hM] at hv s1 ⊢
  rw [hBL] at s2 ⊢
  clear hN hM hBL
  have cp := @cell_past
  by_cases h0 : M = N
  case neg =>
    have hno := Lib.hid (fitS_head (V := V) (nb := nb) (s := s) (fun g => h0 (by have := g.1; have := g.2.1; have := g.2.2.1; have := g.2.2.2.1; have := g.2.2.2.2.1; have := g.2.2.2.2.2; have := HL.out; omega)))
    have q0 : ((M : Int) != (N : Int)) = true := by rw [bne_iff_ne]; omega
    clear h0
    go_enter Tryd.func32, Tryd.ntmps32
    go_wp2_with fail
    go_ret
    exact ⟨by rw [hno.out]; rfl, by (repeat' (first | (with_reducible exact Below.refl _ _) | (with_reducible assumption) | (with_reducible refine below_drewN ?_ _) | (with_reducible refine Below.alloc ?_ ?_ _) | (with_reducible refine Below.drew ?_) | (with_reducible refine Below.setCell ?_ ?_ _) | go_size))⟩
  have q0 : ((M : Int) != (N : Int)) = false := by simp; omega
  by_cases h1 : BL = nb
  case neg =>
    have hno := Lib.hid (fitS_head (V := V) (nb := nb) (s := s) (fun g => h1 (by have := g.1; have := g.2.1; have := g.2.2.1; have := g.2.2.2.1; have := g.2.2.2.2.1; have := g.2.2.2.2.2; have := HL.out; omega)))
    have q1 : ((BL : Int) != (nb : Int)) = true := by rw [bne_iff_ne]; omega
    clear h1 h0
    go_enter Tryd.func32, Tryd.ntmps32
    go_wp2_with fail
    go_ret
    exact ⟨by rw [hno.out]; rfl, by (repeat' (first | (with_reducible exact Below.refl _ _) | (with_reducible assumption) | (with_reducible refine below_drewN ?_ _) | (with_reducible refine Below.alloc ?_ ?_ _) | (with_reducible refine Below.drew ?_) | (with_reducible refine Below.setCell ?_ ?_ _) | go_size))⟩
  have q1 : ((BL : Int) != (nb : Int)) = false := by simp; omega
  by_cases h2 : 0 ≤ s.now
  case neg =>
    have hno := Lib.hid (fitS_head (V := V) (nb := nb) (s := s) (fun g => h2 (by have := g.1; have := g.2.1; have := g.2.2.1; have := g.2.2.2.1; have := g.2.2.2.2.1; have := g.2.2.2.2.2; have := HL.out; omega)))
    have q2 : (s.now < 0) = True := eq_true (by omega)
    clear h2 h0 h1
    go_enter Tryd.func32, Tryd.ntmps32
    go_wp2_with fail
    go_ret
    exact ⟨by rw [hno.out]; rfl, by (repeat' (first | (with_reducible exact Below.refl _ _) | (with_reducible assumption) | (with_reducible refine below_drewN ?_ _) | (with_reducible refine Below.alloc ?_ ?_ _) | (with_reducible refine Below.drew ?_) | (with_reducible refine Below.setCell ?_ ?_ _) | go_size))⟩
  have q2 : (s.now < 0) = False := eq_false (by omega)
  by_cases h3 : s.now ≤ 1099511627776
  case neg =>
    have hno := Lib.hid (fitS_head (V := V) (nb := nb) (s := s) (fun g => h3 (by have := g.1; have := g.2.1; have := g.2.2.1; have := g.2.2.2.1; have := g.2.2.2.2.1; have := g.2.2.2.2.2; have := HL.out; omega)))
    have q3 : (1099511627776 < s.now) = True := eq_true (by omega)
    clear h3 h0 h1 h2
    go_enter Tryd.func32, Tryd.ntmps32
    go_wp2_with fail
    go_ret
    exact ⟨by rw [hno.out]; rfl, by (repeat' (first | (with_reducible exact Below.refl _ _) | (with_reducible assumption) | (with_reducible refine below_drewN ?_ _) | (with_reducible refine Below.alloc ?_ ?_ _) | (with_reducible refine Below.drew ?_) | (with_reducible refine Below.setCell ?_ ?_ _) | go_size))⟩
  have q3 : (1099511627776 < s.now) = False := eq_false (by omega)
  by_cases h4 : 0 ≤ s.fault
  case neg =>
    have hno := Lib.hid (fitS_head (V := V) (nb := nb) (s := s) (fun g => h4 (by have := g.1; have := g.2.1; have := g.2.2.1; have := g.2.2.2.1; have := g.2.2.2.2.1; have := g.2.2.2.2.2; have := HL.out; omega)))
    have q4 : (s.fault < 0) = True := eq_true (by omega)
    clear h4 h0 h1 h2 h3
    go_enter Tryd.func32, Tryd.ntmps32
    go_wp2_with fail
    go_ret
    exact ⟨by rw [hno.out]; rfl, by (repeat' (first | (with_reducible exact Below.refl _ _) | (with_reducible assumption) | (with_reducible refine below_drewN ?_ _) | (with_reducible refine Below.alloc ?_ ?_ _) | (with_reducible refine Below.drew ?_) | (with_reducible refine Below.setCell ?_ ?_ _) | go_size))⟩
  have q4 : (s.fault < 0) = False := eq_false (by omega)
  by_cases h5 : s.fault ≤ 3
  case neg =>
    have hno := Lib.hid (fitS_head (V := V) (nb := nb) (s := s) (fun g => h5 (by have := g.1; have := g.2.1; have := g.2.2.1; have := g.2.2.2.1; have := g.2.2.2.2.1; have := g.2.2.2.2.2; have := HL.out; omega)))
    have q5 : (3 < s.fault) = True := eq_true (by omega)
    clear h5 h0 h1 h2 h3 h4
    go_enter Tryd.func32, Tryd.ntmps32
    go_wp2_with fail
    go_ret
    exact ⟨by rw [hno.out]; rfl, by (repeat' (first | (with_reducible exact Below.refl _ _) | (with_reducible assumption) | (with_reducible refine below_drewN ?_ _) | (with_reducible refine Below.alloc ?_ ?_ _) | (with_reducible refine Below.drew ?_) | (with_reducible refine Below.setCell ?_ ?_ _) | go_size))⟩
  have q5 : (3 < s.fault) = False := eq_false (by omega)
  have hhead := Lib.hid (show headSt V nb s from ⟨by have := HL.out; omega, by have := HL.out; omega, h2, h3, h4, h5⟩)
  obtain rfl : M = N := h0
  obtain rfl : BL = nb := h1
  clear h2 h3 h4 h5
  obtain ⟨Wb, hWb⟩ : ∃ Wb, Wb = w.alloc (.cells #[.slice sa M ca, .slice sb BL cb, .int .i64 s.now, .int .i64 s.fault] 31) := ⟨_, rfl⟩
  have hwb : Below w.heap.size w Wb := by rw [hWb]; exact by (repeat' (first | (with_reducible exact Below.refl _ _) | (with_reducible assumption) | (with_reducible refine below_drewN ?_ _) | (with_reducible refine Below.alloc ?_ ?_ _) | (with_reducible refine Below.drew ?_) | (with_reducible refine Below.setCell ?_ ?_ _) | go_size))
  have gs := C4.new w (.slice sa M ca) (.slice sb BL cb) (.int .i64 s.now) (.int .i64 s.fault) 31 (W' := Wb) (by rw [hWb]; exact by (repeat' (first | (with_reducible exact Below.refl _ _) | (with_reducible assumption) | (with_reducible refine below_drewN ?_ _) | (with_reducible refine Below.alloc ?_ ?_ _) | (with_reducible refine Below.drew ?_) | (with_reducible refine Below.setCell ?_ ?_ _) | go_size)))
  have zb : w.heap.size < Wb.heap.size := World.block_lt_of_cell? _ _ gs.1
  have HG := Lib.hid gs
  have HWB := Lib.hid hwb
  have HWb := Lib.hid hWb
  clear hWb gs hwb
  go_enter Tryd.func32, Tryd.ntmps32
  go_wp2_with fail
  rw [← HWb.out]
  go_loopw [7] (fun jj wr => ∃ (k : Nat), k ≤ M ∧ jj = .int .i64 k ∧ Hid (fitRows (V.take k) s.vars = true) ∧ Hid (Below Wb.heap.size Wb wr)) (fun jj _ => M - (intOf jj).toNat)
  case atStart => exact ⟨0, by omega, rfl, Lib.hid (by simp [fitRows]), Lib.hid (Below.refl _ _)⟩
  case round =>
    obtain ⟨k, hk, rfl, hall, hB⟩ := hrel
    by_cases hlt : k < M
    · have qk : ((k : Int) < (M : Int)) = True := eq_true (by omega)
      obtain ⟨x, hx⟩ := get_some (L := V) (n := k) (by have := HL.out.1; omega)
      obtain ⟨bb, off, rfl, hbw, hc⟩ := var_at hvv (k := k) (lt_of_get hx)
      obtain ⟨_, c1, c2, _, _, _, _, hn64, _⟩ := hc k x hx
      obtain ⟨l, hl⟩ := get_some (L := s.vars) (n := k) (by have := HL.out.2.1; omega)
      have hl100 := s3 l (List.mem_of_getElem? hl)
      obtain ⟨b2, off2, rfl, hbw2, hd⟩ := rows_at hv (k := k) (lt_of_get hl)
      obtain ⟨u, d0, hu⟩ := hd k l hl
      obtain ⟨su, cu, rfl⟩ := row_get hu
      obtain ⟨m, hm⟩ : ∃ m, l.length = m := ⟨_, rfl⟩
      have HNo := Lib.hid (fun hf : fitRow x l = false => fitS_rows (nb := BL) (fitRows_at hx hl hf))
      have HYes := Lib.hid (fun hf : fitRow x l = true => fitRows_take hx hl hall.out hf)
      have HD := Lib.hid (show fitRow x l = (decide ((m : Int) = x.n) && l.all (kIn x.t)) by unfold fitRow; rw [hm])
      have Hm := Lib.hid hm
      rw [hm] at d0 hl100 hu
      have Hu := Lib.hid hu
      have HF := Lib.hid (fun W (hb : Below Wb.heap.size Wb W) => And.intro (HG.out.keep zb hb).1 (And.intro ((((HWB.out.trans (hb.mono HWB.out.size)).cell (p := ⟨b2, off2 + k, none⟩) hbw2).trans d0)) (And.intro (((HWB.out.trans (hb.mono HWB.out.size)).cell (p := ⟨bb, off + k * 5 + 1, none⟩) hbw).trans c1) (((HWB.out.trans (hb.mono HWB.out.size)).cell (p := ⟨bb, off + k * 5 + 2, none⟩) hbw).trans c2))))
      clear hc hd hx hl hm hu d0 c1 c2
      obtain ⟨f0, fd, x1, x2⟩ := HF.out _ hB.out
      have z5 : w.heap.size < wr.heap.size := World.block_lt_of_cell? _ _ f0
      have z2 : b2 < wr.heap.size := World.block_lt_of_cell? _ _ fd
      have zv : bb < wr.heap.size := World.block_lt_of_cell? _ _ x1
      by_cases hn : (m : Int) = x.n
      · have qn : ((m : Int) != x.n) = false := by simp [hn]
        have hD2 := Lib.hid (show fitRow x l = l.all (kIn x.t) by rw [HD.out, decide_eq_true hn]; rfl)
        clear hn
        go_wp2_with fail
        go_quiet (fail)
        have hb6 := Lib.hid (hB.out.trans ((Below_drewN wr.heap.size wr nq).mono hB.out.size))
        clear f0 fd x1 x2 z5 z2 zv
        go_wp2_with fail
        go_loopw [8] (fun ji wr2 => ∃ (q : Nat), q ≤ m ∧ ji = .int .i64 q ∧ Hid ((l.take q).all (kIn x.t) = true) ∧ Hid (Below Wb.heap.size Wb wr2)) (fun ji _ => m - (intOf ji).toNat)
        case atStart => exact ⟨0, by omega, rfl, Lib.hid (by simp), hb6⟩
        case round =>
          obtain ⟨q, hq, rfl, hal, hB⟩ := hrel
          obtain ⟨f0, fd, x1, x2⟩ := HF.out _ hB.out
          have z5 : w.heap.size < wr.heap.size := World.block_lt_of_cell? _ _ f0
          have z2 : b2 < wr.heap.size := World.block_lt_of_cell? _ _ fd
          have zv : bb < wr.heap.size := World.block_lt_of_cell? _ _ x1
          have HBr := Lib.hid (HWB.out.trans (hB.out.mono HWB.out.size))
          by_cases hqm : q < m
          · have qq : ((q : Int) < (m : Int)) = True := eq_true (by omega)
            obtain ⟨z, hz⟩ := get_some (L := l) (n := q) (by have := Hm.out; omega)
            obtain ⟨b3, off3, rfl, hbw3, hg⟩ := ints_at Hu.out (k := q) (lt_of_get hz)
            obtain ⟨g0, _⟩ := hg q z hz
            have g0 := (HBr.out.cell (p := ⟨b3, off3 + q, none⟩) hbw3).trans g0
            have z3 : b3 < wr.heap.size := World.block_lt_of_cell? _ _ g0
            have hts := Lib.hid (take_snoc hz)
            have hbad := Lib.hid (fun hk : kIn x.t z = false => HNo.out (by rw [hD2.out]; exact kIn_all_no hz hk))
            clear hg hz
            have HI := Lib.hid (fun W => ref01_In x.t z W)
            cases hkr : kRight x.t
            · have hno := Lib.hid (hbad.out (kIn_rightS hkr))
              go_wp2_with fail
              have qq0 := fun wt (h : Below wr.heap.size wr wt) => cellB h f0 z5
              have qq1 := fun wt (h : Below wr.heap.size wr wt) => cellB h fd z2
              have qq2 := fun wt (h : Below wr.heap.size wr wt) => cellB h x1 zv
              have qq3 := fun wt (h : Below wr.heap.size wr wt) => cellB h g0 z3
              refine wp_region_held_drew (S := (fun w' => Below wr.heap.size wr w')) (by kernel_rfl) ?_ (fun hHeld => ?_)
              · (try dsimp only); first | assumption | exact Below.alloc hHeld hHeld.size _ | exact (Below.refl _ _).drew | exact Below.drew (Below.refl _ _) | exact Below_drewN _ _ _ | exact Below.refl _ _
              refine tk 0 (v := ?_) (hy := ?_) (h := ?_); rotate_left
              · intro _ _; go_simp <;> with_reducible rfl
              try simp only [pu, pa, pz, ps]
              refine tk 1 (v := ?_) (hy := ?_) (h := ?_); rotate_left
              · intro _ _; go_simp <;> with_reducible rfl
              try simp only [pu, pa, pz, ps]
              refine tk 2 (v := ?_) (hy := ?_) (h := ?_); rotate_left
              · intro _ _; go_simp <;> with_reducible rfl
              try simp only [pu, pa, pz, ps]
              refine tk 3 (v := ?_) (hy := ?_) (h := ?_); rotate_left
              · intro _ _; go_simp <;> with_reducible rfl
              try simp only [pu, pa, pz, ps]
              refine tk 4 (v := ?_) (hy := ?_) (h := ?_); rotate_left
              · intro wt hSw; (try dsimp only at hSw); go_simp <;> with_reducible rfl
              try simp only [pu, pa, pz, ps]
              refine wpAnyH_ready (rs := [5]) (by kernel_rfl) (by simp) ?_
              refine AllReadyH.cons (o := ⟨_, _, _, _, _, _⟩) rfl (fun K hK => ?_) AllReadyH.nil
              go_simp
              refine (ref01_Right _ _).mono ?_; rintro e w1 ⟨rfl, rfl⟩; rw [hkr]
              go_wp2_with fail
              refine hK.out _ _ ?_ (fun hHeld => ?_)
              · (try dsimp only); first | assumption | exact Below.alloc hHeld hHeld.size _ | exact (Below.refl _ _).drew | exact Below.drew (Below.refl _ _) | exact Below_drewN _ _ _ | exact Below.refl _ _
              clear hK K
              try simp only [pu, pa, pz, ps]
              refine tk 6 (v := ?_) (hy := ?_) (h := ?_); rotate_left
              · intro _ _; go_simp <;> with_reducible rfl
              try simp only [pu, pa, pz, ps]
              refine tk 7 (v := ?_) (hy := ?_) (h := ?_); rotate_left
              · intro _ _; go_simp <;> with_reducible rfl
              try simp only [pu, pa, pz, ps]
              refine sk 8 (h := ?_)
              try simp only [pu, pa, pz, ps]
              refine sk 9 (h := ?_)
              try simp only [pu, pa, pz, ps]
              refine sk 10 (h := ?_)
              try simp only [pu, pa, pz, ps]
              refine sk 11 (h := ?_)
              try simp only [pu, pa, pz, ps]
              refine sk 12 (h := ?_)
              try simp only [pu, pa, pz, ps]
              refine sk 13 (h := ?_)
              try simp only [pu, pa, pz, ps]
              refine sk 14 (h := ?_)
              try simp only [pu, pa, pz, ps]
              refine sk 15 (h := ?_)
              try simp only [pu, pa, pz, ps]
              refine sk 16 (h := ?_)
              try simp only [pu, pa, pz, ps]
              refine sk 17 (h := ?_)
              try simp only [pu, pa, pz, ps]
              refine sk 18 (h := ?_)
              try simp only [pu, pa, pz, ps]
              refine sk 19 (h := ?_)
              try simp only [pu, pa, pz, ps]
              refine sk 20 (h := ?_)
              try simp only [pu, pa, pz, ps]
              refine sk 21 (h := ?_)
              try simp only [pu, pa, pz, ps]
              refine sk 22 (h := ?_)
              try simp only [pu, pa, pz, ps]
              refine tk 23 (v := ?_) (hy := ?_) (h := ?_); rotate_left
              · intro _ _; go_simp <;> with_reducible rfl
              try simp only [pu, pa, pz, ps]
              refine wpAnyH_done (by kernel_rfl) ?_ _
              go_wp2_with fail
              go_ret
              exact ⟨by rw [hno.out]; rfl, HBr.out.trans (hHeld.mono HBr.out.size)⟩
            · cases hk : kIn x.t z
              · have hno := Lib.hid (hbad.out hk)
                rw [hk] at HI
                go_wp2_with fail
                have qq0 := fun wt (h : Below wr.heap.size wr wt) => cellB h f0 z5
                have qq1 := fun wt (h : Below wr.heap.size wr wt) => cellB h fd z2
                have qq2 := fun wt (h : Below wr.heap.size wr wt) => cellB h x1 zv
                have qq3 := fun wt (h : Below wr.heap.size wr wt) => cellB h g0 z3
                refine wp_region_held_drew (S := (fun w' => Below wr.heap.size wr w')) (by kernel_rfl) ?_ (fun hHeld => ?_)
                · (try dsimp only); first | assumption | exact Below.alloc hHeld hHeld.size _ | exact (Below.refl _ _).drew | exact Below.drew (Below.refl _ _) | exact Below_drewN _ _ _ | exact Below.refl _ _
                refine tk 0 (v := ?_) (hy := ?_) (h := ?_); rotate_left
                · intro _ _; go_simp <;> with_reducible rfl
                try simp only [pu, pa, pz, ps]
                refine tk 1 (v := ?_) (hy := ?_) (h := ?_); rotate_left
                · intro _ _; go_simp <;> with_reducible rfl
                try simp only [pu, pa, pz, ps]
                refine tk 2 (v := ?_) (hy := ?_) (h := ?_); rotate_left
                · intro _ _; go_simp <;> with_reducible rfl
                try simp only [pu, pa, pz, ps]
                refine tk 3 (v := ?_) (hy := ?_) (h := ?_); rotate_left
                · intro _ _; go_simp <;> with_reducible rfl
                try simp only [pu, pa, pz, ps]
                refine tk 4 (v := ?_) (hy := ?_) (h := ?_); rotate_left
                · intro wt hSw; (try dsimp only at hSw); go_simp <;> with_reducible rfl
                try simp only [pu, pa, pz, ps]
                refine wpAnyH_ready (rs := [5]) (by kernel_rfl) (by simp) ?_
                refine AllReadyH.cons (o := ⟨_, _, _, _, _, _⟩) rfl (fun K hK => ?_) AllReadyH.nil
                go_simp
                refine (ref01_Right _ _).mono ?_; rintro e w1 ⟨rfl, rfl⟩; rw [hkr]
                go_wp2_with fail
                refine hK.out _ _ ?_ (fun hHeld => ?_)
                · (try dsimp only); first | assumption | exact Below.alloc hHeld hHeld.size _ | exact (Below.refl _ _).drew | exact Below.drew (Below.refl _ _) | exact Below_drewN _ _ _ | exact Below.refl _ _
                clear hK K
                try simp only [pu, pa, pz, ps]
                refine tk 6 (v := ?_) (hy := ?_) (h := ?_); rotate_left
                · intro _ _; go_simp <;> with_reducible rfl
                try simp only [pu, pa, pz, ps]
                refine tk 7 (v := ?_) (hy := ?_) (h := ?_); rotate_left
                · intro _ _; go_simp <;> with_reducible rfl
                try simp only [pu, pa, pz, ps]
                refine tk 8 (v := ?_) (hy := ?_) (h := ?_); rotate_left
                · intro _ _; go_simp <;> with_reducible rfl
                try simp only [pu, pa, pz, ps]
                refine tk 9 (v := ?_) (hy := ?_) (h := ?_); rotate_left
                · intro _ _; go_simp <;> with_reducible rfl
                try simp only [pu, pa, pz, ps]
                refine tk 10 (v := ?_) (hy := ?_) (h := ?_); rotate_left
                · intro _ _; go_simp <;> with_reducible rfl
                try simp only [pu, pa, pz, ps]
                refine tk 11 (v := ?_) (hy := ?_) (h := ?_); rotate_left
                · intro _ _; go_simp <;> with_reducible rfl
                try simp only [pu, pa, pz, ps]
                refine tk 12 (v := ?_) (hy := ?_) (h := ?_); rotate_left
                · intro wt hSw; (try dsimp only at hSw); go_simp <;> with_reducible rfl
                try simp only [pu, pa, pz, ps]
                refine tk 13 (v := ?_) (hy := ?_) (h := ?_); rotate_left
                · intro _ _; go_simp <;> with_reducible rfl
                try simp only [pu, pa, pz, ps]
                refine tk 14 (v := ?_) (hy := ?_) (h := ?_); rotate_left
                · intro wt hSw; (try dsimp only at hSw); go_simp <;> with_reducible rfl
                try simp only [pu, pa, pz, ps]
                refine tk 15 (v := ?_) (hy := ?_) (h := ?_); rotate_left
                · intro _ _; go_simp <;> with_reducible rfl
                try simp only [pu, pa, pz, ps]
                refine tk 16 (v := ?_) (hy := ?_) (h := ?_); rotate_left
                · intro _ _; go_simp <;> with_reducible rfl
                try simp only [pu, pa, pz, ps]
                refine tk 17 (v := ?_) (hy := ?_) (h := ?_); rotate_left
                · intro wt hSw; (try dsimp only at hSw); go_simp <;> with_reducible rfl
                try simp only [pu, pa, pz, ps]
                refine tk 18 (v := ?_) (hy := ?_) (h := ?_); rotate_left
                · intro _ _; go_simp <;> with_reducible rfl
                try simp only [pu, pa, pz, ps]
                refine tk 19 (v := ?_) (hy := ?_) (h := ?_); rotate_left
                · intro _ _; go_simp <;> with_reducible rfl
                try simp only [pu, pa, pz, ps]
                refine tk 20 (v := ?_) (hy := ?_) (h := ?_); rotate_left
                · intro wt hSw; (try dsimp only at hSw); go_simp <;> with_reducible rfl
                try simp only [pu, pa, pz, ps]
                refine wpAnyH_ready (rs := [21]) (by kernel_rfl) (by simp) ?_
                refine AllReadyH.cons (o := ⟨_, _, _, _, _, _⟩) rfl (fun K hK => ?_) AllReadyH.nil
                go_simp
                refine (HI.out _).mono ?_; rintro e w2 ⟨rfl, rfl⟩
                go_wp2_with fail
                refine hK.out _ _ ?_ (fun hHeld => ?_)
                · (try dsimp only); first | assumption | exact Below.alloc hHeld hHeld.size _ | exact (Below.refl _ _).drew | exact Below.drew (Below.refl _ _) | exact Below_drewN _ _ _ | exact Below.refl _ _
                clear hK K
                try simp only [pu, pa, pz, ps]
                refine tk 22 (v := ?_) (hy := ?_) (h := ?_); rotate_left
                · intro _ _; go_simp <;> with_reducible rfl
                try simp only [pu, pa, pz, ps]
                refine tk 23 (v := ?_) (hy := ?_) (h := ?_); rotate_left
                · intro _ _; go_simp <;> with_reducible rfl
                try simp only [pu, pa, pz, ps]
                refine wpAnyH_done (by kernel_rfl) ?_ _
                go_wp2_with fail
                go_ret
                exact ⟨by rw [hno.out]; rfl, HBr.out.trans (hHeld.mono HBr.out.size)⟩
              · rw [hk] at HI
                have hal2 := Lib.hid (show (l.take (q + 1)).all (kIn x.t) = true by rw [hts.out, List.all_append, hal.out]; simp [hk])
                clear hk
                go_wp2_with fail
                have qq0 := fun wt (h : Below wr.heap.size wr wt) => cellB h f0 z5
                have qq1 := fun wt (h : Below wr.heap.size wr wt) => cellB h fd z2
                have qq2 := fun wt (h : Below wr.heap.size wr wt) => cellB h x1 zv
                have qq3 := fun wt (h : Below wr.heap.size wr wt) => cellB h g0 z3
                refine wp_region_held_drew (S := (fun w' => Below wr.heap.size wr w')) (by kernel_rfl) ?_ (fun hHeld => ?_)
                · (try dsimp only); first | assumption | exact Below.alloc hHeld hHeld.size _ | exact (Below.refl _ _).drew | exact Below.drew (Below.refl _ _) | exact Below_drewN _ _ _ | exact Below.refl _ _
                refine tk 0 (v := ?_) (hy := ?_) (h := ?_); rotate_left
                · intro _ _; go_simp <;> with_reducible rfl
                try simp only [pu, pa, pz, ps]
                refine tk 1 (v := ?_) (hy := ?_) (h := ?_); rotate_left
                · intro _ _; go_simp <;> with_reducible rfl
                try simp only [pu, pa, pz, ps]
                refine tk 2 (v := ?_) (hy := ?_) (h := ?_); rotate_left
                · intro _ _; go_simp <;> with_reducible rfl
                try simp only [pu, pa, pz, ps]
                refine tk 3 (v := ?_) (hy := ?_) (h := ?_); rotate_left
                · intro _ _; go_simp <;> with_reducible rfl
                try simp only [pu, pa, pz, ps]
                refine tk 4 (v := ?_) (hy := ?_) (h := ?_); rotate_left
                · intro wt hSw; (try dsimp only at hSw); go_simp <;> with_reducible rfl
                try simp only [pu, pa, pz, ps]
                refine wpAnyH_ready (rs := [5]) (by kernel_rfl) (by simp) ?_
                refine AllReadyH.cons (o := ⟨_, _, _, _, _, _⟩) rfl (fun K hK => ?_) AllReadyH.nil
                go_simp
                refine (ref01_Right _ _).mono ?_; rintro e w1 ⟨rfl, rfl⟩; rw [hkr]
                go_wp2_with fail
                refine hK.out _ _ ?_ (fun hHeld => ?_)
                · (try dsimp only); first | assumption | exact Below.alloc hHeld hHeld.size _ | exact (Below.refl _ _).drew | exact Below.drew (Below.refl _ _) | exact Below_drewN _ _ _ | exact Below.refl _ _
                clear hK K
                try simp only [pu, pa, pz, ps]
                refine tk 6 (v := ?_) (hy := ?_) (h := ?_); rotate_left
                · intro _ _; go_simp <;> with_reducible rfl
                try simp only [pu, pa, pz, ps]
                refine tk 7 (v := ?_) (hy := ?_) (h := ?_); rotate_left
                · intro _ _; go_simp <;> with_reducible rfl
                try simp only [pu, pa, pz, ps]
                refine tk 8 (v := ?_) (hy := ?_) (h := ?_); rotate_left
                · intro _ _; go_simp <;> with_reducible rfl
                try simp only [pu, pa, pz, ps]
                refine tk 9 (v := ?_) (hy := ?_) (h := ?_); rotate_left
                · intro _ _; go_simp <;> with_reducible rfl
                try simp only [pu, pa, pz, ps]
                refine tk 10 (v := ?_) (hy := ?_) (h := ?_); rotate_left
                · intro _ _; go_simp <;> with_reducible rfl
                try simp only [pu, pa, pz, ps]
                refine tk 11 (v := ?_) (hy := ?_) (h := ?_); rotate_left
                · intro _ _; go_simp <;> with_reducible rfl
                try simp only [pu, pa, pz, ps]
                refine tk 12 (v := ?_) (hy := ?_) (h := ?_); rotate_left
                · intro wt hSw; (try dsimp only at hSw); go_simp <;> with_reducible rfl
                try simp only [pu, pa, pz, ps]
                refine tk 13 (v := ?_) (hy := ?_) (h := ?_); rotate_left
                · intro _ _; go_simp <;> with_reducible rfl
                try simp only [pu, pa, pz, ps]
                refine tk 14 (v := ?_) (hy := ?_) (h := ?_); rotate_left
                · intro wt hSw; (try dsimp only at hSw); go_simp <;> with_reducible rfl
                try simp only [pu, pa, pz, ps]
                refine tk 15 (v := ?_) (hy := ?_) (h := ?_); rotate_left
                · intro _ _; go_simp <;> with_reducible rfl
                try simp only [pu, pa, pz, ps]
                refine tk 16 (v := ?_) (hy := ?_) (h := ?_); rotate_left
                · intro _ _; go_simp <;> with_reducible rfl
                try simp only [pu, pa, pz, ps]
                refine tk 17 (v := ?_) (hy := ?_) (h := ?_); rotate_left
                · intro wt hSw; (try dsimp only at hSw); go_simp <;> with_reducible rfl
                try simp only [pu, pa, pz, ps]
                refine tk 18 (v := ?_) (hy := ?_) (h := ?_); rotate_left
                · intro _ _; go_simp <;> with_reducible rfl
                try simp only [pu, pa, pz, ps]
                refine tk 19 (v := ?_) (hy := ?_) (h := ?_); rotate_left
                · intro _ _; go_simp <;> with_reducible rfl
                try simp only [pu, pa, pz, ps]
                refine tk 20 (v := ?_) (hy := ?_) (h := ?_); rotate_left
                · intro wt hSw; (try dsimp only at hSw); go_simp <;> with_reducible rfl
                try simp only [pu, pa, pz, ps]
                refine wpAnyH_ready (rs := [21]) (by kernel_rfl) (by simp) ?_
                refine AllReadyH.cons (o := ⟨_, _, _, _, _, _⟩) rfl (fun K hK => ?_) AllReadyH.nil
                go_simp
                refine (HI.out _).mono ?_; rintro e w2 ⟨rfl, rfl⟩
                go_wp2_with fail
                refine hK.out _ _ ?_ (fun hHeld => ?_)
                · (try dsimp only); first | assumption | exact Below.alloc hHeld hHeld.size _ | exact (Below.refl _ _).drew | exact Below.drew (Below.refl _ _) | exact Below_drewN _ _ _ | exact Below.refl _ _
                clear hK K
                try simp only [pu, pa, pz, ps]
                refine tk 22 (v := ?_) (hy := ?_) (h := ?_); rotate_left
                · intro _ _; go_simp <;> with_reducible rfl
                try simp only [pu, pa, pz, ps]
                refine tk 23 (v := ?_) (hy := ?_) (h := ?_); rotate_left
                · intro _ _; go_simp <;> with_reducible rfl
                try simp only [pu, pa, pz, ps]
                refine wpAnyH_done (by kernel_rfl) ?_ _
                have hBn := Lib.hid (hB.out.trans (hHeld.mono hB.out.size))
                clear hHeld
                go_wp2_with fail
                go_roundw
                case rel => exact ⟨q + 1, by omega, by simp, hal2, hBn⟩
                case measure => first | (simp [intOf]; done) | (simp [intOf]; omega)
          · obtain rfl : q = m := by omega
            have qq : ((q : Int) < (q : Int)) = False := eq_false (by omega)
            have hy := Lib.hid (HYes.out (by rw [hD2.out]; have := hal.out; rwa [List.take_of_length_le (by have := Hm.out; omega)] at this))
            go_wp2_with fail
            go_roundw
            case rel => exact ⟨k + 1, by omega, by simp, hy, hB⟩
            case measure => first | (simp [intOf]; done) | (simp [intOf]; omega)
      · have qn : ((m : Int) != x.n) = true := by simpa using hn
        have hno := Lib.hid (HNo.out (by rw [HD.out, decide_eq_false hn]; rfl))
        clear hn
        go_wp2_with fail
        go_quiet (fail)
        go_wp2_with fail
        go_ret
        exact ⟨by rw [hno.out]; rfl, HWB.out.trans ((hB.out.trans ((Below_drewN wr.heap.size wr nq).mono hB.out.size)).mono HWB.out.size)⟩
    · obtain rfl : k = M := by omega
      have qk : ((k : Int) < (k : Int)) = False := eq_false (by omega)
      have hyes := Lib.hid (fitS_yes hhead.out (by have := hall.out; rw [List.take_of_length_le (by have := HL.out.1; omega)] at this; exact this))
      go_wp2_with fail
      go_ret
      exact ⟨by rw [hyes.out]; rfl, HWB.out.trans (hB.out.mono HWB.out.size)⟩
end Go.Proofs.YtknbomikiakpmaaDoor
/- Whether two expressions are the same, by both. -/
namespace Go.Proofs.YtknbomikiakpmaaDoor
open Go.RowKit
set_option linter.unusedSimpArgs false
set_option linter.unusedVariables false
noncomputable def sameE (a b : Ex) : Bool := @decide (a = b) (Classical.propDecidable _)
theorem sameE_yes {a b : Ex} (h : a = b) : sameE a b = true := @decide_eq_true _ (Classical.propDecidable _) h
theorem sameE_no {a b : Ex} (h : ¬ a = b) : sameE a b = false := @decide_eq_false _ (Classical.propDecidable _) h
theorem sameE_eq {a b : Ex} (h : sameE a b = true) : a = b := @of_decide_eq_true _ (Classical.propDecidable _) h
theorem lists_eq {l l2 : List Ex} (hl : l.length = l2.length) (h : ∀ (i : Nat) (x y : Ex), l[i]? = some x → l2[i]? = some y → x = y) : l = l2 := by
  apply List.ext_getElem?
  intro i
  by_cases hi : i < l.length
  · have hi' : i < l2.length := by omega
    rw [List.getElem?_eq_getElem hi, List.getElem?_eq_getElem hi']
    congr 1
    exact h i _ _ (List.getElem?_eq_getElem hi) (List.getElem?_eq_getElem hi')
  · rw [List.getElem?_eq_none (by omega), List.getElem?_eq_none (by omega)]
set_option maxHeartbeats 2000000 in
theorem expr_Same : ∀ a b w v u, ExV w v a → ExV w u b → Calls Tryd.prog 52 #[v, u] w fun r w' => r = .returned (.bool (sameE a b)) ∧ Below w.heap.size w w' := by
  intro a
  induction a using Ex.ind with
  | h op t n m l ih =>
    intro b w v u hv hu
    have HIH := Lib.hid (fun x (hx : x ∈ l) y W v u (hv : ExV W v x) (hu : ExV W u y) => ih x hx y W v u hv hu)
    obtain ⟨op2, t2, n2, m2, l2⟩ := b
    obtain ⟨s1, rfl, hr1, hrow1⟩ := hv
    obtain ⟨s2, rfl, hr2, hrow2⟩ := hu
    simp only at hrow1 hrow2 ⊢
    have hl1 := hrow1.len
    have hl2 := hrow2.len
    obtain ⟨sa, sc, rfl⟩ := row_get hrow1
    obtain ⟨sa2, sc2, rfl⟩ := row_get hrow2
    have HX := Lib.hid hrow1
    have HY := Lib.hid hrow2
    obtain ⟨N, hN⟩ : ∃ N, l.length = N := ⟨_, rfl⟩
    obtain ⟨N2, hN2⟩ : ∃ N, l2.length = N := ⟨_, rfl⟩
    have HN := Lib.hid hN
    have HN2 := Lib.hid hN2
    rw [hN] at HX hl1 ⊢
    rw [hN2] at HY hl2 ⊢
    clear ih hr1 hr2 hrow1 hrow2
    by_cases h0 : op = op2
    case neg =>
      have hno := Lib.hid (sameE_no (a := ⟨op, t, n, m, l⟩) (b := ⟨op2, t2, n2, m2, l2⟩) (fun h => h0 (congrArg Ex.op h)))
      have e0 : (op != op2) = true := by rw [bne_iff_ne]; exact h0
      rw [hno.out]
      clear h0 hN hN2 
      go_enter Tryd.func52, Tryd.ntmps52
      go_wp2_with fail
      go_ret
      exact ⟨rfl, by (repeat' (first | (with_reducible exact Below.refl _ _) | (with_reducible assumption) | (with_reducible refine below_drewN ?_ _) | (with_reducible refine Below.alloc ?_ ?_ _) | (with_reducible refine Below.drew ?_) | (with_reducible refine Below.setCell ?_ ?_ _) | go_size))⟩
    subst h0
    have e0 : (op != op) = false := by simp
    by_cases h1 : t = t2
    case neg =>
      have hno := Lib.hid (sameE_no (a := ⟨op, t, n, m, l⟩) (b := ⟨op, t2, n2, m2, l2⟩) (fun h => h1 (congrArg Ex.t h)))
      have e1 : (t != t2) = true := by rw [bne_iff_ne]; exact h1
      rw [hno.out]
      clear h1 hN hN2 
      go_enter Tryd.func52, Tryd.ntmps52
      go_wp2_with fail
      go_ret
      exact ⟨rfl, by (repeat' (first | (with_reducible exact Below.refl _ _) | (with_reducible assumption) | (with_reducible refine below_drewN ?_ _) | (with_reducible refine Below.alloc ?_ ?_ _) | (with_reducible refine Below.drew ?_) | (with_reducible refine Below.setCell ?_ ?_ _) | go_size))⟩
    subst h1
    have e1 : (t != t) = false := by simp
    by_cases h2 : n = n2
    case neg =>
      have hno := Lib.hid (sameE_no (a := ⟨op, t, n, m, l⟩) (b := ⟨op, t, n2, m2, l2⟩) (fun h => h2 (congrArg Ex.n h)))
      have e2 : (n != n2) = true := by rw [bne_iff_ne]; exact h2
      rw [hno.out]
      clear h2 hN hN2 
      go_enter Tryd.func52, Tryd.ntmps52
      go_wp2_with fail
      go_ret
      exact ⟨rfl, by (repeat' (first | (with_reducible exact Below.refl _ _) | (with_reducible assumption) | (with_reducible refine below_drewN ?_ _) | (with_reducible refine Below.alloc ?_ ?_ _) | (with_reducible refine Below.drew ?_) | (with_reducible refine Below.setCell ?_ ?_ _) | go_size))⟩
    subst h2
    have e2 : (n != n) = false := by simp
    by_cases h3 : m = m2
    case neg =>
      have hno := Lib.hid (sameE_no (a := ⟨op, t, n, m, l⟩) (b := ⟨op, t, n, m2, l2⟩) (fun h => h3 (congrArg Ex.m h)))
      have e3 : (m != m2) = true := by rw [bne_iff_ne]; exact h3
      rw [hno.out]
      clear h3 hN hN2 
      go_enter Tryd.func52, Tryd.ntmps52
      go_wp2_with fail
      go_ret
      exact ⟨rfl, by (repeat' (first | (with_reducible exact Below.refl _ _) | (with_reducible assumption) | (with_reducible refine below_drewN ?_ _) | (with_reducible refine Below.alloc ?_ ?_ _) | (with_reducible refine Below.drew ?_) | (with_reducible refine Below.setCell ?_ ?_ _) | go_size))⟩
    subst h3
    have e3 : (m != m) = false := by simp
    by_cases h4 : N = N2
    case neg =>
      have hno := Lib.hid (sameE_no (a := ⟨op, t, n, m, l⟩) (b := ⟨op, t, n, m, l2⟩) (fun h => h4 (by rw [← hN, ← hN2]; exact congrArg (fun e => e.l.length) h)))
      have e4 : ((N : Int) != (N2 : Int)) = true := by rw [bne_iff_ne]; omega
      rw [hno.out]
      clear h4 hN hN2
      go_enter Tryd.func52, Tryd.ntmps52
      go_wp2_with fail
      go_ret
      exact ⟨rfl, by (repeat' (first | (with_reducible exact Below.refl _ _) | (with_reducible assumption) | (with_reducible refine below_drewN ?_ _) | (with_reducible refine Below.alloc ?_ ?_ _) | (with_reducible refine Below.drew ?_) | (with_reducible refine Below.setCell ?_ ?_ _) | go_size))⟩
    subst h4
    have e4 : ((N : Int) != (N : Int)) = false := by simp
    have HY1 := Lib.hid (fun (h : ∀ (i : Nat) (x y : Ex), l[i]? = some x → l2[i]? = some y → x = y) => sameE_yes (show (⟨op, t, n, m, l⟩ : Ex) = ⟨op, t, n, m, l2⟩ from by rw [lists_eq (hN.trans hN2.symm) h]))
    have HNo := Lib.hid (fun (i : Nat) (x y : Ex) (hx : l[i]? = some x) (hy : l2[i]? = some y) (h : ¬ x = y) => sameE_no (a := ⟨op, t, n, m, l⟩) (b := ⟨op, t, n, m, l2⟩) (fun e => h (by
      have e' : l = l2 := congrArg Ex.l e
      rw [e', hy] at hx
      exact (Option.some.inj hx).symm)))
    obtain ⟨R, hR⟩ : ∃ R, sameE ⟨op, t, n, m, l⟩ ⟨op, t, n, m, l2⟩ = R := ⟨_, rfl⟩
    rw [hR] at HY1 HNo ⊢
    clear hN hN2 hR
    obtain ⟨W0, hW0⟩ : ∃ W0, W0 = (w.alloc (.cells #[.int .i64 op, .int .i64 t, .int .i64 n, .int .i64 m, .slice sa N sc] 37)).alloc (.cells #[.int .i64 op, .int .i64 t, .int .i64 n, .int .i64 m, .slice sa2 N sc2] 37) := ⟨_, rfl⟩
    have o0 : W0.heap[w.heap.size]? = some (.cells #[.int .i64 op, .int .i64 t, .int .i64 n, .int .i64 m, .slice sa N sc] 37) := by rw [hW0, get_past (by simp)]; exact get_last rfl
    have o1 : W0.heap[w.heap.size + 1]? = some (.cells #[.int .i64 op, .int .i64 t, .int .i64 n, .int .i64 m, .slice sa2 N sc2] 37) := by rw [hW0]; exact get_last (by simp)
    have hb0 : Below w.heap.size w W0 := by rw [hW0]; exact by (repeat' (first | (with_reducible exact Below.refl _ _) | (with_reducible assumption) | (with_reducible refine below_drewN ?_ _) | (with_reducible refine Below.alloc ?_ ?_ _) | (with_reducible refine Below.drew ?_) | (with_reducible refine Below.setCell ?_ ?_ _) | go_size))
    have hsz0 : W0.heap.size = w.heap.size + 1 + 1 := by rw [hW0]; simp
    have HW0 := Lib.hid hW0
    have HO0 := Lib.hid o0
    have HO1 := Lib.hid o1
    have HB0 := Lib.hid hb0
    clear hW0 o0 o1 hb0
    go_enter Tryd.func52, Tryd.ntmps52
    go_wp2_with fail
    rw [← HW0.out]
    go_loopw [45] (fun jj wr => ∃ k : Nat, k ≤ N ∧ jj = .int .i64 k ∧ Hid (∀ (i : Nat) (x y : Ex), i < k → l[i]? = some x → l2[i]? = some y → x = y) ∧ Hid (Below W0.heap.size W0 wr)) (fun jj _ => N - (intOf jj).toNat)
    case atStart => exact ⟨0, by omega, rfl, Lib.hid (fun i x y h => by omega), Lib.hid (Below.refl _ _)⟩
    case round =>
      obtain ⟨k, hk, rfl, hall, hB⟩ := hrel
      have hBw := HB0.out.trans (hB.out.mono (by omega))
      have p0 := obj_below HO0.out hB.out (by omega)
      have p1 := obj_below HO1.out hB.out (by omega)
      have z2 := heap_lt p0
      have z3 := heap_lt p1
      have c24 : wr.cell? ⟨w.heap.size, 4, none⟩ = some (.slice sa N sc) := obj_cell p0 (i := 4) rfl
      have c34 : wr.cell? ⟨w.heap.size + 1, 4, none⟩ = some (.slice sa2 N sc2) := obj_cell p1 (i := 4) rfl
      by_cases hlt : k < N
      · have qk : ((k : Int) < (N : Int)) = True := eq_true (by omega)
        have qk' : (k < N) = True := eq_true hlt
        obtain ⟨x, hx⟩ := get_some (L := l) (n := k) (by rw [HN.out]; exact hlt)
        obtain ⟨y, hy⟩ := get_some (L := l2) (n := k) (by rw [HN2.out]; exact hlt)
        obtain ⟨b, off, s1, sn1, sc1, rfl, hbw, hc1, hc2, d0, d1, d2, d3, d4, hxv⟩ := ex_at HX.out hx
        obtain ⟨b2, off2, s3, sn3, sc3, rfl, hbw2, hc3, hc4, y0, y1, y2, y3, y4, hyv⟩ := ex_at HY.out hy
        have hmem := List.mem_of_getElem? hx
        have d0 := (hBw.cell (p := ⟨b, off + k * 5, none⟩) hbw).trans d0
        have d1 := (hBw.cell (p := ⟨b, off + k * 5 + 1, none⟩) hbw).trans d1
        have d2 := (hBw.cell (p := ⟨b, off + k * 5 + 2, none⟩) hbw).trans d2
        have d3 := (hBw.cell (p := ⟨b, off + k * 5 + 3, none⟩) hbw).trans d3
        have d4 := (hBw.cell (p := ⟨b, off + k * 5 + 4, none⟩) hbw).trans d4
        have y0 := (hBw.cell (p := ⟨b2, off2 + k * 5, none⟩) hbw2).trans y0
        have y1 := (hBw.cell (p := ⟨b2, off2 + k * 5 + 1, none⟩) hbw2).trans y1
        have y2 := (hBw.cell (p := ⟨b2, off2 + k * 5 + 2, none⟩) hbw2).trans y2
        have y3 := (hBw.cell (p := ⟨b2, off2 + k * 5 + 3, none⟩) hbw2).trans y3
        have y4 := (hBw.cell (p := ⟨b2, off2 + k * 5 + 4, none⟩) hbw2).trans y4
        have zx : b < wr.heap.size := Nat.lt_of_lt_of_le hbw hBw.size
        have zy : b2 < wr.heap.size := Nat.lt_of_lt_of_le hbw2 hBw.size
        have hxw := hxv.below hBw
        have hyw := hyv.below hBw
        have hk63 : k ≤ 9223372036854775806 := by omega
        have HLT := Lib.hid hlt
        have HBr := Lib.hid hB.out
        have HBW := Lib.hid hBw
        have hsz := hB.out.size
        obtain ⟨WX, hWX⟩ : ∃ WX, WX = wr.alloc (.cells #[.int .i64 x.op, .int .i64 x.t, .int .i64 x.n, .int .i64 x.m, .slice s1 sn1 sc1] 37) := ⟨_, rfl⟩
        have hbX : Below wr.heap.size wr WX := by rw [hWX]; exact by (repeat' (first | (with_reducible exact Below.refl _ _) | (with_reducible assumption) | (with_reducible refine below_drewN ?_ _) | (with_reducible refine Below.alloc ?_ ?_ _) | (with_reducible refine Below.drew ?_) | (with_reducible refine Below.setCell ?_ ?_ _) | go_size))
        have oX : WX.heap[wr.heap.size]? = some (.cells #[.int .i64 x.op, .int .i64 x.t, .int .i64 x.n, .int .i64 x.m, .slice s1 sn1 sc1] 37) := by rw [hWX]; exact get_last rfl
        have c0 : WX.cell? ⟨wr.heap.size, 0, none⟩ = some (.int .i64 x.op) := obj_cell oX (i := 0) rfl
        have c1 : WX.cell? ⟨wr.heap.size, 1, none⟩ = some (.int .i64 x.t) := obj_cell oX (i := 1) rfl
        have c2 : WX.cell? ⟨wr.heap.size, 2, none⟩ = some (.int .i64 x.n) := obj_cell oX (i := 2) rfl
        have c3 : WX.cell? ⟨wr.heap.size, 3, none⟩ = some (.int .i64 x.m) := obj_cell oX (i := 3) rfl
        have c4 : WX.cell? ⟨wr.heap.size, 4, none⟩ = some (.slice s1 sn1 sc1) := obj_cell oX (i := 4) rfl
        have z6 := heap_lt oX
        have HC := Lib.hid (fun W (h : Below WX.heap.size WX W) => HIH.out x hmem y W _ _ ((hxw.below hbX).below h) ((hyw.below hbX).below h))
        have HWX := Lib.hid hWX
        have HBX := Lib.hid hbX
        have hsr := hbX.size
        obtain ⟨B, hBq⟩ : ∃ B, sameE x y = B := ⟨_, rfl⟩
        rw [hBq] at HC
        have HBq := Lib.hid hBq
        have HXY := Lib.hid (And.intro hx hy)
        clear hxv hyv hxw hyw hmem hx hy hlt hBq hBw hWX hbX oX
        generalize x.op = x0 at *
        generalize x.t = x1 at *
        generalize x.n = x2 at *
        generalize x.m = x3 at *
        generalize y.op = v0 at *
        generalize y.t = v1 at *
        generalize y.n = v2 at *
        generalize y.m = v3 at *
        go_upto_region 6 with fail
        rw [← HWX.out]
        clear d0 d1 d2 d3 d4
        have y0 := (HBX.out.cell (p := ⟨b2, off2 + k * 5, none⟩) zy).trans y0
        have y1 := (HBX.out.cell (p := ⟨b2, off2 + k * 5 + 1, none⟩) zy).trans y1
        have y2 := (HBX.out.cell (p := ⟨b2, off2 + k * 5 + 2, none⟩) zy).trans y2
        have y3 := (HBX.out.cell (p := ⟨b2, off2 + k * 5 + 3, none⟩) zy).trans y3
        have y4 := (HBX.out.cell (p := ⟨b2, off2 + k * 5 + 4, none⟩) zy).trans y4
        have c34 := (HBX.out.cell (p := ⟨w.heap.size + 1, 4, none⟩) z3).trans c34
        have zy := Nat.lt_of_lt_of_le zy hsr
        have z3 := Nat.lt_of_lt_of_le z3 hsr
        have qq0 := fun wt (h : Below WX.heap.size WX wt) => cellB h c0 z6
        have qq1 := fun wt (h : Below WX.heap.size WX wt) => cellB h c1 z6
        have qq2 := fun wt (h : Below WX.heap.size WX wt) => cellB h c2 z6
        have qq3 := fun wt (h : Below WX.heap.size WX wt) => cellB h c3 z6
        have qq4 := fun wt (h : Below WX.heap.size WX wt) => cellB h c4 z6
        have qq5 := fun wt (h : Below WX.heap.size WX wt) => cellB h c34 z3
        have qq6 := fun wt (h : Below WX.heap.size WX wt) => cellB h y0 zy
        have qq7 := fun wt (h : Below WX.heap.size WX wt) => cellB h y1 zy
        have qq8 := fun wt (h : Below WX.heap.size WX wt) => cellB h y2 zy
        have qq9 := fun wt (h : Below WX.heap.size WX wt) => cellB h y3 zy
        have qq10 := fun wt (h : Below WX.heap.size WX wt) => cellB h y4 zy
        refine wp_region_held_drew (S := (fun w' => Below WX.heap.size WX w')) (by kernel_rfl) ?_ (fun hHeld => ?_)
        · (try dsimp only); first | assumption | exact Below.alloc hHeld hHeld.size _ | exact (Below.refl _ _).drew | exact Below.drew (Below.refl _ _) | exact Below_drewN _ _ _ | exact Below.refl _ _
        refine tk 0 (v := ?_) (hy := ?_) (h := ?_); rotate_left
        · intro wt hSw; (try dsimp only at hSw); go_simp <;> with_reducible rfl
        try simp only [pu, pa, pz, ps]
        refine tk 1 (v := ?_) (hy := ?_) (h := ?_); rotate_left
        · intro _ _; go_simp <;> with_reducible rfl
        try simp only [pu, pa, pz, ps]
        refine tk 2 (v := ?_) (hy := ?_) (h := ?_); rotate_left
        · intro wt hSw; (try dsimp only at hSw); go_simp <;> with_reducible rfl
        try simp only [pu, pa, pz, ps]
        refine tk 3 (v := ?_) (hy := ?_) (h := ?_); rotate_left
        · intro _ _; go_simp <;> with_reducible rfl
        try simp only [pu, pa, pz, ps]
        refine tk 4 (v := ?_) (hy := ?_) (h := ?_); rotate_left
        · intro _ _; go_simp <;> with_reducible rfl
        try simp only [pu, pa, pz, ps]
        refine tk 5 (v := ?_) (hy := ?_) (h := ?_); rotate_left
        · intro wt hSw; (try dsimp only at hSw); go_simp <;> with_reducible rfl
        try simp only [pu, pa, pz, ps]
        refine wpAnyH_ready (rs := [6]) (by kernel_rfl) (by simp) ?_
        refine AllReadyH.cons (o := ⟨_, _, _, _, _, _⟩) rfl (fun K hK => ?_) AllReadyH.nil
        go_simp
        refine (HC.out _ hHeld).mono ?_; rintro r w2 ⟨rfl, hb⟩; have hHeld := hHeld.trans (hb.mono hHeld.size)
        go_wp2_with fail
        refine hK.out _ _ ?_ (fun hHeld => ?_)
        · (try dsimp only); first | assumption | exact Below.alloc hHeld hHeld.size _ | exact (Below.refl _ _).drew | exact Below.drew (Below.refl _ _) | exact Below_drewN _ _ _ | exact Below.refl _ _
        clear hK K
        try simp only [pu, pa, pz, ps]
        refine tk 7 (v := ?_) (hy := ?_) (h := ?_); rotate_left
        · intro _ _; go_simp <;> with_reducible rfl
        try simp only [pu, pa, pz, ps]
        refine wpAnyH_done (by kernel_rfl) ?_ _
        have HH := Lib.hid (HBr.out.trans ((HBX.out.trans (hHeld.mono HBX.out.size)).mono hsz))
        have HHw := Lib.hid (HBW.out.trans ((HBX.out.trans (hHeld.mono HBX.out.size)).mono HBW.out.size))
        clear hHeld
        cases B
        · have hno := Lib.hid (HNo.out k x y HXY.out.1 HXY.out.2 (fun e => by have := HBq.out; rw [sameE_yes e] at this; cases this))
          go_wp2_with fail
          go_ret
          exact ⟨by rw [hno.out]; rfl, HHw.out⟩
        · have hs := Lib.hid (show ∀ (i : Nat) (x y : Ex), i < k + 1 → l[i]? = some x → l2[i]? = some y → x = y from fun i x' y' hi hx' hy' => by
            rcases (show i < k ∨ i = k by omega) with h | rfl
            · exact hall.out i x' y' h hx' hy'
            · rw [HXY.out.1] at hx'; rw [HXY.out.2] at hy'
              rw [← Option.some.inj hx', ← Option.some.inj hy']
              exact sameE_eq HBq.out)
          go_wp2_with fail
          go_roundw
          case rel => exact ⟨k + 1, by have := HLT.out; omega, by simp, hs, HH⟩
          case measure => have := HLT.out; first | (simp [intOf]; done) | (simp [intOf]; omega)
      · obtain rfl : k = N := by omega
        have qk : ((k : Int) < (k : Int)) = False := eq_false (by omega)
        have qk' : (k < k) = False := eq_false (by omega)
        have hyes := Lib.hid (HY1.out (fun i x y hx hy => hall.out i x y (by rw [← HN.out]; exact lt_of_get hx) hx hy))
        have HBW := Lib.hid hBw
        clear hBw hall
        go_wp2_with fail
        go_ret
        exact ⟨by rw [hyes.out]; rfl, HBW.out⟩
set_option maxHeartbeats 2000000 in
theorem ref26_Same : ∀ a b w v u, ExV w v a → ExV w u b → Calls Tryd.prog 17 #[v, u] w fun r w' => r = .returned (.bool (sameE a b)) ∧ Below w.heap.size w w' := by
  intro a
  induction a using Ex.ind with
  | h op t n m l ih =>
    intro b w v u hv hu
    have HIH := Lib.hid (fun x (hx : x ∈ l) y W v u (hv : ExV W v x) (hu : ExV W u y) => ih x hx y W v u hv hu)
    obtain ⟨op2, t2, n2, m2, l2⟩ := b
    obtain ⟨s1, rfl, hr1, hrow1⟩ := hv
    obtain ⟨s2, rfl, hr2, hrow2⟩ := hu
    simp only at hrow1 hrow2 ⊢
    have hl1 := hrow1.len
    have hl2 := hrow2.len
    obtain ⟨sa, sc, rfl⟩ := row_get hrow1
    obtain ⟨sa2, sc2, rfl⟩ := row_get hrow2
    have HX := Lib.hid hrow1
    have HY := Lib.hid hrow2
    obtain ⟨N, hN⟩ : ∃ N, l.length = N := ⟨_, rfl⟩
    obtain ⟨N2, hN2⟩ : ∃ N, l2.length = N := ⟨_, rfl⟩
    have HN := Lib.hid hN
    have HN2 := Lib.hid hN2
    rw [hN] at HX hl1 ⊢
    rw [hN2] at HY hl2 ⊢
    clear ih hr1 hr2 hrow1 hrow2
    by_cases h0 : op = op2
    case neg =>
      have hno := Lib.hid (sameE_no (a := ⟨op, t, n, m, l⟩) (b := ⟨op2, t2, n2, m2, l2⟩) (fun h => h0 (congrArg Ex.op h)))
      have e0 : (op != op2) = true := by rw [bne_iff_ne]; exact h0
      rw [hno.out]
      clear h0 hN hN2 
      go_enter Tryd.func17, Tryd.ntmps17
      go_wp2_with fail
      go_ret
      exact ⟨rfl, by (repeat' (first | (with_reducible exact Below.refl _ _) | (with_reducible assumption) | (with_reducible refine below_drewN ?_ _) | (with_reducible refine Below.alloc ?_ ?_ _) | (with_reducible refine Below.drew ?_) | (with_reducible refine Below.setCell ?_ ?_ _) | go_size))⟩
    subst h0
    have e0 : (op != op) = false := by simp
    by_cases h1 : t = t2
    case neg =>
      have hno := Lib.hid (sameE_no (a := ⟨op, t, n, m, l⟩) (b := ⟨op, t2, n2, m2, l2⟩) (fun h => h1 (congrArg Ex.t h)))
      have e1 : (t != t2) = true := by rw [bne_iff_ne]; exact h1
      rw [hno.out]
      clear h1 hN hN2 
      go_enter Tryd.func17, Tryd.ntmps17
      go_wp2_with fail
      go_ret
      exact ⟨rfl, by (repeat' (first | (with_reducible exact Below.refl _ _) | (with_reducible assumption) | (with_reducible refine below_drewN ?_ _) | (with_reducible refine Below.alloc ?_ ?_ _) | (with_reducible refine Below.drew ?_) | (with_reducible refine Below.setCell ?_ ?_ _) | go_size))⟩
    subst h1
    have e1 : (t != t) = false := by simp
    by_cases h2 : n = n2
    case neg =>
      have hno := Lib.hid (sameE_no (a := ⟨op, t, n, m, l⟩) (b := ⟨op, t, n2, m2, l2⟩) (fun h => h2 (congrArg Ex.n h)))
      have e2 : (n != n2) = true := by rw [bne_iff_ne]; exact h2
      rw [hno.out]
      clear h2 hN hN2 
      go_enter Tryd.func17, Tryd.ntmps17
      go_wp2_with fail
      go_ret
      exact ⟨rfl, by (repeat' (first | (with_reducible exact Below.refl _ _) | (with_reducible assumption) | (with_reducible refine below_drewN ?_ _) | (with_reducible refine Below.alloc ?_ ?_ _) | (with_reducible refine Below.drew ?_) | (with_reducible refine Below.setCell ?_ ?_ _) | go_size))⟩
    subst h2
    have e2 : (n != n) = false := by simp
    by_cases h3 : m = m2
    case neg =>
      have hno := Lib.hid (sameE_no (a := ⟨op, t, n, m, l⟩) (b := ⟨op, t, n, m2, l2⟩) (fun h => h3 (congrArg Ex.m h)))
      have e3 : (m != m2) = true := by rw [bne_iff_ne]; exact h3
      rw [hno.out]
      clear h3 hN hN2 
      go_enter Tryd.func17, Tryd.ntmps17
      go_wp2_with fail
      go_ret
      exact ⟨rfl, by (repeat' (first | (with_reducible exact Below.refl _ _) | (with_reducible assumption) | (with_reducible refine below_drewN ?_ _) | (with_reducible refine Below.alloc ?_ ?_ _) | (with_reducible refine Below.drew ?_) | (with_reducible refine Below.setCell ?_ ?_ _) | go_size))⟩
    subst h3
    have e3 : (m != m) = false := by simp
    by_cases h4 : N = N2
    case neg =>
      have hno := Lib.hid (sameE_no (a := ⟨op, t, n, m, l⟩) (b := ⟨op, t, n, m, l2⟩) (fun h => h4 (by rw [← hN, ← hN2]; exact congrArg (fun e => e.l.length) h)))
      have e4 : ((N : Int) != (N2 : Int)) = true := by rw [bne_iff_ne]; omega
      rw [hno.out]
      clear h4 hN hN2
      go_enter Tryd.func17, Tryd.ntmps17
      go_wp2_with fail
      go_ret
      exact ⟨rfl, by (repeat' (first | (with_reducible exact Below.refl _ _) | (with_reducible assumption) | (with_reducible refine below_drewN ?_ _) | (with_reducible refine Below.alloc ?_ ?_ _) | (with_reducible refine Below.drew ?_) | (with_reducible refine Below.setCell ?_ ?_ _) | go_size))⟩
    subst h4
    have e4 : ((N : Int) != (N : Int)) = false := by simp
    have HY1 := Lib.hid (fun (h : ∀ (i : Nat) (x y : Ex), l[i]? = some x → l2[i]? = some y → x = y) => sameE_yes (show (⟨op, t, n, m, l⟩ : Ex) = ⟨op, t, n, m, l2⟩ from by rw [lists_eq (hN.trans hN2.symm) h]))
    have HNo := Lib.hid (fun (i : Nat) (x y : Ex) (hx : l[i]? = some x) (hy : l2[i]? = some y) (h : ¬ x = y) => sameE_no (a := ⟨op, t, n, m, l⟩) (b := ⟨op, t, n, m, l2⟩) (fun e => h (by
      have e' : l = l2 := congrArg Ex.l e
      rw [e', hy] at hx
      exact (Option.some.inj hx).symm)))
    obtain ⟨R, hR⟩ : ∃ R, sameE ⟨op, t, n, m, l⟩ ⟨op, t, n, m, l2⟩ = R := ⟨_, rfl⟩
    rw [hR] at HY1 HNo ⊢
    clear hN hN2 hR
    obtain ⟨W0, hW0⟩ : ∃ W0, W0 = (w.alloc (.cells #[.int .i64 op, .int .i64 t, .int .i64 n, .int .i64 m, .slice sa N sc] 37)).alloc (.cells #[.int .i64 op, .int .i64 t, .int .i64 n, .int .i64 m, .slice sa2 N sc2] 37) := ⟨_, rfl⟩
    have o0 : W0.heap[w.heap.size]? = some (.cells #[.int .i64 op, .int .i64 t, .int .i64 n, .int .i64 m, .slice sa N sc] 37) := by rw [hW0, get_past (by simp)]; exact get_last rfl
    have o1 : W0.heap[w.heap.size + 1]? = some (.cells #[.int .i64 op, .int .i64 t, .int .i64 n, .int .i64 m, .slice sa2 N sc2] 37) := by rw [hW0]; exact get_last (by simp)
    have hb0 : Below w.heap.size w W0 := by rw [hW0]; exact by (repeat' (first | (with_reducible exact Below.refl _ _) | (with_reducible assumption) | (with_reducible refine below_drewN ?_ _) | (with_reducible refine Below.alloc ?_ ?_ _) | (with_reducible refine Below.drew ?_) | (with_reducible refine Below.setCell ?_ ?_ _) | go_size))
    have hsz0 : W0.heap.size = w.heap.size + 1 + 1 := by rw [hW0]; simp
    have HW0 := Lib.hid hW0
    have HO0 := Lib.hid o0
    have HO1 := Lib.hid o1
    have HB0 := Lib.hid hb0
    clear hW0 o0 o1 hb0
    go_enter Tryd.func17, Tryd.ntmps17
    go_wp2_with fail
    rw [← HW0.out]
    go_loopw [5] (fun jj wr => ∃ k : Nat, k ≤ N ∧ jj = .int .i64 k ∧ Hid (∀ (i : Nat) (x y : Ex), i < k → l[i]? = some x → l2[i]? = some y → x = y) ∧ Hid (Below W0.heap.size W0 wr)) (fun jj _ => N - (intOf jj).toNat)
    case atStart => exact ⟨0, by omega, rfl, Lib.hid (fun i x y h => by omega), Lib.hid (Below.refl _ _)⟩
    case round =>
      obtain ⟨k, hk, rfl, hall, hB⟩ := hrel
      have hBw := HB0.out.trans (hB.out.mono (by omega))
      have p0 := obj_below HO0.out hB.out (by omega)
      have p1 := obj_below HO1.out hB.out (by omega)
      have z2 := heap_lt p0
      have z3 := heap_lt p1
      have c24 : wr.cell? ⟨w.heap.size, 4, none⟩ = some (.slice sa N sc) := obj_cell p0 (i := 4) rfl
      have c34 : wr.cell? ⟨w.heap.size + 1, 4, none⟩ = some (.slice sa2 N sc2) := obj_cell p1 (i := 4) rfl
      by_cases hlt : k < N
      · have qk : ((k : Int) < (N : Int)) = True := eq_true (by omega)
        have qk' : (k < N) = True := eq_true hlt
        obtain ⟨x, hx⟩ := get_some (L := l) (n := k) (by rw [HN.out]; exact hlt)
        obtain ⟨y, hy⟩ := get_some (L := l2) (n := k) (by rw [HN2.out]; exact hlt)
        obtain ⟨b, off, s1, sn1, sc1, rfl, hbw, hc1, hc2, d0, d1, d2, d3, d4, hxv⟩ := ex_at HX.out hx
        obtain ⟨b2, off2, s3, sn3, sc3, rfl, hbw2, hc3, hc4, y0, y1, y2, y3, y4, hyv⟩ := ex_at HY.out hy
        have hmem := List.mem_of_getElem? hx
        have d0 := (hBw.cell (p := ⟨b, off + k * 5, none⟩) hbw).trans d0
        have d1 := (hBw.cell (p := ⟨b, off + k * 5 + 1, none⟩) hbw).trans d1
        have d2 := (hBw.cell (p := ⟨b, off + k * 5 + 2, none⟩) hbw).trans d2
        have d3 := (hBw.cell (p := ⟨b, off + k * 5 + 3, none⟩) hbw).trans d3
        have d4 := (hBw.cell (p := ⟨b, off + k * 5 + 4, none⟩) hbw).trans d4
        have y0 := (hBw.cell (p := ⟨b2, off2 + k * 5, none⟩) hbw2).trans y0
        have y1 := (hBw.cell (p := ⟨b2, off2 + k * 5 + 1, none⟩) hbw2).trans y1
        have y2 := (hBw.cell (p := ⟨b2, off2 + k * 5 + 2, none⟩) hbw2).trans y2
        have y3 := (hBw.cell (p := ⟨b2, off2 + k * 5 + 3, none⟩) hbw2).trans y3
        have y4 := (hBw.cell (p := ⟨b2, off2 + k * 5 + 4, none⟩) hbw2).trans y4
        have zx : b < wr.heap.size := Nat.lt_of_lt_of_le hbw hBw.size
        have zy : b2 < wr.heap.size := Nat.lt_of_lt_of_le hbw2 hBw.size
        have hxw := hxv.below hBw
        have hyw := hyv.below hBw
        have hk63 : k ≤ 9223372036854775806 := by omega
        have HLT := Lib.hid hlt
        have HBr := Lib.hid hB.out
        have HBW := Lib.hid hBw
        have hsz := hB.out.size
        obtain ⟨WX, hWX⟩ : ∃ WX, WX = wr := ⟨_, rfl⟩
        have HC := Lib.hid (fun W (h : Below wr.heap.size wr W) => HIH.out x hmem y W _ _ (hxw.below h) (hyw.below h))
        have HBX := Lib.hid (show Below wr.heap.size wr wr from Below.refl _ _)
        clear hWX
        obtain ⟨B, hBq⟩ : ∃ B, sameE x y = B := ⟨_, rfl⟩
        rw [hBq] at HC
        have HBq := Lib.hid hBq
        have HXY := Lib.hid (And.intro hx hy)
        clear hxv hyv hxw hyw hmem hx hy hlt hBq hBw 
        generalize x.op = x0 at *
        generalize x.t = x1 at *
        generalize x.n = x2 at *
        generalize x.m = x3 at *
        generalize y.op = v0 at *
        generalize y.t = v1 at *
        generalize y.n = v2 at *
        generalize y.m = v3 at *
        go_upto_region 6 with fail
        have qq0 := fun wt (h : Below wr.heap.size wr wt) => cellB h c24 z2
        have qq1 := fun wt (h : Below wr.heap.size wr wt) => cellB h d0 zx
        have qq2 := fun wt (h : Below wr.heap.size wr wt) => cellB h d1 zx
        have qq3 := fun wt (h : Below wr.heap.size wr wt) => cellB h d2 zx
        have qq4 := fun wt (h : Below wr.heap.size wr wt) => cellB h d3 zx
        have qq5 := fun wt (h : Below wr.heap.size wr wt) => cellB h d4 zx
        have qq6 := fun wt (h : Below wr.heap.size wr wt) => cellB h c34 z3
        have qq7 := fun wt (h : Below wr.heap.size wr wt) => cellB h y0 zy
        have qq8 := fun wt (h : Below wr.heap.size wr wt) => cellB h y1 zy
        have qq9 := fun wt (h : Below wr.heap.size wr wt) => cellB h y2 zy
        have qq10 := fun wt (h : Below wr.heap.size wr wt) => cellB h y3 zy
        have qq11 := fun wt (h : Below wr.heap.size wr wt) => cellB h y4 zy
        refine wp_region_held_drew (S := (fun w' => Below wr.heap.size wr w')) (by kernel_rfl) ?_ (fun hHeld => ?_)
        · (try dsimp only); first | assumption | exact Below.alloc hHeld hHeld.size _ | exact (Below.refl _ _).drew | exact Below.drew (Below.refl _ _) | exact Below_drewN _ _ _ | exact Below.refl _ _
        refine tk 0 (v := ?_) (hy := ?_) (h := ?_); rotate_left
        · intro _ _; go_simp <;> with_reducible rfl
        try simp only [pu, pa, pz, ps]
        refine tk 1 (v := ?_) (hy := ?_) (h := ?_); rotate_left
        · intro wt hSw; (try dsimp only at hSw); go_simp <;> with_reducible rfl
        try simp only [pu, pa, pz, ps]
        refine tk 2 (v := ?_) (hy := ?_) (h := ?_); rotate_left
        · intro _ _; go_simp <;> with_reducible rfl
        try simp only [pu, pa, pz, ps]
        refine tk 3 (v := ?_) (hy := ?_) (h := ?_); rotate_left
        · intro _ _; go_simp <;> with_reducible rfl
        try simp only [pu, pa, pz, ps]
        refine tk 4 (v := ?_) (hy := ?_) (h := ?_); rotate_left
        · intro wt hSw; (try dsimp only at hSw); go_simp <;> with_reducible rfl
        try simp only [pu, pa, pz, ps]
        refine tk 5 (v := ?_) (hy := ?_) (h := ?_); rotate_left
        · intro _ _; go_simp <;> with_reducible rfl
        try simp only [pu, pa, pz, ps]
        refine tk 6 (v := ?_) (hy := ?_) (h := ?_); rotate_left
        · intro wt hSw; (try dsimp only at hSw); go_simp <;> with_reducible rfl
        try simp only [pu, pa, pz, ps]
        refine tk 7 (v := ?_) (hy := ?_) (h := ?_); rotate_left
        · intro _ _; go_simp <;> with_reducible rfl
        try simp only [pu, pa, pz, ps]
        refine tk 8 (v := ?_) (hy := ?_) (h := ?_); rotate_left
        · intro _ _; go_simp <;> with_reducible rfl
        try simp only [pu, pa, pz, ps]
        refine tk 9 (v := ?_) (hy := ?_) (h := ?_); rotate_left
        · intro wt hSw; (try dsimp only at hSw); go_simp <;> with_reducible rfl
        try simp only [pu, pa, pz, ps]
        refine wpAnyH_ready (rs := [10]) (by kernel_rfl) (by simp) ?_
        refine AllReadyH.cons (o := ⟨_, _, _, _, _, _⟩) rfl (fun K hK => ?_) AllReadyH.nil
        go_simp
        refine (HC.out _ hHeld).mono ?_; rintro r w2 ⟨rfl, hb⟩; have hHeld := hHeld.trans (hb.mono hHeld.size)
        go_wp2_with fail
        refine hK.out _ _ ?_ (fun hHeld => ?_)
        · (try dsimp only); first | assumption | exact Below.alloc hHeld hHeld.size _ | exact (Below.refl _ _).drew | exact Below.drew (Below.refl _ _) | exact Below_drewN _ _ _ | exact Below.refl _ _
        clear hK K
        try simp only [pu, pa, pz, ps]
        refine tk 11 (v := ?_) (hy := ?_) (h := ?_); rotate_left
        · intro _ _; go_simp <;> with_reducible rfl
        try simp only [pu, pa, pz, ps]
        refine wpAnyH_done (by kernel_rfl) ?_ _
        have HH := Lib.hid (HBr.out.trans ((HBX.out.trans (hHeld.mono HBX.out.size)).mono hsz))
        have HHw := Lib.hid (HBW.out.trans ((HBX.out.trans (hHeld.mono HBX.out.size)).mono HBW.out.size))
        clear hHeld
        cases B
        · have hno := Lib.hid (HNo.out k x y HXY.out.1 HXY.out.2 (fun e => by have := HBq.out; rw [sameE_yes e] at this; cases this))
          go_wp2_with fail
          go_ret
          exact ⟨by rw [hno.out]; rfl, HHw.out⟩
        · have hs := Lib.hid (show ∀ (i : Nat) (x y : Ex), i < k + 1 → l[i]? = some x → l2[i]? = some y → x = y from fun i x' y' hi hx' hy' => by
            rcases (show i < k ∨ i = k by omega) with h | rfl
            · exact hall.out i x' y' h hx' hy'
            · rw [HXY.out.1] at hx'; rw [HXY.out.2] at hy'
              rw [← Option.some.inj hx', ← Option.some.inj hy']
              exact sameE_eq HBq.out)
          go_wp2_with fail
          go_roundw
          case rel => exact ⟨k + 1, by have := HLT.out; omega, by simp, hs, HH⟩
          case measure => have := HLT.out; first | (simp [intOf]; done) | (simp [intOf]; omega)
      · obtain rfl : k = N := by omega
        have qk : ((k : Int) < (k : Int)) = False := eq_false (by omega)
        have qk' : (k < k) = False := eq_false (by omega)
        have hyes := Lib.hid (HY1.out (fun i x y hx hy => hall.out i x y (by rw [← HN.out]; exact lt_of_get hx) hx hy))
        have HBW := Lib.hid hBw
        clear hBw hall
        go_wp2_with fail
        go_ret
        exact ⟨by rw [hyes.out]; rfl, HBW.out⟩
end Go.Proofs.YtknbomikiakpmaaDoor
/- Layer 17: what is wrong of tables, by the answer. -/
namespace Go.Proofs.YtknbomikiakpmaaDoor
open Go.RowKit
set_option linter.unusedSimpArgs false
set_option linter.unusedVariables false
def goodV (x : Vr) : Bool := kRight x.t && (kIn x.t x.init && decide (1 ≤ x.n ∧ x.n ≤ 16 ∧ 0 ≤ x.area ∧ x.area ≤ 2))
def goodB (x : Bk) : Bool := decide (1 ≤ x.kind ∧ x.kind ≤ 8)
def tablesE (V : List Vr) (B : List Bk) : Int := if 64 < V.length ∨ 32 < B.length then 5 else if V.all goodV && B.all goodB then 0 else 10
theorem good_no {x : Vr} (h : kRight x.t = false ∨ kIn x.t x.init = false ∨ ¬ (1 ≤ x.n ∧ x.n ≤ 16 ∧ 0 ≤ x.area ∧ x.area ≤ 2)) : goodV x = false := by
  unfold goodV
  rcases h with h | h | h
  · rw [h]; rfl
  · rw [h]; simp
  · rw [decide_eq_false h]; simp
theorem good_yes {x : Vr} (h1 : kRight x.t = true) (h2 : kIn x.t x.init = true) (h3 : 1 ≤ x.n ∧ x.n ≤ 16 ∧ 0 ≤ x.area ∧ x.area ≤ 2) : goodV x = true := by
  unfold goodV; rw [h1, h2, decide_eq_true h3]; rfl
end Go.Proofs.YtknbomikiakpmaaDoor

/- Layer 17: functions that ask, one behind the other; what each asks. -/
namespace Go.Proofs.YtknbomikiakpmaaDoor
open Go.RowKit
set_option linter.unusedSimpArgs false
set_option linter.unusedVariables false
abbrev Fun := Nat × Array Value
def funcR : Rep Fun := fun _ cs f => cs = [.func (.func f.1) #[] f.2]
theorem funcR_stable : Stable funcR := fun _ _ _ _ h _ => h
def firstE (es : List Int) : Int := (es.find? (· != 0)).getD 0
theorem firstE_at {es : List Int} {k : Nat} {z : Int} (h : ∀ x ∈ es.take k, x = 0) (hk : es[k]? = some z) (hz : z ≠ 0) : firstE es = z := by
  unfold firstE
  rw [← List.take_append_drop k es, List.find?_append]
  have h0 : (es.take k).find? (· != 0) = none := List.find?_eq_none.2 fun x hx => by simp [h x hx]
  have hd : es.drop k = z :: es.drop (k + 1) := by
    have hl := lt_of_get hk
    rw [List.drop_eq_getElem_cons hl]
    congr 1
    have := List.getElem?_eq_some_iff.1 hk
    obtain ⟨_, this⟩ := this
    exact this
  rw [h0, hd]
  simp [hz]
theorem firstE_none {es : List Int} (h : ∀ x ∈ es, x = 0) : firstE es = 0 := by
  unfold firstE
  rw [List.find?_eq_none.2 fun x hx => by simp [h x hx]]
  rfl
def unlessE (b : Bool) (z : Int) : Int := if b then 0 else z
end Go.Proofs.YtknbomikiakpmaaDoor

/- Layer 17: a variable; all of a list. -/
namespace Go.Proofs.YtknbomikiakpmaaDoor
open Go.RowKit
set_option linter.unusedSimpArgs false
set_option linter.unusedVariables false
def allE (b : Bool) : Int := if b then 0 else 10
end Go.Proofs.YtknbomikiakpmaaDoor

/- Layer 17: tables. -/
namespace Go.Proofs.YtknbomikiakpmaaDoor
open Go.RowKit
set_option linter.unusedSimpArgs false
set_option linter.unusedVariables false
theorem unless_yes {b : Bool} {z : Int} (h : b = true) : unlessE b z = 0 := by subst h; rfl
theorem unless_no {b : Bool} {z : Int} (h : b = false) : unlessE b z = z := by subst h; rfl
theorem all_yes {b : Bool} (h : b = true) : allE b = 0 := by subst h; rfl
end Go.Proofs.YtknbomikiakpmaaDoor

/- Layer 15: a unit's slots, by the answer. -/
namespace Go.Proofs.YtknbomikiakpmaaDoor
open Go.RowKit
set_option linter.unusedSimpArgs false
set_option linter.unusedVariables false
def slotsL (x : Un) : List Int := x.params ++ (if x.result = 0 then [] else [x.result]) ++ x.locals
end Go.Proofs.YtknbomikiakpmaaDoor

/- Layer 15: a unit's slots, by the program. -/
namespace Go.Proofs.YtknbomikiakpmaaDoor
open Go.RowKit
set_option linter.unusedSimpArgs false
set_option linter.unusedVariables false
end Go.Proofs.YtknbomikiakpmaaDoor

/- Layer 17: a unit's head. -/
namespace Go.Proofs.YtknbomikiakpmaaDoor
open Go.RowKit
set_option linter.unusedSimpArgs false
set_option linter.unusedVariables false
def headS (P L : List Int) (r : Int) : List Int := P ++ (if r = 0 then [] else [r]) ++ L
def emptyN (n : Nat) : Bool := decide (n = 0)
def headE (P L : List Int) (r : Int) (m : Bool) : Int := firstE [unlessE (decide (P.length ≤ 8) && decide ((headS P L r).length ≤ 1024)) 5, allE ((headS P L r).all kRight), unlessE (!m || (emptyN P.length && r == 0)) 10]
end Go.Proofs.YtknbomikiakpmaaDoor

/- Layer 17: all units; a program. -/
namespace Go.Proofs.YtknbomikiakpmaaDoor
open Go.RowKit
set_option linter.unusedSimpArgs false
set_option linter.unusedVariables false
def codeE (n : Nat) : Int := unlessE (decide (0 < n) && decide (n ≤ 16384)) 5
def unitE (x : Un) (m : Bool) : Int := if headE x.params x.locals x.result m = 0 then codeE x.code.length else headE x.params x.locals x.result m
def unitsL (us : List Un) : List Int := us.mapIdx fun i x => unitE x ((i : Int) == 0)
def checkE (p : Pr) : Int := firstE [unlessE (decide (0 < p.units.length) && decide (p.units.length ≤ 8)) 5, unlessE (decide (p.consts.length ≤ 1024) && (decide (p.vars.length ≤ 64) && decide (p.blocks.length ≤ 32))) 5, allE (p.consts.all fun x => kIn x.1 x.2), tablesE p.vars p.blocks, firstE (unitsL p.units)]
theorem unitsL_at {us : List Un} {k : Nat} {x : Un} (h : us[k]? = some x) : (unitsL us)[k]? = some (unitE x ((k : Int) == 0)) := by
  unfold unitsL
  rw [List.getElem?_mapIdx, h]
  rfl
theorem unitsL_len (us : List Un) : (unitsL us).length = us.length := by simp [unitsL]
end Go.Proofs.YtknbomikiakpmaaDoor

/- Layer 17: a program's declarations. -/
namespace Go.Proofs.YtknbomikiakpmaaDoor
open Go.RowKit
set_option linter.unusedSimpArgs false
set_option linter.unusedVariables false
end Go.Proofs.YtknbomikiakpmaaDoor

/- Rows of the call's own, as what they read as: elements of q cells each. -/
namespace Go.Proofs.YtknbomikiakpmaaDoor
open Go.RowKit
set_option linter.unusedSimpArgs false
set_option linter.unusedVariables false
theorem flat_len {α : Type} {enc : α → List Value} {q : Nat} (h : ∀ x, (enc x).length = q) : ∀ L : List α, (L.flatMap enc).length = L.length * q
  | [] => by simp
  | x :: t => by
    rw [List.flatMap_cons, List.length_append, h x, flat_len h t, List.length_cons, Nat.succ_mul]; omega
theorem flat_get {α : Type} {enc : α → List Value} {q : Nat} (h : ∀ x, (enc x).length = q) : ∀ (L : List α) (i j : Nat) (x : α), L[i]? = some x → j < q → (L.flatMap enc)[i * q + j]? = (enc x)[j]?
  | [], i, j, x, hx, _ => by simp at hx
  | y :: t, i, j, x, hx, hj => by
    rw [List.flatMap_cons]
    cases i with
    | zero =>
      obtain rfl : y = x := by simpa using hx
      rw [Nat.zero_mul, Nat.zero_add, List.getElem?_append_left (by rw [h]; exact hj)]
    | succ i =>
      rw [List.getElem?_append_right (by rw [h, Nat.succ_mul]; omega), h, ← flat_get h t i j x (by simpa using hx) hj]
      congr 1
      rw [Nat.succ_mul]; omega
theorem row_owned {α : Type} {enc : α → List Value} {q : Nat} {R : Rep α} {w : World} {B : Nat} {e : TypeId} {v : Value} {L : List α} (h : ∀ x, (enc x).length = q) (hv : w.ownsRow B e q v L.length (L.flatMap enc)) (hR : ∀ x ∈ L, R w (enc x) x) : RowR q R w v L := by
  obtain ⟨hl, hv⟩ := hv
  rcases hv with ⟨rfl, h0⟩ | ⟨g, cap, cur, rfl, hb, hg, h1, h2, h3, h4⟩
  · exact Or.inl ⟨none, 0, rfl, List.length_eq_zero_iff.1 h0, fun _ => rfl⟩
  · by_cases h0 : L.length = 0
    · exact Or.inl ⟨_, cap, by rw [h0], List.length_eq_zero_iff.1 h0, fun h => by cases h⟩
    · have hlt : g < w.heap.size := by
        by_cases hgl : g < w.heap.size
        · exact hgl
        · rw [Array.getElem?_eq_none (Nat.le_of_not_lt hgl)] at hg; cases hg
      refine Or.inr ⟨g, 0, cap, rfl, by omega, h1, h2, hlt, fun i x hx => ?_⟩
      refine ⟨enc x, h x, fun j u hu => ?_, hR x (List.mem_of_getElem? hx)⟩
      have hj : j < q := by rw [← h x]; exact lt_of_get hu
      have hi := lt_of_get hx
      have h5 := flat_get h L i j x hx hj
      have hij : i * q + j < L.length * q := by
        have : (i + 1) * q ≤ L.length * q := Nat.mul_le_mul_right q hi
        rw [Nat.succ_mul] at this
        omega
      rw [hu, ← h4, List.getElem?_take, if_pos hij] at h5
      unfold World.cell?
      rw [hg]
      simp only [Nat.zero_add]
      simpa using h5
end Go.Proofs.YtknbomikiakpmaaDoor

/- Rows as chunks of cells: what is appended to a row of the call's own, whatever its elements are. -/
namespace Go.Proofs.YtknbomikiakpmaaDoor
open Go.RowKit
set_option linter.unusedSimpArgs false
set_option linter.unusedVariables false
abbrev Chunk (q : Nat) := {c : List Value // c.length = q}
def flatC {q : Nat} (CH : List (Chunk q)) : List Value := CH.flatMap Subtype.val
theorem flatC_len {q : Nat} (CH : List (Chunk q)) : (flatC CH).length = CH.length * q := flat_len (fun x => x.2) CH
theorem flatC_app {q : Nat} (A B : List (Chunk q)) : flatC (A ++ B) = flatC A ++ flatC B := by simp [flatC]
theorem flatC_one {q : Nat} (c : Chunk q) : flatC [c] = c.1 := by simp [flatC]
theorem flatC_at {q : Nat} (CH : List (Chunk q)) {k : Nat} {u : Value} (h : (flatC CH)[k]? = some u) : ∃ i j c, k = i * q + j ∧ j < q ∧ CH[i]? = some c ∧ c.1[j]? = some u := by
  have hk : k < CH.length * q := by rw [← flatC_len]; exact lt_of_get h
  have hq : 0 < q := by
    rcases Nat.eq_zero_or_pos q with rfl | h0
    · simp at hk
    · exact h0
  have hi : k / q < CH.length := Nat.div_lt_of_lt_mul (by rw [Nat.mul_comm]; exact hk)
  obtain ⟨c, hc⟩ := get_some hi
  have hkk : k = k / q * q + k % q := by rw [Nat.mul_comm]; exact (Nat.div_add_mod k q).symm
  have hr : k % q < q := Nat.mod_lt _ hq
  refine ⟨k / q, k % q, c, hkk, hr, hc, ?_⟩
  rw [← flat_get (enc := Subtype.val) (fun x => x.2) CH (k / q) (k % q) c hc hr, ← hkk]
  exact h
theorem row_chunks {α : Type} {q : Nat} {R : Rep α} {w : World} {v : Value} {L : List α} (h : RowR q R w v L) : ∃ CH : List (Chunk q), CH.length = L.length ∧ (∀ (i : Nat) (c : Chunk q) (x : α), CH[i]? = some c → L[i]? = some x → R w c.1 x) ∧ Src w v L.length (flatC CH) := by
  rcases h with ⟨a, cap, rfl, rfl, h⟩ | ⟨b, off, cap, h1, h2, h3, h4, h5, h6⟩
  · refine ⟨[], rfl, fun i c x hc => by simp at hc, ?_⟩
    cases a with
    | none => obtain rfl := h rfl; exact Or.inl ⟨rfl, rfl, rfl⟩
    | some ad => exact Or.inr ⟨ad, cap, rfl, fun j u hu => by simp [flatC] at hu⟩
  · obtain ⟨f, hf⟩ := Classical.axiomOfChoice (r := fun (i : Fin L.length) (C : List Value) => C.length = q ∧ (∀ j u, C[j]? = some u → w.cell? ⟨b, off + i.val * q + j, none⟩ = some u) ∧ R w C L[i]) (fun i => h6 i.val L[i] (by simp))
    refine ⟨List.ofFn (fun i => ⟨f i, (hf i).1⟩), by simp, fun i c x hc hx => ?_, Or.inr ⟨⟨b, off, none⟩, cap, h1, fun k u hu => ?_⟩⟩
    · have hi := lt_of_get hx
      have e1 : c = ⟨f ⟨i, hi⟩, (hf ⟨i, hi⟩).1⟩ := by simpa [hi] using hc.symm
      have e2 : L[(⟨i, hi⟩ : Fin L.length)] = x := by simpa [hi] using hx
      rw [e1, ← e2]
      exact (hf ⟨i, hi⟩).2.2
    · obtain ⟨i, j, c, rfl, hj, hc, hcu⟩ := flatC_at _ hu
      have hi : i < L.length := by have := lt_of_get hc; simpa using this
      have e1 : c = ⟨f ⟨i, hi⟩, (hf ⟨i, hi⟩).1⟩ := by simpa [hi] using hc.symm
      rw [e1] at hcu
      rw [add_at, ← Nat.add_assoc]
      exact (hf ⟨i, hi⟩).2.1 j u hcu
theorem row_conv {α β : Type} {q : Nat} {R : Rep α} {S : Rep β} {w : World} {v : Value} {L : List α} {M : List β} (h : RowR q R w v L) (hl : L.length = M.length) (hR : ∀ (i : Nat) (x : α) (y : β) (cs : List Value), L[i]? = some x → M[i]? = some y → R w cs x → S w cs y) : RowR q S w v M := by
  rcases h with ⟨a, cap, rfl, rfl, h⟩ | ⟨b, off, cap, h1, h2, h3, h4, h5, h6⟩
  · exact Or.inl ⟨a, cap, rfl, List.length_eq_zero_iff.1 hl.symm, h⟩
  · refine Or.inr ⟨b, off, cap, by rw [← hl]; exact h1, by omega, by omega, h4, h5, fun i y hy => ?_⟩
    obtain ⟨x, hx⟩ := get_some (L := L) (n := i) (by have := lt_of_get hy; omega)
    obtain ⟨C, g1, g2, g3⟩ := h6 i x hx
    exact ⟨C, g1, g2, hR i x y C hx hy g3⟩
theorem row_of_chunks {α : Type} {q : Nat} {R : Rep α} {w : World} {B : Nat} {e : TypeId} {v : Value} {n : Nat} {CH : List (Chunk q)} {L : List α} (hv : w.ownsRow B e q v n (flatC CH)) (hn : n = CH.length) (hl : CH.length = L.length) (hR : ∀ (i : Nat) (c : Chunk q) (x : α), CH[i]? = some c → L[i]? = some x → R w c.1 x) : RowR q R w v L := by
  subst hn
  exact row_conv (row_owned (enc := Subtype.val) (R := fun _ cs (c : Chunk q) => cs = c.1) (fun x => x.2) hv (fun _ _ => rfl)) hl (fun i x y cs hx hy e => by rw [e]; exact hR i x y hx hy)
theorem chunks_one {q : Nat} {CH : List (Chunk q)} (h : ∀ (i : Nat) (c : Chunk q), CH[i]? = some c → ∀ u ∈ c.1, u.oneCell' = true) : ∀ u ∈ flatC CH, u.oneCell' = true := by
  intro u hu
  obtain ⟨c, hc, hu⟩ := List.mem_flatMap.1 hu
  obtain ⟨i, hi, rfl⟩ := List.getElem_of_mem hc
  exact h i _ (by simp [hi]) u hu
theorem own_ne_type {w : World} {B : Nat} {e t : TypeId} {q n g : Nat} {u : Value} {xs : List Value} {C : Array Value} {fr : Nat × Nat} (h : w.ownsRow B e q u n xs) (hg : w.heap[g]? = some (.cells C t fr)) (hne : e ≠ t) : u.ownBlock ≠ some g := by
  intro hu
  rcases h.2 with ⟨h0, _⟩ | ⟨b, cap, cur, h0, _, h1, _⟩
  · rw [h0] at hu; simp [Value.ownBlock] at hu
  · rw [h0] at hu
    have : b = g := by simpa [Value.ownBlock] using hu
    subst this
    rw [hg] at h1
    simp at h1
    exact hne h1.2.1.symm
end Go.Proofs.YtknbomikiakpmaaDoor

/- A region that draws its order: a condition on the world that hangs on what has been carried out: loads may be taken first, of cells that a store of the same region writes later. -/
namespace Go.Proofs.YtknbomikiakpmaaDoor
open Go.RowKit
section
variable {P : Program} {ops : Array Oper} {Q : Exit → Act → World → Prop} {md : Region.Mode} {S : Array Bool → World → Prop}
/-- whatever comes up next; S holds behind each operation, of what has come up by then -/
def wpTill (P : Program) (md : Region.Mode) (ops : Array Oper) (Q : Exit → Act → World → Prop) (S : Array Bool → World → Prop) : Nat → Array Bool → Act → World → Prop
  | 0, L, a, w => Region.ready md ops L = [] ∧ Q .normal a w
  | n + 1, L, a, w => (Region.ready md ops L = [] → Q .normal a w) ∧
    ∀ i ∈ Region.ready md ops L, wpOp P ops Q i (fun b v => S (L.setIfInBounds i true) v ∧ wpTill P md ops Q S n (L.setIfInBounds i true) b v) a w
theorem till_any : ∀ (n : Nat) (L : Array Bool) (a : Act) (w : World), wpTill P md ops Q S n L a w → wpAny P md ops Q n L a w
  | 0, _, _, _, h => h
  | n + 1, _, _, _, h => ⟨h.1, fun i hi => wpOp_mono (fun b v k => till_any n _ b v k.2) (h.2 i hi)⟩
theorem till_first {i z : Nat} {oi : Oper} {u : Value} {T : World → Prop} (hi : ops[i]? = some oi) (hsel : ∀ (j : Nat) (o : Oper) cs b, ops[j]? = some o → o.op ≠ .select cs b)
    (hQ : ∀ c a w, Q (.panic c) (a.put oi.dst u) w → Q (.panic c) a w) (hz : ∀ oz, ops[z]? = some oz → ∃ e ∈ oz.after, Region.binds md e = true ∧ e.on = i) (hiz : i ≠ z)
    (hT : ∀ L v, L.getD z true = false → S L v → T v) (hS2 : ∀ L v, S (L.setIfInBounds i true) v ↔ S L v) :
    ∀ (n : Nat) (L : Array Bool) (a : Act) (w : World),
      (∀ j oj, ops[j]? = some oj → j ≠ i → L.getD j true = false → (∀ e ∈ oj.after, Region.binds md e = true → e.on ≠ i) → oi.apart ops oj = true) →
      i ∈ Region.ready md ops L → YieldsIf P ops T oi u a → L.getD z true = false → S L w →
      wpTill P md ops Q S n (L.setIfInBounds i true) (a.put oi.dst u) w → wpTill P md ops Q S (n + 1) L a w := by
  intro n
  induction n with
  | zero =>
    intro L a w _ hr hy hL hS H
    refine ⟨fun h => (by rw [h] at hr; cases hr), fun j hj => ?_⟩
    by_cases hji : j = i
    · subst hji; exact hy.wpOp hi (hT L w hL hS) ⟨(hS2 L w).2 hS, H⟩
    · have := ready_mono hj hji
      rw [H.1] at this
      cases this
  | succ n ih =>
    intro L a w hfree hr hy hL hS H
    refine ⟨fun h => (by rw [h] at hr; cases hr), fun j hj => ?_⟩
    by_cases hji : j = i
    · subst hji; exact hy.wpOp hi (hT L w hL hS) ⟨(hS2 L w).2 hS, H⟩
    · have hK := H.2 j (ready_mono hj hji)
      obtain ⟨hun, oj, hoj, hall⟩ := mem_ready.1 hj
      have hiun := (mem_ready.1 hr).1
      have hwait : ∀ e ∈ oj.after, Region.binds md e = true → e.on ≠ i := fun e he hb heq => by
        have h1 := hall e he hb
        rw [heq] at h1
        rcases Nat.lt_or_ge i L.size with h' | h'
        · simp [h'] at hiun h1; rw [hiun] at h1; cases h1
        · simp [Array.getElem?_eq_none h'] at h1
      have hjz : j ≠ z := by
        rintro rfl
        obtain ⟨e, he, hb, heq⟩ := hz oj hoj
        exact hwait e he hb heq
      have h2 := wpOp_putIf hoj (hfree j oj hoj hji hun hwait) (fun cs b => hsel i oi cs b hi) (fun cs b => hsel j oj cs b hoj) hQ hy hK
      refine wpOp_mono (fun b v k => ?_) h2
      have hSv : S (L.setIfInBounds j true) v := (hS2 _ v).1 (by
        have := k.2.1
        rw [Array.setIfInBounds_comm _ _ (Ne.symm hji)] at this
        exact this)
      have hzL : (L.setIfInBounds j true).getD z true = false := by rw [getD_set_ne true hjz]; exact hL
      refine ⟨hSv, ih (L.setIfInBounds j true) b v (fun k' ok hk hki hu hno => hfree k' ok hk hki (by
          by_cases hjk : j = k'
          · subst hjk; exact hun
          · rw [getD_set_ne true hjk] at hu; exact hu) hno) (ready_mono hr (Ne.symm hji)) k.1 hzL hSv ?_⟩
      rw [Array.setIfInBounds_comm _ _ hji]
      exact k.2.2
/-- does number z wait for number i? -/
def waits (md : Region.Mode) (ops : Array Oper) (z i : Nat) : Bool := match ops[z]? with
  | some oz => oz.after.any fun e => Region.binds md e && e.on == i
  | none => true
theorem waits_spec {z i : Nat} (h : waits md ops z i = true) : ∀ oz, ops[z]? = some oz → ∃ e ∈ oz.after, Region.binds md e = true ∧ e.on = i := by
  intro oz ho
  unfold waits at h
  rw [ho] at h
  simp only [Array.any_eq_true, Bool.and_eq_true, beq_iff_eq] at h
  obtain ⟨k, hk, h1, h2⟩ := h
  exact ⟨_, Array.getElem_mem hk, h1, h2⟩
theorem till_take (z : Nat) (T : World → Prop) {i : Nat} {oi : Oper} {u : Value} {n : Nat} {L : Array Bool} {a : Act} {w : World} (hi : ops[i]? = some oi)
    (hs : Region.noSelect ops = true) (hf : Region.free md ops L i = true) (hr : (Region.ready md ops L).contains i = true) (hz : waits md ops z i = true) (hL : L.getD z true = false) (hiz : i ≠ z)
    (hT : ∀ L v, L.getD z true = false → S L v → T v) (hS2 : ∀ L v, S (L.setIfInBounds i true) v ↔ S L v)
    (hQ : ∀ c a w, Q (.panic c) (a.put oi.dst u) w → Q (.panic c) a w) (hy : YieldsIf P ops T oi u a) (hS : S L w)
    (h : S (L.setIfInBounds i true) w → wpTill P md ops Q S n (L.setIfInBounds i true) (a.put oi.dst u) w) : wpTill P md ops Q S (n + 1) L a w :=
  till_first hi (Region.noSelect_spec hs) hQ (waits_spec hz) hiz hT hS2 n L a w (Region.free_spec hi hf) (by simpa using hr) hy hL hS (h ((hS2 L w).2 hS))
/-- one alone may come up next -/
theorem till_one {i : Nat} {o : Oper} {n : Nat} {L : Array Bool} {a : Act} {w : World} (hr : Region.ready md ops L = [i]) (ho : ops[i]? = some o)
    (h : ∀ K' : Act → World → Prop, Shut (∀ b v, S (L.setIfInBounds i true) v → (S (L.setIfInBounds i true) v → wpTill P md ops Q S n (L.setIfInBounds i true) b v) → K' b v) →
      if Region.wanted o (yielded ops a.tmps) = true then Oper.wp P o a w K' Q else K' (a.put o.dst undef) w) : wpTill P md ops Q S (n + 1) L a w := by
  refine ⟨fun h0 => (by rw [hr] at h0; cases h0), fun j hj => ?_⟩
  rw [hr] at hj
  obtain rfl := List.mem_singleton.1 hj
  exact wpOp_step ho fun K' hK => h K' fun b v hS hW => hK b v ⟨hS, hW hS⟩
theorem till_done {L : Array Bool} {a : Act} {w : World} (hr : Region.ready md ops L = []) (h : Q .normal a w) : ∀ n, wpTill P md ops Q S n L a w
  | 0 => ⟨hr, h⟩
  | _ + 1 => ⟨fun _ => h, by rw [hr]; simp⟩
theorem wp_region_till {id : Nat} {a : Act} {w : World} (hm : P.follows .mixedOrders = true) (hS : S (Array.replicate ops.size false) w.drew)
    (h : S (Array.replicate ops.size false) w.drew → wpTill P .any ops Q S ops.size (Array.replicate ops.size false) a w.drew) : (Code.region id ops true).wp P Q a w :=
  wp_region_any hm (till_any _ _ _ _ (h hS))
end
end Go.Proofs.YtknbomikiakpmaaDoor

/- Layer 17: copies; what units take, and tell. -/
namespace Go.Proofs.YtknbomikiakpmaaDoor
open Go.RowKit
set_option linter.unusedSimpArgs false
set_option linter.unusedVariables false
def sigR : Rep (List Int × Int) := fun w cs s => ∃ a, cs = [a, .int .i64 s.2] ∧ RowR 1 intR w a s.1
theorem sigR_stable : Stable sigR := fun _ _ _ _ ⟨a, h1, h2⟩ hb => ⟨a, h1, h2.below intR_stable hb⟩
def sigC (U : List Value) (us : List Un) : List (Chunk 2) := List.zipWith (fun u (x : Un) => ⟨[u, .int .i64 x.result], rfl⟩) U us
theorem sigC_snoc (U : List Value) (us : List Un) (u : Value) (x : Un) (h : U.length = us.length) : flatC (sigC (U ++ [u]) (us ++ [x])) = flatC (sigC U us) ++ [u, .int .i64 x.result] := by
  unfold sigC
  rw [List.zipWith_append h, flatC_app]
  simp [flatC]
theorem sigs_row {w : World} {B C : Nat} {U : List Value} {us : List Un} {v : Value} {n : Nat} (hn : n = us.length) (hR : OwnRows B 3 w U (us.map Un.params)) (hO : w.ownsRow C 74 2 v n (flatC (sigC U us))) (hI : ∀ x ∈ us, ∀ z ∈ x.params, I64 z) : RowR 2 sigR w v (us.map fun x => (x.params, x.result)) := by
  have hlen : U.length = us.length := by have := hR.len; simpa using this
  have hcl : (sigC U us).length = us.length := by simp [sigC, hlen]
  refine row_of_chunks hO (by rw [hcl, hn]) (by simp [hcl]) (fun i c y hc hy => ?_)
  rw [List.getElem?_map] at hy
  obtain ⟨x, hx, rfl⟩ := Option.map_eq_some_iff.1 hy
  obtain ⟨u, hu⟩ := get_some (L := U) (n := i) (by rw [hlen]; exact lt_of_get hx)
  have hcc : c = ⟨[u, .int .i64 x.result], rfl⟩ := by
    unfold sigC at hc
    rw [List.getElem?_zipWith, hu, hx] at hc
    injection hc with hc
    exact hc.symm
  subst hcc
  exact ⟨u, rfl, row_of_owns (hR.row i u x.params hu (by rw [List.getElem?_map, hx]; rfl)) (hI x (List.mem_of_getElem? hx))⟩
/-- what units take and tell, in rows of the call's own -/
def SigsO (B : Nat) (w : World) (v : Value) (us : List Un) : Prop := ∃ U, OwnRows B 3 w U (us.map Un.params) ∧ w.ownsRow B 74 2 v us.length (flatC (sigC U us))
theorem units_int {w : World} {a : Option Addr} {n c : Nat} {us : List Un} (hv : RowR 5 unitR w (.slice a n c) us) (x : Un) (hx : x ∈ us) : ∀ z ∈ x.params, I64 z := by
  obtain ⟨k, hk, rfl⟩ := List.getElem_of_mem hx
  obtain ⟨_, _, _, _, hc⟩ := unit_at hv hk
  obtain ⟨_, _, _, _, _, _, _, _, hU⟩ := hc k us[k] (by simp [hk])
  exact row_ints hU.ps
end Go.Proofs.YtknbomikiakpmaaDoor

/- Small programs, and how they lie in memory. -/
namespace Go.Proofs.YtknbomikiakpmaaDoor
open Go.RowKit
set_option linter.unusedSimpArgs false
set_option linter.unusedVariables false
def un0 : Un := ⟨[], [], 0, [], []⟩
def un34 : Un := ⟨[], [], 0, [], [(34, 0, 0)]⟩
def pr34 : Pr := ⟨[], [], [], [un34]⟩
def prNo : Pr := ⟨[], [], [], []⟩
end Go.Proofs.YtknbomikiakpmaaDoor

/- Layer 17: the program answers; shorter lists. -/
namespace Go.Proofs.YtknbomikiakpmaaDoor
open Go.RowKit
set_option linter.unusedSimpArgs false
set_option linter.unusedVariables false
end Go.Proofs.YtknbomikiakpmaaDoor

/- Layer 17, plain: what is right stays so with less; rows cut short. -/
namespace Go.Proofs.YtknbomikiakpmaaDoor
open Go.RowKit
set_option linter.unusedSimpArgs false
set_option linter.unusedVariables false
theorem firstE_zero {es : List Int} (h : firstE es = 0) : ∀ z ∈ es, z = 0 := by
  intro z hz
  unfold firstE at h
  cases hf : es.find? (· != 0) with
  | none => have := List.find?_eq_none.1 hf z hz; simpa using this
  | some y =>
    rw [hf] at h
    have := List.find?_some hf
    simp at h this
    exact absurd h this
theorem unlessE_zero {b : Bool} {z : Int} (hz : z ≠ 0) (h : unlessE b z = 0) : b = true := by
  cases b
  · exact absurd h hz
  · rfl
theorem allE_zero {b : Bool} (h : allE b = 0) : b = true := by
  cases b
  · exact absurd h (by decide)
  · rfl
theorem all_take {α : Type} {f : α → Bool} {L : List α} (h : L.all f = true) (k : Nat) : (L.take k).all f = true := by
  rw [List.all_eq_true] at h ⊢
  exact fun x hx => h x (List.mem_of_mem_take hx)
theorem tablesE_zero {V : List Vr} {B : List Bk} (h : tablesE V B = 0) : V.length ≤ 64 ∧ B.length ≤ 32 ∧ V.all goodV = true ∧ B.all goodB = true := by
  unfold tablesE at h
  by_cases h1 : 64 < V.length ∨ 32 < B.length
  · rw [if_pos h1] at h; exact absurd h (by decide)
  · rw [if_neg h1] at h
    cases hv : V.all goodV <;> cases hb : B.all goodB <;> rw [hv, hb] at h
    · exact absurd h (by decide)
    · exact absurd h (by decide)
    · exact absurd h (by decide)
    · exact ⟨by omega, by omega, rfl, rfl⟩
theorem tablesE_take {V : List Vr} {B : List Bk} (h : tablesE V B = 0) (k m : Nat) : tablesE (V.take k) (B.take m) = 0 := by
  obtain ⟨h1, h2, h3, h4⟩ := tablesE_zero h
  unfold tablesE
  have hv : (V.take k).length ≤ V.length := List.length_take_le' k V
  have hb : (B.take m).length ≤ B.length := List.length_take_le' m B
  rw [if_neg (by omega), all_take h3, all_take h4]
  rfl
theorem unitsL_take (us : List Un) (k : Nat) : unitsL (us.take k) = (unitsL us).take k := by
  apply List.ext_getElem?
  intro i
  unfold unitsL
  rw [List.getElem?_mapIdx, List.getElem?_take, List.getElem?_take]
  by_cases hi : i < k
  · rw [if_pos hi, if_pos hi, List.getElem?_mapIdx]
  · rw [if_neg hi, if_neg hi]; rfl
theorem row_cap {α : Type} {q : Nat} {R : Rep α} {w : World} {a : Option Addr} {n c : Nat} {L : List α} (h : RowR q R w (.slice a n c) L) : n ≤ c ∧ n = L.length := by
  rcases h with ⟨a', cap, h0, rfl, h1⟩ | ⟨b, off, cap, h1, h2, h3, h4, h5, h6⟩
  · injection h0 with e1 e2 e3
    subst e2
    exact ⟨by omega, rfl⟩
  · injection h1 with e1 e2 e3
    exact ⟨by omega, e2⟩
end Go.Proofs.YtknbomikiakpmaaDoor

/- Layer 17: the walk of DeclLess. -/
namespace Go.Proofs.YtknbomikiakpmaaDoor
open Go.RowKit
set_option linter.unusedSimpArgs false
set_option linter.unusedVariables false
end Go.Proofs.YtknbomikiakpmaaDoor

/- Layer 17: a unit's head, by the answer. -/
namespace Go.Proofs.YtknbomikiakpmaaDoor
open Go.RowKit
set_option linter.unusedSimpArgs false
set_option linter.unusedVariables false
end Go.Proofs.YtknbomikiakpmaaDoor

/- Layer 17: a program's declarations, by the answer. -/
namespace Go.Proofs.YtknbomikiakpmaaDoor
open Go.RowKit
set_option linter.unusedSimpArgs false
set_option linter.unusedVariables false
end Go.Proofs.YtknbomikiakpmaaDoor

/- A region that draws its order, by facts that stay: a condition on what has been carried out, the frame and the world; one goal for each operation, whatever the order. -/
namespace Go.Proofs.YtknbomikiakpmaaDoor
open Go.RowKit
set_option linter.unusedSimpArgs false
set_option linter.unusedVariables false
section
variable {P : Program} {ops : Array Oper} {Q : Exit → Act → World → Prop} {S : Array Bool → Act → World → Prop}
def openN : Nat → Array Bool → Nat
  | 0, _ => 0
  | k + 1, L => openN k L + (if L.getD k true then 0 else 1)
theorem openN_le : ∀ (k : Nat) (L : Array Bool), openN k L ≤ k
  | 0, _ => Nat.le_refl _
  | k + 1, L => by have := openN_le k L; show openN k L + _ ≤ _; split <;> omega
theorem getD_set_self (L : Array Bool) (i : Nat) : (L.setIfInBounds i true).getD i true = true := by
  rcases Nat.lt_or_ge i L.size with h | h
  · simp [h]
  · simp [Array.getElem?_eq_none h]
theorem openN_past {i : Nat} {L : Array Bool} : ∀ k : Nat, k ≤ i → openN k (L.setIfInBounds i true) = openN k L
  | 0, _ => rfl
  | k + 1, h => by
    show openN k _ + _ = openN k L + _
    rw [openN_past k (by omega), getD_set_ne true (by omega)]
theorem openN_set {i : Nat} {L : Array Bool} (hL : L.getD i true = false) : ∀ k : Nat, i < k → openN k (L.setIfInBounds i true) + 1 = openN k L
  | 0, h => by omega
  | k + 1, h => by
    show openN k _ + _ + 1 = openN k L + _
    by_cases hik : i = k
    · subst hik
      rw [openN_past i (Nat.le_refl _), getD_set_self, hL]; simp
    · have := openN_set hL k (by omega)
      rw [getD_set_ne true hik]; omega
theorem openN_zero {L : Array Bool} : ∀ k : Nat, openN k L = 0 → ∀ j, j < k → L.getD j true = true
  | 0, _, j, hj => by omega
  | k + 1, h, j, hj => by
    have h' : openN k L + (if L.getD k true then 0 else 1) = 0 := h
    by_cases hjk : j = k
    · subst hjk
      cases hq : L.getD j true
      · rw [hq] at h'; simp at h'
      · rfl
    · exact openN_zero k (by omega) j (by omega)
/-- does each number wait for smaller ones alone? -/
def ordered (ops : Array Oper) : Bool := (List.range ops.size).all fun i => match ops[i]? with
  | some o => o.after.all fun e => !Region.binds .any e || decide (e.on < i)
  | none => true
theorem ordered_spec (h : ordered ops = true) {i : Nat} {o : Oper} (ho : ops[i]? = some o) : ∀ e ∈ o.after, Region.binds .any e = true → e.on < i := by
  intro e he hb
  have hlt : i < ops.size := (Array.getElem?_eq_some_iff.1 ho).1
  have := List.all_eq_true.1 h i (List.mem_range.2 hlt)
  rw [ho] at this
  have := Array.all_eq_true_iff_forall_mem.1 this e he
  rw [hb] at this
  simpa using this
theorem getD_two {L : Array Bool} {j : Nat} (h : j < L.size) : L.getD j true = L.getD j false := by simp [h]
theorem ready_nil (ho : ordered ops = true) {L : Array Bool} (hL : L.size = ops.size) (h : Region.ready .any ops L = []) : ∀ j, j < ops.size → L.getD j false = true := by
  intro j
  induction j using Nat.strongRecOn with
  | ind j ih =>
    intro hj
    cases hq : L.getD j false
    · exfalso
      have hm : j ∈ Region.ready .any ops L := mem_ready.2 ⟨by rw [getD_two (by omega)]; exact hq, ops[j], Array.getElem?_eq_some_iff.2 ⟨hj, rfl⟩, fun e he hb => by
        have hlt := ordered_spec ho (Array.getElem?_eq_some_iff.2 ⟨hj, rfl⟩) e he hb
        exact ih _ hlt (by omega)⟩
      rw [h] at hm
      cases hm
    · rfl
/-- what number i waits for -/
def waitsOf (ops : Array Oper) (i : Nat) : List Nat := match ops[i]? with
  | some o => (o.after.toList.filter (Region.binds .any)).map (·.on)
  | none => []
/-- what is listed has all listed that it waits for -/
def Closed (ops : Array Oper) (L : Array Bool) : Prop := ∀ j, L.getD j false = true → ∀ k ∈ waitsOf ops j, L.getD k false = true
theorem Closed.step {L : Array Bool} (hC : Closed ops L) {j k : Nat} (h : L.getD j false = true) (hk : (waitsOf ops j).contains k = true) : L.getD k false = true := hC j h k (by simpa using hk)
theorem getD_no {L : Array Bool} {i : Nat} (h0 : L.getD i true = false) (h : L.getD i false = true) : False := by
  rcases Nat.lt_or_ge i L.size with h' | h'
  · rw [getD_two h', h] at h0; cases h0
  · simp [h'] at h
/-- number i, wherever it comes -/
def StepAt (P : Program) (ops : Array Oper) (Q : Exit → Act → World → Prop) (S : Array Bool → Act → World → Prop) (i : Nat) : Prop :=
  ∀ L b v, Closed ops L → L.getD i true = false → (∀ j ∈ waitsOf ops i, L.getD j false = true) → S L b v → wpOp P ops Q i (fun b' v' => S (L.setIfInBounds i true) b' v') b v
theorem StepAt.mk {i : Nat} {o : Oper} {ws : List Nat} (ho : ops[i]? = some o) (hw : waitsOf ops i = ws)
    (h : ∀ L b v, Closed ops L → L.getD i true = false → (∀ j ∈ ws, L.getD j false = true) → S L b v → ∀ K : Act → World → Prop, Shut (∀ b' v', S (L.setIfInBounds i true) b' v' → K b' v') →
      if Region.wanted o (yielded ops b.tmps) = true then Oper.wp P o b v K Q else K (b.put o.dst undef) v) : StepAt P ops Q S i :=
  fun L b v hC h0 hj hS => wpOp_step ho fun K hK => h L b v hC h0 (hw ▸ hj) hS K hK
def AllSteps (P : Program) (ops : Array Oper) (Q : Exit → Act → World → Prop) (S : Array Bool → Act → World → Prop) (n : Nat) : Prop := ∀ i, i < n → StepAt P ops Q S i
theorem AllSteps.zero : AllSteps P ops Q S 0 := fun _ h => by omega
theorem AllSteps.succ {n : Nat} (h : AllSteps P ops Q S n) (hn : StepAt P ops Q S n) : AllSteps P ops Q S (n + 1) := fun i hi => by
  by_cases hin : i = n
  · exact hin ▸ hn
  · exact h i (by omega)
theorem any_facts (ho : ordered ops = true) (hs : AllSteps P ops Q S ops.size) (he : ∀ L b v, (∀ j, j < ops.size → L.getD j false = true) → S L b v → Q .normal b v) :
    ∀ (n : Nat) (L : Array Bool) (b : Act) (v : World), L.size = ops.size → Closed ops L → openN ops.size L ≤ n → S L b v → wpAny P .any ops Q n L b v := by
  have nil_of : ∀ L : Array Bool, openN ops.size L = 0 → Region.ready .any ops L = [] := by
    intro L h0
    rw [List.eq_nil_iff_forall_not_mem]
    intro j hj
    obtain ⟨h1, o, h2, _⟩ := mem_ready.1 hj
    rw [openN_zero _ h0 j (Array.getElem?_eq_some_iff.1 h2).1] at h1
    cases h1
  intro n
  induction n with
  | zero =>
    intro L b v hL hC h0 hS
    have hr := nil_of L (by omega)
    exact ⟨hr, he L b v (ready_nil ho hL hr) hS⟩
  | succ n ih =>
    intro L b v hL hC h0 hS
    refine ⟨fun hr => he L b v (ready_nil ho hL hr) hS, fun i hi => ?_⟩
    obtain ⟨h1, o, h2, h3⟩ := mem_ready.1 hi
    have hlt := (Array.getElem?_eq_some_iff.1 h2).1
    have hw : ∀ j ∈ waitsOf ops i, L.getD j false = true := by
      intro j hj
      unfold waitsOf at hj
      rw [h2] at hj
      obtain ⟨e, he1, rfl⟩ := List.mem_map.1 hj
      obtain ⟨he2, he3⟩ := List.mem_filter.1 he1
      exact h3 e (by simpa using he2) he3
    refine wpOp_mono (fun b' v' h' => ih _ b' v' (by simpa using hL) (fun j hj k hk => ?_) (by have := openN_set h1 ops.size hlt; omega) h') (hs i hlt L b v hC h1 hw hS)
    by_cases hij : i = j
    · subst hij; exact getD_set_true (hw k hk)
    · rw [getD_set_ne false hij] at hj; exact getD_set_true (hC j hj k hk)
theorem getD_open {L : Array Bool} {i : Nat} (h0 : L.getD i true = false) : L.getD i false = false := by
  rcases Nat.lt_or_ge i L.size with h' | h'
  · rw [← getD_two h']; exact h0
  · simp [h'] at h0
theorem getD_set_done {L : Array Bool} {i : Nat} (h0 : L.getD i true = false) : (L.setIfInBounds i true).getD i false = true := by
  rcases Nat.lt_or_ge i L.size with h' | h'
  · simp [h']
  · simp [h'] at h0
theorem wp_region_facts {id n : Nat} {a : Act} {w : World} (S : Array Bool → Act → World → Prop) (hm : P.follows .mixedOrders = true) (ho : ordered ops = true) (hn : ops.size = n)
    (h0 : S (Array.replicate n false) a w.drew) (hs : AllSteps P ops Q S n) (he : ∀ L b v, (∀ j, j < n → L.getD j false = true) → S L b v → Q .normal b v) : (Code.region id ops true).wp P Q a w := by
  subst hn
  exact wp_region_any hm (any_facts ho hs he _ _ _ _ (by simp) (fun j hj => by by_cases h : j < ops.size <;> simp [Array.getD, h] at hj) (openN_le _ _) h0)
/-- a fact of number j, behind number i -/
theorem flag_ne {L : Array Bool} {i j : Nat} {F : Prop} (h : i ≠ j) (hF : L.getD j false = true → F) : (L.setIfInBounds i true).getD j false = true → F := by
  rw [getD_set_ne false h]; exact hF
theorem flag_new {n j : Nat} {F : Prop} : (Array.replicate n false).getD j false = true → F := by
  intro h
  by_cases hj : j < n <;> simp [Array.getD, hj] at h
end
end Go.Proofs.YtknbomikiakpmaaDoor

/- Layer 17: a unit's scope. -/
namespace Go.Proofs.YtknbomikiakpmaaDoor
open Go.RowKit
set_option linter.unusedSimpArgs false
set_option linter.unusedVariables false
/-- a row of the call's own, whose elements read in every world alike -/
def OwnG {α : Type} (q : Nat) (e : TypeId) (R : Rep α) (B : Nat) (w : World) (v : Value) (L : List α) : Prop := ∃ CH : List (Chunk q), CH.length = L.length ∧ (∀ (i : Nat) (c : Chunk q) (x : α), CH[i]? = some c → L[i]? = some x → ∀ W, R W c.1 x) ∧ w.ownsRow B e q v L.length (flatC CH)
theorem OwnG.below {α : Type} {q : Nat} {e : TypeId} {R : Rep α} {B : Nat} {w w' : World} {v : Value} {L : List α} (h : OwnG q e R B w v L) (hb : Below w.heap.size w w') : OwnG q e R B w' v L := by
  obtain ⟨CH, h1, h2, h3⟩ := h
  exact ⟨CH, h1, h2, owns_below h3 hb⟩
theorem OwnG.low {α : Type} {q : Nat} {e : TypeId} {R : Rep α} {B C : Nat} {w : World} {v : Value} {L : List α} (h : OwnG q e R C w v L) (hb : B ≤ C) : OwnG q e R B w v L := by
  obtain ⟨CH, h1, h2, h3⟩ := h
  exact ⟨CH, h1, h2, own_low h3 hb⟩
theorem OwnG.row {α : Type} {q : Nat} {e : TypeId} {R : Rep α} {B : Nat} {w : World} {v : Value} {L : List α} (h : OwnG q e R B w v L) : RowR q R w v L := by
  obtain ⟨CH, h1, h2, h3⟩ := h
  exact row_of_chunks h3 h1.symm h1 (fun i c x hc hx => h2 i c x hc hx w)
theorem OwnG.form {α : Type} {q : Nat} {e : TypeId} {R : Rep α} {B : Nat} {w : World} {v : Value} {L : List α} (h : OwnG q e R B w v L) : ∃ a c, v = .slice a L.length c := by
  obtain ⟨CH, h1, h2, h3⟩ := h
  exact owns_form h3
theorem OwnG.set {α : Type} {q : Nat} {e t : TypeId} {R : Rep α} {B : Nat} {w : World} {v : Value} {L : List α} {g i : Nat} {C : Array Value} {fr : Nat × Nat} {x : Value} (h : OwnG q e R B w v L) (hg : w.heap[g]? = some (.cells C t fr)) (hne : e ≠ t) : OwnG q e R B (w.setCell ⟨g, i, none⟩ x) v L := by
  obtain ⟨CH, h1, h2, h3⟩ := h
  exact ⟨CH, h1, h2, owns_set h3 (own_ne_type h3 hg hne)⟩
theorem OwnRows.set {B : Nat} {e t : TypeId} {w : World} {U : List Value} {L : List (List Int)} {g i : Nat} {C : Array Value} {fr : Nat × Nat} {x : Value} (h : OwnRows B e w U L) (hg : w.heap[g]? = some (.cells C t fr)) (hne : e ≠ t) : OwnRows B e (w.setCell ⟨g, i, none⟩ x) U L :=
  ⟨h.len, fun k u l hu hl => owns_set (h.row k u l hu hl) (own_ne_type (h.row k u l hu hl) hg hne), h.apart⟩
theorem OwnRows.low {B C : Nat} {e : TypeId} {w : World} {U : List Value} {L : List (List Int)} (h : OwnRows C e w U L) (hb : B ≤ C) : OwnRows B e w U L :=
  ⟨h.len, fun k u l hu hl => own_low (h.row k u l hu hl) hb, h.apart⟩
theorem SigsO.below {B : Nat} {w w' : World} {v : Value} {us : List Un} (h : SigsO B w v us) (hb : Below w.heap.size w w') : SigsO B w' v us := by
  obtain ⟨U, h1, h2⟩ := h
  exact ⟨U, h1.below hb, owns_below h2 hb⟩
theorem SigsO.low {B C : Nat} {w : World} {v : Value} {us : List Un} (h : SigsO C w v us) (hb : B ≤ C) : SigsO B w v us := by
  obtain ⟨U, h1, h2⟩ := h
  exact ⟨U, h1.low hb, own_low h2 hb⟩
theorem SigsO.form {B : Nat} {w : World} {v : Value} {us : List Un} (h : SigsO B w v us) : ∃ a c, v = .slice a us.length c := by
  obtain ⟨U, h1, h2⟩ := h
  exact owns_form h2
theorem SigsO.set {B : Nat} {t : TypeId} {w : World} {v : Value} {us : List Un} {g i : Nat} {C : Array Value} {fr : Nat × Nat} {x : Value} (h : SigsO B w v us) (hg : w.heap[g]? = some (.cells C t fr)) (h1 : 3 ≠ t) (h2 : 74 ≠ t) : SigsO B (w.setCell ⟨g, i, none⟩ x) v us := by
  obtain ⟨U, k1, k2⟩ := h
  exact ⟨U, k1.set hg h1, owns_set k2 (own_ne_type k2 hg h2)⟩
theorem var_one (w : World) (cs : List Value) (x : Vr) (h : varR w cs x) : ∀ u ∈ cs, u.oneCell' = true := by
  obtain ⟨rfl, _⟩ := h
  intro u hu; simp at hu; rcases hu with rfl | rfl | rfl | rfl | rfl <;> rfl
theorem blk_one (w : World) (cs : List Value) (x : Bk) (h : blkR w cs x) : ∀ u ∈ cs, u.oneCell' = true := by
  obtain ⟨rfl, _⟩ := h
  intro u hu; simp at hu; rcases hu with rfl | rfl <;> rfl
end Go.Proofs.YtknbomikiakpmaaDoor

/- Layer 15: a unit's slots, in a row of the call's own. -/
namespace Go.Proofs.YtknbomikiakpmaaDoor
open Go.RowKit
set_option linter.unusedSimpArgs false
set_option linter.unusedVariables false
set_option maxHeartbeats 4000000 in
theorem ref15_SlotsO (a b c : Value) (x : Un) (w : World) (h : UnAt w a b c x) (hf : fewU x = true) : Calls Tryd.prog 36 #[.agg #[.string ⟨x.name.toArray⟩, a, .int .i64 x.result, b, c]] w fun e w' => ∃ v, e = .returned v ∧ w'.ownsRow w.heap.size 3 1 v (slotsL x).length (iV (slotsL x)) ∧ (∀ z ∈ slotsL x, I64 z) ∧ Below w.heap.size w w' := by
  obtain ⟨_, f1, f2, _⟩ : x.name.length ≤ 300 ∧ x.params.length ≤ 20 ∧ x.locals.length ≤ 1100 ∧ x.code.length ≤ 300 := of_decide_eq_true hf
  obtain ⟨i, hi, hz, hsize, hby⟩ : ∃ i, Tryd.prog.info? 3 = some i ∧ i.zero = some (.int .i64 0) ∧ i.size = 1 ∧ i.bytes = 8 := ⟨(Tryd.prog.info? 3).get!, by kernel_rfl, by kernel_rfl, by kernel_rfl, by kernel_rfl⟩
  have HI := Lib.hid (show ∀ z ∈ slotsL x, I64 z by
    intro z hz
    have hp := row_ints h.ps
    have hl := row_ints h.ls
    have hr := h.r64
    unfold slotsL at hz
    rcases List.mem_append.1 hz with hz | hz
    · rcases List.mem_append.1 hz with hz | hz
      · exact hp z hz
      · by_cases h0 : x.result = 0
        · rw [if_pos h0] at hz; cases hz
        · rw [if_neg h0] at hz
          have : z = x.result := by simpa using hz
          rw [this]; exact hr
    · exact hl z hz)
  have HS1 := Lib.hid (fun W (hb : Below w.heap.size w W) => (src_ints h.ps).below hb)
  have hls := h.ls
  obtain ⟨sa, ca, rfl⟩ := row_get h.ps
  obtain ⟨sb, cb, rfl⟩ := row_get h.ls
  have cp := @cell_past
  have HD := Lib.hid (show slotsL x = x.params ++ (if x.result = 0 then [] else [x.result]) ++ x.locals from rfl)
  clear h hf
  generalize (⟨x.name.toArray⟩ : ByteArray) = nm at *
  generalize x.result = rs at *
  generalize hp : x.params = P at *
  generalize hq : x.locals = L at *
  obtain ⟨n1, hn1⟩ : ∃ n, P.length = n := ⟨_, rfl⟩
  obtain ⟨n2, hn2⟩ : ∃ n, L.length = n := ⟨_, rfl⟩
  have HN := Lib.hid (show P.length = n1 ∧ L.length = n2 from ⟨hn1, hn2⟩)
  rw [hn1] at f1 HS1 ⊢
  rw [hn2] at f2 hls ⊢
  clear hp hq hn1 hn2
  by_cases h0 : rs = 0
  · have q : (rs != 0) = false := by simp [h0]
    rw [if_pos h0, List.append_nil] at HD
    clear h0
    go_enter Tryd.func36, Tryd.ntmps36
    have HE := Lib.hid (owns_empty1 w (.cells #[.string nm, .slice sa n1 ca, .int .i64 rs, .slice sb n2 cb, c] 72) 3 1)
    go_wp2_with (first | (at_builtin; go_loud (refine wpList_append_src rfl (.tmp 5) (.tmp 7) 32 rfl (w.heap.size + 1) 3 i (.int .i64 0) 1 8 Tryd.underlying32 hi hz hsize hby rfl (by omega) _ 0 [] rfl HE.out _ n1 (iV P) rfl (HS1.out _ (by (repeat' (first | (with_reducible exact Below.refl _ _) | (with_reducible assumption) | (with_reducible refine below_drewN ?_ _) | (with_reducible refine Below.alloc ?_ ?_ _) | (with_reducible refine Below.drew ?_) | (with_reducible refine Below.setCell ?_ ?_ _) | go_size)))) (by rw [iV_len, HN.out.1]; omega) (iV_one P) (by unfold maxLen; omega) (by omega) (by simp) ?_; intro v2 w2 hO2 hG2; have hB2 := grown3 (show Below (w.heap.size + 1) (w.alloc (.cells #[.string nm, .slice sa n1 ca, .int .i64 rs, .slice sb n2 cb, c] 72)) _ from by (repeat' (first | (with_reducible exact Below.refl _ _) | (with_reducible assumption) | (with_reducible refine below_drewN ?_ _) | (with_reducible refine Below.alloc ?_ ?_ _) | (with_reducible refine Below.drew ?_) | (with_reducible refine Below.setCell ?_ ?_ _) | go_size))) (by simp) HE.out hG2; have HO2 := Lib.hid hO2; have z2 : w.heap.size < w2.heap.size := (by have := hB2.size; simp at this; omega); have bx := Boxed.new w [.string nm, .slice sa n1 ca, .int .i64 rs, .slice sb n2 cb, c] 72 hB2; have e2 := bx 2 _ rfl; have e3 := bx 3 _ rfl; clear hO2 hG2 bx)) | fail)
    obtain ⟨X, hX⟩ : ∃ X, X = P := ⟨_, rfl⟩
    have HX := Lib.hid (show w2.ownsRow (w.heap.size + 1) 3 1 v2 X.length (iV X) by rw [hX]; exact own_eq2 HO2.out (by rw [HN.out.1]; omega) rfl)
    have HXl := Lib.hid (show X.length ≤ 21 by rw [hX, HN.out.1]; omega)
    rw [← hX] at HD
    have hBX := Lib.hid hB2
    clear hX hB2
    go_loopw [3, 4] (fun o jj wr => ∃ k : Nat, k ≤ n2 ∧ jj = .int .i64 k ∧ Hid (wr.ownsRow (w.heap.size + 1) 3 1 o (X.length + k) (iV (X ++ L.take k))) ∧ Hid (Below (w.heap.size + 1) (w.alloc (.cells #[.string nm, .slice sa n1 ca, .int .i64 rs, .slice sb n2 cb, c] 72)) wr)) (fun _ jj _ => n2 - (intOf jj).toNat)
    case atStart => exact ⟨0, by omega, rfl, Lib.hid (by simpa using HX.out), hBX⟩
    case round =>
      clear z2 e2 e3
      obtain ⟨k, hk, rfl, hO, hBw⟩ := hrel
      have z0 : w.heap.size < wr.heap.size := by have := hBw.out.size; simp at this; omega
      have hB0 : Below w.heap.size w wr := Below.trans (by (repeat' (first | (with_reducible exact Below.refl _ _) | (with_reducible assumption) | (with_reducible refine below_drewN ?_ _) | (with_reducible refine Below.alloc ?_ ?_ _) | (with_reducible refine Below.drew ?_) | (with_reducible refine Below.setCell ?_ ?_ _) | go_size))) (hBw.out.mono (by omega))
      have e3 := Boxed.new w [.string nm, .slice sa n1 ca, .int .i64 rs, .slice sb n2 cb, c] 72 hBw.out 3 _ rfl
      by_cases hlt : k < n2
      · obtain ⟨z, hzq⟩ := get_some (L := L) (n := k) (by have := HN.out.2; omega)
        obtain ⟨b3, off3, rfl, hbw3, hg⟩ := ints_at hls (k := k) (lt_of_get hzq)
        obtain ⟨g0, _⟩ := hg k z hzq
        have g0 := (hB0.cell (p := ⟨b3, off3 + k, none⟩) hbw3).trans g0
        have hts := Lib.hid (take_snoc hzq)
        have hXl := HXl.out
        clear hg hzq
        have Hown := Lib.hid (fun W (hW : Below wr.heap.size wr W) => owns_below hO.out hW)
        generalize hna : X.length = na at *
        go_wp2_with (first | (at_builtin; go_loud (refine wpList_append_src rfl (.tmp 24) (.tmp 30) 32 rfl (w.heap.size + 1) 3 i (.int .i64 0) 1 8 Tryd.underlying32 hi hz hsize hby rfl (by omega) _ (na + k) _ rfl (Hown.out _ (by (repeat' (first | (with_reducible exact Below.refl _ _) | (with_reducible assumption) | (with_reducible refine below_drewN ?_ _) | (with_reducible refine Below.alloc ?_ ?_ _) | (with_reducible refine Below.drew ?_) | (with_reducible refine Below.setCell ?_ ?_ _) | go_size)))) _ 1 [.int .i64 z] rfl (src_new _ _ _) rfl (by intro u hu; simp at hu; rw [hu]; rfl) (by unfold maxLen; omega) (by omega) (by simp; omega) ?_; intro v3 w3 hO3 hG3; have hB3 := Lib.hid (grown3 (Below.trans hBw.out (show Below (w.heap.size + 1) wr (wr.alloc _) from (show Below wr.heap.size wr _ by (repeat' (first | (with_reducible exact Below.refl _ _) | (with_reducible assumption) | (with_reducible refine below_drewN ?_ _) | (with_reducible refine Below.alloc ?_ ?_ _) | (with_reducible refine Below.drew ?_) | (with_reducible refine Below.setCell ?_ ?_ _) | go_size))).mono (by omega))) (by simp; omega) (Hown.out _ (by (repeat' (first | (with_reducible exact Below.refl _ _) | (with_reducible assumption) | (with_reducible refine below_drewN ?_ _) | (with_reducible refine Below.alloc ?_ ?_ _) | (with_reducible refine Below.drew ?_) | (with_reducible refine Below.setCell ?_ ?_ _) | go_size)))) hG3); have HO3 := Lib.hid hO3; clear hO3 hG3)) | fail)
        go_roundw
        case rel => exact ⟨k + 1, by omega, by simp, Lib.hid (own_eq2 HO3.out (by omega) (by simp [hts.out, iV])), hB3⟩
        case measure => first | (simp [intOf]; done) | (simp [intOf]; omega)
      · obtain rfl : k = n2 := by omega
        have hrow := Lib.hid (show wr.ownsRow w.heap.size 3 1 _ (slotsL x).length (iV (slotsL x)) from own_low (own_eq2 hO.out (by rw [HD.out, List.length_append, HN.out.2]) (by rw [HD.out, List.take_of_length_le (by have := HN.out.2; omega)])) (Nat.le_succ _))
        go_wp2_with fail
        go_returns
        exact ⟨_, rfl, hrow.out, HI.out, hB0⟩
  · have q : (rs != 0) = true := by simpa using h0
    rw [if_neg h0] at HD
    clear h0
    go_enter Tryd.func36, Tryd.ntmps36
    have HE := Lib.hid (owns_empty1 w (.cells #[.string nm, .slice sa n1 ca, .int .i64 rs, .slice sb n2 cb, c] 72) 3 1)
    go_wp2_with (first | (at_builtin; go_loud (refine wpList_append_src rfl (.tmp 5) (.tmp 7) 32 rfl (w.heap.size + 1) 3 i (.int .i64 0) 1 8 Tryd.underlying32 hi hz hsize hby rfl (by omega) _ 0 [] rfl HE.out _ n1 (iV P) rfl (HS1.out _ (by (repeat' (first | (with_reducible exact Below.refl _ _) | (with_reducible assumption) | (with_reducible refine below_drewN ?_ _) | (with_reducible refine Below.alloc ?_ ?_ _) | (with_reducible refine Below.drew ?_) | (with_reducible refine Below.setCell ?_ ?_ _) | go_size)))) (by rw [iV_len, HN.out.1]; omega) (iV_one P) (by unfold maxLen; omega) (by omega) (by simp) ?_; intro v2 w2 hO2 hG2; have hB2 := grown3 (show Below (w.heap.size + 1) (w.alloc (.cells #[.string nm, .slice sa n1 ca, .int .i64 rs, .slice sb n2 cb, c] 72)) _ from by (repeat' (first | (with_reducible exact Below.refl _ _) | (with_reducible assumption) | (with_reducible refine below_drewN ?_ _) | (with_reducible refine Below.alloc ?_ ?_ _) | (with_reducible refine Below.drew ?_) | (with_reducible refine Below.setCell ?_ ?_ _) | go_size))) (by simp) HE.out hG2; have HO2 := Lib.hid hO2; have z2 : w.heap.size < w2.heap.size := (by have := hB2.size; simp at this; omega); have bx := Boxed.new w [.string nm, .slice sa n1 ca, .int .i64 rs, .slice sb n2 cb, c] 72 hB2; have e2 := bx 2 _ rfl; have e3 := bx 3 _ rfl; clear hO2 hG2 bx)) | (at_builtin; go_loud (refine wpList_append_src rfl (.tmp 12) (.tmp 15) 32 rfl (w.heap.size + 1) 3 i (.int .i64 0) 1 8 Tryd.underlying32 hi hz hsize hby rfl (by omega) _ n1 _ rfl (owns_below (own_eq2 HO2.out (Nat.zero_add n1) rfl) (by (repeat' (first | (with_reducible exact Below.refl _ _) | (with_reducible assumption) | (with_reducible refine below_drewN ?_ _) | (with_reducible refine Below.alloc ?_ ?_ _) | (with_reducible refine Below.drew ?_) | (with_reducible refine Below.setCell ?_ ?_ _) | go_size)))) _ 1 [.int .i64 rs] rfl (src_new _ _ _) rfl (by intro u hu; simp at hu; rw [hu]; rfl) (by unfold maxLen; omega) (by omega) (by simp; omega) ?_; intro v3 w3 hO3 hG3; have hB3 := grown3 (Below.trans hB2 (show Below (w.heap.size + 1) w2 (w2.alloc _) from (show Below w2.heap.size w2 _ by (repeat' (first | (with_reducible exact Below.refl _ _) | (with_reducible assumption) | (with_reducible refine below_drewN ?_ _) | (with_reducible refine Below.alloc ?_ ?_ _) | (with_reducible refine Below.drew ?_) | (with_reducible refine Below.setCell ?_ ?_ _) | go_size))).mono (by omega))) (by simp; omega) (owns_below (own_eq2 HO2.out (Nat.zero_add n1) rfl) (by (repeat' (first | (with_reducible exact Below.refl _ _) | (with_reducible assumption) | (with_reducible refine below_drewN ?_ _) | (with_reducible refine Below.alloc ?_ ?_ _) | (with_reducible refine Below.drew ?_) | (with_reducible refine Below.setCell ?_ ?_ _) | go_size)))) hG3; have HO3 := Lib.hid hO3; have e3 := Boxed.new w [.string nm, .slice sa n1 ca, .int .i64 rs, .slice sb n2 cb, c] 72 hB3 3 _ rfl; clear hO3 hG3)) | fail)
    obtain ⟨X, hX⟩ : ∃ X, X = P ++ [rs] := ⟨_, rfl⟩
    have HX := Lib.hid (show w3.ownsRow (w.heap.size + 1) 3 1 v3 X.length (iV X) by rw [hX]; exact own_eq2 HO3.out (by simp [HN.out.1]) (by rw [iV_app]; rfl))
    have HXl := Lib.hid (show X.length ≤ 21 by rw [hX, List.length_append, HN.out.1]; simp; omega)
    rw [← hX] at HD
    have hBX := Lib.hid hB3
    clear hX hB2
    go_loopw [3, 4] (fun o jj wr => ∃ k : Nat, k ≤ n2 ∧ jj = .int .i64 k ∧ Hid (wr.ownsRow (w.heap.size + 1) 3 1 o (X.length + k) (iV (X ++ L.take k))) ∧ Hid (Below (w.heap.size + 1) (w.alloc (.cells #[.string nm, .slice sa n1 ca, .int .i64 rs, .slice sb n2 cb, c] 72)) wr)) (fun _ jj _ => n2 - (intOf jj).toNat)
    case atStart => exact ⟨0, by omega, rfl, Lib.hid (by simpa using HX.out), hBX⟩
    case round =>
      clear z2 e2 e3
      obtain ⟨k, hk, rfl, hO, hBw⟩ := hrel
      have z0 : w.heap.size < wr.heap.size := by have := hBw.out.size; simp at this; omega
      have hB0 : Below w.heap.size w wr := Below.trans (by (repeat' (first | (with_reducible exact Below.refl _ _) | (with_reducible assumption) | (with_reducible refine below_drewN ?_ _) | (with_reducible refine Below.alloc ?_ ?_ _) | (with_reducible refine Below.drew ?_) | (with_reducible refine Below.setCell ?_ ?_ _) | go_size))) (hBw.out.mono (by omega))
      have e3 := Boxed.new w [.string nm, .slice sa n1 ca, .int .i64 rs, .slice sb n2 cb, c] 72 hBw.out 3 _ rfl
      by_cases hlt : k < n2
      · obtain ⟨z, hzq⟩ := get_some (L := L) (n := k) (by have := HN.out.2; omega)
        obtain ⟨b3, off3, rfl, hbw3, hg⟩ := ints_at hls (k := k) (lt_of_get hzq)
        obtain ⟨g0, _⟩ := hg k z hzq
        have g0 := (hB0.cell (p := ⟨b3, off3 + k, none⟩) hbw3).trans g0
        have hts := Lib.hid (take_snoc hzq)
        have hXl := HXl.out
        clear hg hzq
        have Hown := Lib.hid (fun W (hW : Below wr.heap.size wr W) => owns_below hO.out hW)
        generalize hna : X.length = na at *
        go_wp2_with (first | (at_builtin; go_loud (refine wpList_append_src rfl (.tmp 24) (.tmp 30) 32 rfl (w.heap.size + 1) 3 i (.int .i64 0) 1 8 Tryd.underlying32 hi hz hsize hby rfl (by omega) _ (na + k) _ rfl (Hown.out _ (by (repeat' (first | (with_reducible exact Below.refl _ _) | (with_reducible assumption) | (with_reducible refine below_drewN ?_ _) | (with_reducible refine Below.alloc ?_ ?_ _) | (with_reducible refine Below.drew ?_) | (with_reducible refine Below.setCell ?_ ?_ _) | go_size)))) _ 1 [.int .i64 z] rfl (src_new _ _ _) rfl (by intro u hu; simp at hu; rw [hu]; rfl) (by unfold maxLen; omega) (by omega) (by simp; omega) ?_; intro v3 w3 hO3 hG3; have hB3 := Lib.hid (grown3 (Below.trans hBw.out (show Below (w.heap.size + 1) wr (wr.alloc _) from (show Below wr.heap.size wr _ by (repeat' (first | (with_reducible exact Below.refl _ _) | (with_reducible assumption) | (with_reducible refine below_drewN ?_ _) | (with_reducible refine Below.alloc ?_ ?_ _) | (with_reducible refine Below.drew ?_) | (with_reducible refine Below.setCell ?_ ?_ _) | go_size))).mono (by omega))) (by simp; omega) (Hown.out _ (by (repeat' (first | (with_reducible exact Below.refl _ _) | (with_reducible assumption) | (with_reducible refine below_drewN ?_ _) | (with_reducible refine Below.alloc ?_ ?_ _) | (with_reducible refine Below.drew ?_) | (with_reducible refine Below.setCell ?_ ?_ _) | go_size)))) hG3); have HO3 := Lib.hid hO3; clear hO3 hG3)) | fail)
        go_roundw
        case rel => exact ⟨k + 1, by omega, by simp, Lib.hid (own_eq2 HO3.out (by omega) (by simp [hts.out, iV])), hB3⟩
        case measure => first | (simp [intOf]; done) | (simp [intOf]; omega)
      · obtain rfl : k = n2 := by omega
        have hrow := Lib.hid (show wr.ownsRow w.heap.size 3 1 _ (slotsL x).length (iV (slotsL x)) from own_low (own_eq2 hO.out (by rw [HD.out, List.length_append, HN.out.2]) (by rw [HD.out, List.take_of_length_le (by have := HN.out.2; omega)])) (Nat.le_succ _))
        go_wp2_with fail
        go_returns
        exact ⟨_, rfl, hrow.out, HI.out, hB0⟩
end Go.Proofs.YtknbomikiakpmaaDoor

/- Layer 17: the scope of a unit, by the program. -/
namespace Go.Proofs.YtknbomikiakpmaaDoor
open Go.RowKit
set_option linter.unusedSimpArgs false
set_option linter.unusedVariables false
def scopeL (p : Pr) (u : Int) : List Int := if 0 ≤ u then ((p.units[u.toNat]?).map slotsL).getD [] else []
def ScopeAt (w : World) (a b c d : Value) (p : Pr) (u : Int) : Prop := RowR 5 varR w a p.vars ∧ RowR 2 blkR w b p.blocks ∧ RowR 2 sigR w c (p.units.map fun x => (x.params, x.result)) ∧ RowR 1 intR w d (scopeL p u)
theorem ScopeAt.below {w w' : World} {a b c d : Value} {p : Pr} {u : Int} (h : ScopeAt w a b c d p u) (hb : Below w.heap.size w w') : ScopeAt w' a b c d p u :=
  ⟨h.1.below varR_stable hb, h.2.1.below blkR_stable hb, h.2.2.1.below sigR_stable hb, h.2.2.2.below intR_stable hb⟩
theorem set4 {w : World} {g : Nat} {t : TypeId} {x0 x1 x2 x3 a b c d : Value} (h : w.heap[g]? = some (.cells #[x0, x1, x2, x3] t)) :
    (w.frozen? ⟨g, 0, none⟩ = false ∧ (w.setCell ⟨g, 0, none⟩ a).frozen? ⟨g, 1, none⟩ = false ∧ ((w.setCell ⟨g, 0, none⟩ a).setCell ⟨g, 1, none⟩ b).frozen? ⟨g, 2, none⟩ = false ∧ (((w.setCell ⟨g, 0, none⟩ a).setCell ⟨g, 1, none⟩ b).setCell ⟨g, 2, none⟩ c).frozen? ⟨g, 3, none⟩ = false) ∧
    (w.cell? ⟨g, 0, none⟩ = some x0 ∧ (w.setCell ⟨g, 0, none⟩ a).cell? ⟨g, 1, none⟩ = some x1 ∧ ((w.setCell ⟨g, 0, none⟩ a).setCell ⟨g, 1, none⟩ b).cell? ⟨g, 2, none⟩ = some x2 ∧ (((w.setCell ⟨g, 0, none⟩ a).setCell ⟨g, 1, none⟩ b).setCell ⟨g, 2, none⟩ c).cell? ⟨g, 3, none⟩ = some x3) ∧
    ((((w.setCell ⟨g, 0, none⟩ a).setCell ⟨g, 1, none⟩ b).setCell ⟨g, 2, none⟩ c).setCell ⟨g, 3, none⟩ d).heap[g]? = some (.cells #[a, b, c, d] t) := by
  have k1 := obj_self (i := 0) (x := a) h
  have k2 := obj_self (i := 1) (x := b) k1
  have k3 := obj_self (i := 2) (x := c) k2
  have k4 := obj_self (i := 3) (x := d) k3
  exact ⟨⟨obj_frozen h 0, obj_frozen k1 1, obj_frozen k2 2, obj_frozen k3 3⟩, ⟨obj_cell h rfl, obj_cell k1 rfl, obj_cell k2 rfl, obj_cell k3 rfl⟩, k4⟩
/-- four cells of a block that no row lies in -/
theorem ScopeO.set {w : World} {B : Nat} {V : List Vr} {K : List Bk} {us : List Un} {L : List Int} {a b c d : Value} {g i : Nat} {C : Array Value} {t : TypeId} {x : Value} (hg : w.heap[g]? = some (.cells C t)) (h1 : 84 ≠ t) (h2 : 86 ≠ t) (h3 : 74 ≠ t) (h4 : 3 ≠ t)
    (h : OwnG 5 84 varR B w a V ∧ OwnG 2 86 blkR B w b K ∧ SigsO B w c us ∧ w.ownsRow B 3 1 d L.length (iV L)) :
    OwnG 5 84 varR B (w.setCell ⟨g, i, none⟩ x) a V ∧ OwnG 2 86 blkR B (w.setCell ⟨g, i, none⟩ x) b K ∧ SigsO B (w.setCell ⟨g, i, none⟩ x) c us ∧ (w.setCell ⟨g, i, none⟩ x).ownsRow B 3 1 d L.length (iV L) :=
  ⟨h.1.set hg h1, h.2.1.set hg h2, h.2.2.1.set hg h4 h3, owns_set h.2.2.2 (own_ne_type h.2.2.2 hg h4)⟩
theorem scope_fin {w : World} {B : Nat} {V : List Vr} {K : List Bk} {us : List Un} {L : List Int} {a b c d : Value} {g : Nat} {x0 x1 x2 x3 y0 y1 y2 y3 : Value} (hg : w.heap[g]? = some (.cells #[x0, x1, x2, x3] 43))
    (h : OwnG 5 84 varR B w a V ∧ OwnG 2 86 blkR B w b K ∧ SigsO B w c us ∧ w.ownsRow B 3 1 d L.length (iV L)) (W : World) (hW : W = (((w.setCell ⟨g, 0, none⟩ y0).setCell ⟨g, 1, none⟩ y1).setCell ⟨g, 2, none⟩ y2).setCell ⟨g, 3, none⟩ y3) :
    OwnG 5 84 varR B W a V ∧ OwnG 2 86 blkR B W b K ∧ SigsO B W c us ∧ W.ownsRow B 3 1 d L.length (iV L) := by
  subst hW
  have k1 := obj_self (i := 0) (x := y0) hg
  have k2 := obj_self (i := 1) (x := y1) k1
  have k3 := obj_self (i := 2) (x := y2) k2
  exact ScopeO.set k3 (by decide) (by decide) (by decide) (by decide) (ScopeO.set k2 (by decide) (by decide) (by decide) (by decide) (ScopeO.set k1 (by decide) (by decide) (by decide) (by decide) (ScopeO.set hg (by decide) (by decide) (by decide) (by decide) h)))
theorem scope_at {w : World} {B : Nat} {p : Pr} {u : Int} {L : List Int} {a b c d : Value} (h : OwnG 5 84 varR B w a p.vars ∧ OwnG 2 86 blkR B w b p.blocks ∧ SigsO B w c p.units ∧ w.ownsRow B 3 1 d L.length (iV L)) (hL : scopeL p u = L) (hI : ∀ x ∈ p.units, ∀ z ∈ x.params, I64 z) (hz : ∀ z ∈ L, I64 z) : ScopeAt w a b c d p u := by
  obtain ⟨h1, h2, ⟨U, h3, h4⟩, h5⟩ := h
  subst hL
  exact ⟨h1.row, h2.row, sigs_row rfl h3 h4 hI, row_of_owns h5 hz⟩
end Go.Proofs.YtknbomikiakpmaaDoor

/- Layer 17: the scope of a unit, by the answer. -/
namespace Go.Proofs.YtknbomikiakpmaaDoor
open Go.RowKit
set_option linter.unusedSimpArgs false
set_option linter.unusedVariables false
def partL (p : Pr) (u : Int) (k : Nat) : List Int := if u < k then scopeL p u else []
theorem own_ne_row {w : World} {B C : Nat} {e f : TypeId} {q r n m : Nat} {v v' : Value} {xs ys : List Value} (h : w.ownsRow B e q v n xs) (k : w.ownsRow C f r v' m ys) (hne : e ≠ f) {g : Nat} (hv : v.ownBlock = some g) (hv' : v'.ownBlock = some g) : False := owns_type h k hne hv hv'
theorem sigs_rowR {w : World} {C : Nat} {U : List Value} {us : List Un} {v : Value} {n : Nat} (hn : n = us.length) (hl : U.length = us.length) (hR : ∀ (i : Nat) (u : Value) (x : Un), U[i]? = some u → us[i]? = some x → RowR 1 intR w u x.params) (hO : w.ownsRow C 74 2 v n (flatC (sigC U us))) : RowR 2 sigR w v (us.map fun x => (x.params, x.result)) := by
  have hcl : (sigC U us).length = us.length := by simp [sigC, hl]
  refine row_of_chunks hO (by rw [hcl, hn]) (by simp [hcl]) (fun i c y hc hy => ?_)
  rw [List.getElem?_map] at hy
  obtain ⟨x, hx, rfl⟩ := Option.map_eq_some_iff.1 hy
  obtain ⟨u, hu⟩ := get_some (L := U) (n := i) (by rw [hl]; exact lt_of_get hx)
  have hcc : c = ⟨[u, .int .i64 x.result], rfl⟩ := by
    unfold sigC at hc
    rw [List.getElem?_zipWith, hu, hx] at hc
    injection hc with hc
    exact hc.symm
  subst hcc
  exact ⟨u, rfl, hR i u x hu hx⟩
set_option maxHeartbeats 8000000 in
theorem ref17_Scope (pa pb pc pd : Value) (p : Pr) (u : Int) (w : World) (hp : PrAt w pa pb pc pd p) (hf : fewP p = true) :
    Calls Tryd.prog 9 #[.agg #[pa, pb, pc, pd], .int .i64 u] w fun e w' => ∃ a b c d, e = .returned (.agg #[a, b, c, d]) ∧ ScopeAt w' a b c d p u ∧ Below w.heap.size w w' := by
  obtain ⟨i, zz, hi, hz, hsize, hby, hzs⟩ : ∃ i z, Tryd.prog.info? 74 = some i ∧ i.zero = some z ∧ i.size = 2 ∧ i.bytes = 32 ∧ z.cells.size = 2 := ⟨(Tryd.prog.info? 74).get!, .agg #[.slice none 0 0, .int .i64 0], by kernel_rfl, by kernel_rfl, by kernel_rfl, by kernel_rfl, by kernel_rfl⟩
  have hf' := of_decide_eq_true hf
  have hfu := hf'.2.2.2
  obtain ⟨f1, f2, f3, f4⟩ := hf'.1
  clear hf hf'
  obtain ⟨sa, ca, rfl⟩ := row_get hp.cs
  obtain ⟨sb, cb, rfl⟩ := row_get hp.vs
  obtain ⟨sc, cc, rfl⟩ := row_get hp.bs
  obtain ⟨sd, cd, rfl⟩ := row_get hp.us
  obtain ⟨_, hvs, hbs, hus⟩ := hp
  obtain ⟨us, hus'⟩ : ∃ us, p.units = us := ⟨_, rfl⟩
  have HUS := Lib.hid hus'
  rw [hus'] at hus f4 hfu
  obtain ⟨n0, e0⟩ : ∃ n, p.consts.length = n := ⟨_, rfl⟩
  obtain ⟨n1, e1⟩ : ∃ n, p.vars.length = n := ⟨_, rfl⟩
  obtain ⟨n2, e2⟩ : ∃ n, p.blocks.length = n := ⟨_, rfl⟩
  obtain ⟨n3, e3⟩ : ∃ n, us.length = n := ⟨_, rfl⟩
  have HN := Lib.hid e3
  rw [e0, e1, e2, hus', e3]
  rw [e1] at hvs
  rw [e2] at hbs
  rw [e3] at hus f4
  clear e0 e1 e2 e3 hus' f1 f2 f3
  have HV := Lib.hid hvs
  have HK := Lib.hid hbs
  clear hvs hbs
  obtain ⟨W0, hW0⟩ : ∃ W0, W0 = ((w.alloc (.cells #[.slice sa n0 ca, .slice sb n1 cb, .slice sc n2 cc, .slice sd n3 cd] 27)).alloc (.cells #[.slice none 0 0, .slice none 0 0, .slice none 0 0, .slice none 0 0] 43)).alloc (.cells #[.slice sb n1 cb, .slice sc n2 cc, .slice none 0 0, .slice none 0 0] 43) := ⟨_, rfl⟩
  have HB0 := Lib.hid (show Below w.heap.size w W0 by rw [hW0]; exact by (repeat' (first | (with_reducible exact Below.refl _ _) | (with_reducible assumption) | (with_reducible refine below_drewN ?_ _) | (with_reducible refine Below.alloc ?_ ?_ _) | (with_reducible refine Below.drew ?_) | (with_reducible refine Below.setCell ?_ ?_ _) | go_size)))
  have HP0 := Lib.hid (show W0.heap[w.heap.size]? = some (.cells #[.slice sa n0 ca, .slice sb n1 cb, .slice sc n2 cc, .slice sd n3 cd] 27) by rw [hW0]; exact (get_past (by simp; omega)).trans ((get_past (by simp)).trans (get_last rfl)))
  have HR0 := Lib.hid (show W0.heap[w.heap.size + 1]? = some (.cells #[.slice none 0 0, .slice none 0 0, .slice none 0 0, .slice none 0 0] 43) by rw [hW0]; exact (get_past (by simp)).trans (get_last (by simp)))
  have HS0 := Lib.hid (show W0.heap[w.heap.size + 1 + 1]? = some (.cells #[.slice sb n1 cb, .slice sc n2 cc, .slice none 0 0, .slice none 0 0] 43) by rw [hW0]; exact get_last (by simp))
  have HW0 := Lib.hid hW0
  clear hW0
  go_enter Tryd.func9, Tryd.ntmps9
  go_upto_region 2 with fail
  rw [← HW0.out]
  go_wp2_with fail
  go_loopw [6] (fun jj wr => ∃ (k : Nat) (U : List Value) (ag ad : Option Addr) (cs m cdd : Nat), k ≤ n3 ∧ jj = .int .i64 k ∧ Hid (wr.heap[w.heap.size + 1 + 1]? = some (.cells #[.slice sb n1 cb, .slice sc n2 cc, .slice ag k cs, .slice ad m cdd] 43)) ∧ Hid (wr.heap[w.heap.size]? = some (.cells #[.slice sa n0 ca, .slice sb n1 cb, .slice sc n2 cc, .slice sd n3 cd] 27)) ∧ Hid (wr.heap[w.heap.size + 1]? = some (.cells #[.slice none 0 0, .slice none 0 0, .slice none 0 0, .slice none 0 0] 43)) ∧
    Hid (U.length = k) ∧ Hid (∀ (i : Nat) (u : Value) (x : Un), U[i]? = some u → us[i]? = some x → RowR 1 intR w u x.params) ∧ Hid (wr.ownsRow w.heap.size 74 2 (.slice ag k cs) k (flatC (sigC U (us.take k)))) ∧ Hid (wr.ownsRow w.heap.size 3 1 (.slice ad m cdd) m (iV (partL p u k))) ∧ Hid (m = (partL p u k).length ∧ ∀ z ∈ partL p u k, I64 z) ∧ Hid (Below w.heap.size w wr)) (fun jj _ => n3 - (intOf jj).toNat)
  case atStart =>
    have hp0 : partL p u 0 = [] := by
      unfold partL
      by_cases h : u < ((0 : Nat) : Int)
      · rw [if_pos h]; unfold scopeL; rw [if_neg (by omega)]
      · rw [if_neg h]
    exact ⟨0, [], none, none, 0, 0, 0, by omega, rfl, HS0, HP0, HR0, Lib.hid rfl, Lib.hid (by intro i u x h; simp at h), Lib.hid (World.ownsRow_nil _ _ _ _), Lib.hid (by rw [hp0]; exact World.ownsRow_nil _ _ _ _), Lib.hid (by rw [hp0]; exact ⟨rfl, by intro z h; cases h⟩), HB0⟩
  case round =>
    clear HS0 HP0 HR0 HB0
    obtain ⟨k, U, ag, ad, cs, m, cdd, hk, rfl, HS, HP, HR, HU, HUR, HO, HD, HM, HB⟩ := hrel
    have hj5 := HS.out
    have hjp := HP.out
    have hj4 := HR.out
    have c3 := obj_cell hjp (i := 3) rfl
    by_cases hlt : k < n3
    · have qk : ((k : Int) < (n3 : Int)) = True := eq_true (by omega)
      obtain ⟨x, hx⟩ := get_some (L := us) (n := k) (by rw [HN.out]; exact hlt)
      obtain ⟨b, off, rfl, hbw, hc⟩ := unit_at hus (k := k) (by rw [HN.out]; exact hlt)
      obtain ⟨u1, u3, u4, y0, y1, y2, y3, y4, hUx⟩ := hc k x hx
      obtain ⟨a1, b1, rfl⟩ := row_get hUx.ps
      obtain ⟨a3, b3, rfl⟩ := row_get hUx.ls
      obtain ⟨a4, b4, rfl⟩ := row_get hUx.cs
      have e1 := (HB.out.cell (p := ⟨b, off + k * 5 + 1, none⟩) hbw).trans y1
      have e2 := (HB.out.cell (p := ⟨b, off + k * 5 + 2, none⟩) hbw).trans y2
      have zb : b < wr.heap.size := World.block_lt_of_cell? _ _ e1
      have HT := Lib.hid (take_snoc hx)
      have HUl := Lib.hid (show U.length = (us.take k).length by rw [HU.out, List.length_take, HN.out]; omega)
      have HUx := Lib.hid hUx
      have HXx := Lib.hid hx
      clear hc hUx hx
      go_upto_region 5 with fail
      refine wp_region_till (S := (fun (L : Array Bool) (w' : World) => L.getD 18 true = false → ((fun (w' : World) => w'.heap[w.heap.size + 1 + 1]? = some (.cells #[.slice sb n1 cb, .slice sc n2 cc, .slice ag k cs, .slice ad m cdd] 43) ∧ w'.heap[w.heap.size]? = some (.cells #[.slice sa n0 ca, .slice sb n1 cb, .slice sc n2 cc, .slice (some ⟨b, off, none⟩) n3 cd] 27) ∧ w'.cell? ⟨b, off + k * 5 + 1, none⟩ = some (.slice a1 x.params.length b1) ∧ w'.cell? ⟨b, off + k * 5 + 2, none⟩ = some (.int .i64 x.result)) w'))) (by kernel_rfl) ?_ (fun hHeld => ?_)
      · (try dsimp only); exact (fun _ => ⟨hj5, hjp, e1, e2⟩)
      refine till_take 18 (fun (w' : World) => w'.heap[w.heap.size + 1 + 1]? = some (.cells #[.slice sb n1 cb, .slice sc n2 cc, .slice ag k cs, .slice ad m cdd] 43) ∧ w'.heap[w.heap.size]? = some (.cells #[.slice sa n0 ca, .slice sb n1 cb, .slice sc n2 cc, .slice (some ⟨b, off, none⟩) n3 cd] 27) ∧ w'.cell? ⟨b, off + k * 5 + 1, none⟩ = some (.slice a1 x.params.length b1) ∧ w'.cell? ⟨b, off + k * 5 + 2, none⟩ = some (.int .i64 x.result)) (i := 0) (oi := { dst := some 19, op := Op.fieldAddr 43 (Operand.tmp 5) 2, type := 0, pos := _, after := #[], guard := none }) (u := ?_) rfl (by kernel_rfl) (by kernel_rfl) (by kernel_rfl) (by kernel_rfl) (by kernel_rfl) (by decide) (fun L v hL h => h hL) (fun L v => by simp only [getD_set_ne true (show 0 ≠ 18 by decide)]) (fun _ _ _ h => h) (Or.inl ⟨by rfl, ?_⟩) hHeld ?_
      rotate_left
      · intro wt hSw; (try dsimp only at hSw); obtain ⟨h1, h2, h3, h4⟩ := hSw; have q2 := obj_cell h1 (i := 2) rfl; have p3 := obj_cell h2 (i := 3) rfl; clear h1 h2; first | (go_simp; done) | (go_simp; with_reducible rfl) | (trace_state; fail)
      clear hHeld; intro hHeld
      try simp only [Act.put, List.setIfInBounds_toArray, List.set_cons_zero, List.set_cons_succ]
      refine till_take 18 (fun (w' : World) => w'.heap[w.heap.size + 1 + 1]? = some (.cells #[.slice sb n1 cb, .slice sc n2 cc, .slice ag k cs, .slice ad m cdd] 43) ∧ w'.heap[w.heap.size]? = some (.cells #[.slice sa n0 ca, .slice sb n1 cb, .slice sc n2 cc, .slice (some ⟨b, off, none⟩) n3 cd] 27) ∧ w'.cell? ⟨b, off + k * 5 + 1, none⟩ = some (.slice a1 x.params.length b1) ∧ w'.cell? ⟨b, off + k * 5 + 2, none⟩ = some (.int .i64 x.result)) (i := 1) (oi := { dst := some 20, op := Op.load 41 (Operand.tmp 19), type := 41, pos := _, after := #[{ on := 0, ground := Ground.data }], guard := none }) (u := ?_) rfl (by kernel_rfl) (by kernel_rfl) (by kernel_rfl) (by kernel_rfl) (by kernel_rfl) (by decide) (fun L v hL h => h hL) (fun L v => by simp only [getD_set_ne true (show 1 ≠ 18 by decide)]) (fun _ _ _ h => h) (Or.inl ⟨by rfl, ?_⟩) hHeld ?_
      rotate_left
      · intro wt hSw; (try dsimp only at hSw); obtain ⟨h1, h2, h3, h4⟩ := hSw; have q2 := obj_cell h1 (i := 2) rfl; have p3 := obj_cell h2 (i := 3) rfl; clear h1 h2; first | (go_simp; done) | (go_simp; with_reducible rfl) | (trace_state; fail)
      clear hHeld; intro hHeld
      try simp only [Act.put, List.setIfInBounds_toArray, List.set_cons_zero, List.set_cons_succ]
      refine till_take 18 (fun (w' : World) => w'.heap[w.heap.size + 1 + 1]? = some (.cells #[.slice sb n1 cb, .slice sc n2 cc, .slice ag k cs, .slice ad m cdd] 43) ∧ w'.heap[w.heap.size]? = some (.cells #[.slice sa n0 ca, .slice sb n1 cb, .slice sc n2 cc, .slice (some ⟨b, off, none⟩) n3 cd] 27) ∧ w'.cell? ⟨b, off + k * 5 + 1, none⟩ = some (.slice a1 x.params.length b1) ∧ w'.cell? ⟨b, off + k * 5 + 2, none⟩ = some (.int .i64 x.result)) (i := 2) (oi := { dst := some 21, op := Op.fieldAddr 27 (Operand.tmp 2) 3, type := 0, pos := _, after := #[], guard := none }) (u := ?_) rfl (by kernel_rfl) (by kernel_rfl) (by kernel_rfl) (by kernel_rfl) (by kernel_rfl) (by decide) (fun L v hL h => h hL) (fun L v => by simp only [getD_set_ne true (show 2 ≠ 18 by decide)]) (fun _ _ _ h => h) (Or.inl ⟨by rfl, ?_⟩) hHeld ?_
      rotate_left
      · intro wt hSw; (try dsimp only at hSw); obtain ⟨h1, h2, h3, h4⟩ := hSw; have q2 := obj_cell h1 (i := 2) rfl; have p3 := obj_cell h2 (i := 3) rfl; clear h1 h2; first | (go_simp; done) | (go_simp; with_reducible rfl) | (trace_state; fail)
      clear hHeld; intro hHeld
      try simp only [Act.put, List.setIfInBounds_toArray, List.set_cons_zero, List.set_cons_succ]
      refine till_take 18 (fun (w' : World) => w'.heap[w.heap.size + 1 + 1]? = some (.cells #[.slice sb n1 cb, .slice sc n2 cc, .slice ag k cs, .slice ad m cdd] 43) ∧ w'.heap[w.heap.size]? = some (.cells #[.slice sa n0 ca, .slice sb n1 cb, .slice sc n2 cc, .slice (some ⟨b, off, none⟩) n3 cd] 27) ∧ w'.cell? ⟨b, off + k * 5 + 1, none⟩ = some (.slice a1 x.params.length b1) ∧ w'.cell? ⟨b, off + k * 5 + 2, none⟩ = some (.int .i64 x.result)) (i := 3) (oi := { dst := some 22, op := Op.load 25 (Operand.tmp 21), type := 25, pos := _, after := #[{ on := 2, ground := Ground.data }], guard := none }) (u := ?_) rfl (by kernel_rfl) (by kernel_rfl) (by kernel_rfl) (by kernel_rfl) (by kernel_rfl) (by decide) (fun L v hL h => h hL) (fun L v => by simp only [getD_set_ne true (show 3 ≠ 18 by decide)]) (fun _ _ _ h => h) (Or.inl ⟨by rfl, ?_⟩) hHeld ?_
      rotate_left
      · intro wt hSw; (try dsimp only at hSw); obtain ⟨h1, h2, h3, h4⟩ := hSw; have q2 := obj_cell h1 (i := 2) rfl; have p3 := obj_cell h2 (i := 3) rfl; clear h1 h2; first | (go_simp; done) | (go_simp; with_reducible rfl) | (trace_state; fail)
      clear hHeld; intro hHeld
      try simp only [Act.put, List.setIfInBounds_toArray, List.set_cons_zero, List.set_cons_succ]
      refine till_take 18 (fun (w' : World) => w'.heap[w.heap.size + 1 + 1]? = some (.cells #[.slice sb n1 cb, .slice sc n2 cc, .slice ag k cs, .slice ad m cdd] 43) ∧ w'.heap[w.heap.size]? = some (.cells #[.slice sa n0 ca, .slice sb n1 cb, .slice sc n2 cc, .slice (some ⟨b, off, none⟩) n3 cd] 27) ∧ w'.cell? ⟨b, off + k * 5 + 1, none⟩ = some (.slice a1 x.params.length b1) ∧ w'.cell? ⟨b, off + k * 5 + 2, none⟩ = some (.int .i64 x.result)) (i := 4) (oi := { dst := some 23, op := Op.move (Operand.tmp 6), type := 3, pos := _, after := #[], guard := none }) (u := ?_) rfl (by kernel_rfl) (by kernel_rfl) (by kernel_rfl) (by kernel_rfl) (by kernel_rfl) (by decide) (fun L v hL h => h hL) (fun L v => by simp only [getD_set_ne true (show 4 ≠ 18 by decide)]) (fun _ _ _ h => h) (Or.inl ⟨by rfl, ?_⟩) hHeld ?_
      rotate_left
      · intro wt hSw; (try dsimp only at hSw); obtain ⟨h1, h2, h3, h4⟩ := hSw; have q2 := obj_cell h1 (i := 2) rfl; have p3 := obj_cell h2 (i := 3) rfl; clear h1 h2; first | (go_simp; done) | (go_simp; with_reducible rfl) | (trace_state; fail)
      clear hHeld; intro hHeld
      try simp only [Act.put, List.setIfInBounds_toArray, List.set_cons_zero, List.set_cons_succ]
      refine till_take 18 (fun (w' : World) => w'.heap[w.heap.size + 1 + 1]? = some (.cells #[.slice sb n1 cb, .slice sc n2 cc, .slice ag k cs, .slice ad m cdd] 43) ∧ w'.heap[w.heap.size]? = some (.cells #[.slice sa n0 ca, .slice sb n1 cb, .slice sc n2 cc, .slice (some ⟨b, off, none⟩) n3 cd] 27) ∧ w'.cell? ⟨b, off + k * 5 + 1, none⟩ = some (.slice a1 x.params.length b1) ∧ w'.cell? ⟨b, off + k * 5 + 2, none⟩ = some (.int .i64 x.result)) (i := 5) (oi := { dst := some 24, op := Op.indexAddr 25 (Operand.tmp 22) (Operand.tmp 23), type := 0, pos := _, after := #[{ on := 3, ground := Ground.data }, { on := 4, ground := Ground.data }], guard := none }) (u := ?_) rfl (by kernel_rfl) (by kernel_rfl) (by kernel_rfl) (by kernel_rfl) (by kernel_rfl) (by decide) (fun L v hL h => h hL) (fun L v => by simp only [getD_set_ne true (show 5 ≠ 18 by decide)]) (fun _ _ _ h => h) (Or.inl ⟨by rfl, ?_⟩) hHeld ?_
      rotate_left
      · intro wt hSw; (try dsimp only at hSw); obtain ⟨h1, h2, h3, h4⟩ := hSw; have q2 := obj_cell h1 (i := 2) rfl; have p3 := obj_cell h2 (i := 3) rfl; clear h1 h2; first | (go_simp; done) | (go_simp; with_reducible rfl) | (trace_state; fail)
      clear hHeld; intro hHeld
      try simp only [Act.put, List.setIfInBounds_toArray, List.set_cons_zero, List.set_cons_succ]
      refine till_take 18 (fun (w' : World) => w'.heap[w.heap.size + 1 + 1]? = some (.cells #[.slice sb n1 cb, .slice sc n2 cc, .slice ag k cs, .slice ad m cdd] 43) ∧ w'.heap[w.heap.size]? = some (.cells #[.slice sa n0 ca, .slice sb n1 cb, .slice sc n2 cc, .slice (some ⟨b, off, none⟩) n3 cd] 27) ∧ w'.cell? ⟨b, off + k * 5 + 1, none⟩ = some (.slice a1 x.params.length b1) ∧ w'.cell? ⟨b, off + k * 5 + 2, none⟩ = some (.int .i64 x.result)) (i := 6) (oi := { dst := some 25, op := Op.fieldAddr 72 (Operand.tmp 24) 1, type := 0, pos := _, after := #[{ on := 5, ground := Ground.data }], guard := none }) (u := ?_) rfl (by kernel_rfl) (by kernel_rfl) (by kernel_rfl) (by kernel_rfl) (by kernel_rfl) (by decide) (fun L v hL h => h hL) (fun L v => by simp only [getD_set_ne true (show 6 ≠ 18 by decide)]) (fun _ _ _ h => h) (Or.inl ⟨by rfl, ?_⟩) hHeld ?_
      rotate_left
      · intro wt hSw; (try dsimp only at hSw); obtain ⟨h1, h2, h3, h4⟩ := hSw; have q2 := obj_cell h1 (i := 2) rfl; have p3 := obj_cell h2 (i := 3) rfl; clear h1 h2; first | (go_simp; done) | (go_simp; with_reducible rfl) | (trace_state; fail)
      clear hHeld; intro hHeld
      try simp only [Act.put, List.setIfInBounds_toArray, List.set_cons_zero, List.set_cons_succ]
      refine till_take 18 (fun (w' : World) => w'.heap[w.heap.size + 1 + 1]? = some (.cells #[.slice sb n1 cb, .slice sc n2 cc, .slice ag k cs, .slice ad m cdd] 43) ∧ w'.heap[w.heap.size]? = some (.cells #[.slice sa n0 ca, .slice sb n1 cb, .slice sc n2 cc, .slice (some ⟨b, off, none⟩) n3 cd] 27) ∧ w'.cell? ⟨b, off + k * 5 + 1, none⟩ = some (.slice a1 x.params.length b1) ∧ w'.cell? ⟨b, off + k * 5 + 2, none⟩ = some (.int .i64 x.result)) (i := 7) (oi := { dst := some 26, op := Op.load 32 (Operand.tmp 25), type := 32, pos := _, after := #[{ on := 6, ground := Ground.data }], guard := none }) (u := ?_) rfl (by kernel_rfl) (by kernel_rfl) (by kernel_rfl) (by kernel_rfl) (by kernel_rfl) (by decide) (fun L v hL h => h hL) (fun L v => by simp only [getD_set_ne true (show 7 ≠ 18 by decide)]) (fun _ _ _ h => h) (Or.inl ⟨by rfl, ?_⟩) hHeld ?_
      rotate_left
      · intro wt hSw; (try dsimp only at hSw); obtain ⟨h1, h2, h3, h4⟩ := hSw; have q2 := obj_cell h1 (i := 2) rfl; have p3 := obj_cell h2 (i := 3) rfl; clear h1 h2; first | (go_simp; done) | (go_simp; with_reducible rfl) | (trace_state; fail)
      clear hHeld; intro hHeld
      try simp only [Act.put, List.setIfInBounds_toArray, List.set_cons_zero, List.set_cons_succ]
      refine till_take 18 (fun (w' : World) => w'.heap[w.heap.size + 1 + 1]? = some (.cells #[.slice sb n1 cb, .slice sc n2 cc, .slice ag k cs, .slice ad m cdd] 43) ∧ w'.heap[w.heap.size]? = some (.cells #[.slice sa n0 ca, .slice sb n1 cb, .slice sc n2 cc, .slice (some ⟨b, off, none⟩) n3 cd] 27) ∧ w'.cell? ⟨b, off + k * 5 + 1, none⟩ = some (.slice a1 x.params.length b1) ∧ w'.cell? ⟨b, off + k * 5 + 2, none⟩ = some (.int .i64 x.result)) (i := 8) (oi := { dst := some 27, op := Op.fieldAddr 27 (Operand.tmp 2) 3, type := 0, pos := _, after := #[], guard := none }) (u := ?_) rfl (by kernel_rfl) (by kernel_rfl) (by kernel_rfl) (by kernel_rfl) (by kernel_rfl) (by decide) (fun L v hL h => h hL) (fun L v => by simp only [getD_set_ne true (show 8 ≠ 18 by decide)]) (fun _ _ _ h => h) (Or.inl ⟨by rfl, ?_⟩) hHeld ?_
      rotate_left
      · intro wt hSw; (try dsimp only at hSw); obtain ⟨h1, h2, h3, h4⟩ := hSw; have q2 := obj_cell h1 (i := 2) rfl; have p3 := obj_cell h2 (i := 3) rfl; clear h1 h2; first | (go_simp; done) | (go_simp; with_reducible rfl) | (trace_state; fail)
      clear hHeld; intro hHeld
      try simp only [Act.put, List.setIfInBounds_toArray, List.set_cons_zero, List.set_cons_succ]
      refine till_take 18 (fun (w' : World) => w'.heap[w.heap.size + 1 + 1]? = some (.cells #[.slice sb n1 cb, .slice sc n2 cc, .slice ag k cs, .slice ad m cdd] 43) ∧ w'.heap[w.heap.size]? = some (.cells #[.slice sa n0 ca, .slice sb n1 cb, .slice sc n2 cc, .slice (some ⟨b, off, none⟩) n3 cd] 27) ∧ w'.cell? ⟨b, off + k * 5 + 1, none⟩ = some (.slice a1 x.params.length b1) ∧ w'.cell? ⟨b, off + k * 5 + 2, none⟩ = some (.int .i64 x.result)) (i := 9) (oi := { dst := some 28, op := Op.load 25 (Operand.tmp 27), type := 25, pos := _, after := #[{ on := 8, ground := Ground.data }], guard := none }) (u := ?_) rfl (by kernel_rfl) (by kernel_rfl) (by kernel_rfl) (by kernel_rfl) (by kernel_rfl) (by decide) (fun L v hL h => h hL) (fun L v => by simp only [getD_set_ne true (show 9 ≠ 18 by decide)]) (fun _ _ _ h => h) (Or.inl ⟨by rfl, ?_⟩) hHeld ?_
      rotate_left
      · intro wt hSw; (try dsimp only at hSw); obtain ⟨h1, h2, h3, h4⟩ := hSw; have q2 := obj_cell h1 (i := 2) rfl; have p3 := obj_cell h2 (i := 3) rfl; clear h1 h2; first | (go_simp; done) | (go_simp; with_reducible rfl) | (trace_state; fail)
      clear hHeld; intro hHeld
      try simp only [Act.put, List.setIfInBounds_toArray, List.set_cons_zero, List.set_cons_succ]
      refine till_take 18 (fun (w' : World) => w'.heap[w.heap.size + 1 + 1]? = some (.cells #[.slice sb n1 cb, .slice sc n2 cc, .slice ag k cs, .slice ad m cdd] 43) ∧ w'.heap[w.heap.size]? = some (.cells #[.slice sa n0 ca, .slice sb n1 cb, .slice sc n2 cc, .slice (some ⟨b, off, none⟩) n3 cd] 27) ∧ w'.cell? ⟨b, off + k * 5 + 1, none⟩ = some (.slice a1 x.params.length b1) ∧ w'.cell? ⟨b, off + k * 5 + 2, none⟩ = some (.int .i64 x.result)) (i := 10) (oi := { dst := some 29, op := Op.move (Operand.tmp 6), type := 3, pos := _, after := #[], guard := none }) (u := ?_) rfl (by kernel_rfl) (by kernel_rfl) (by kernel_rfl) (by kernel_rfl) (by kernel_rfl) (by decide) (fun L v hL h => h hL) (fun L v => by simp only [getD_set_ne true (show 10 ≠ 18 by decide)]) (fun _ _ _ h => h) (Or.inl ⟨by rfl, ?_⟩) hHeld ?_
      rotate_left
      · intro wt hSw; (try dsimp only at hSw); obtain ⟨h1, h2, h3, h4⟩ := hSw; have q2 := obj_cell h1 (i := 2) rfl; have p3 := obj_cell h2 (i := 3) rfl; clear h1 h2; first | (go_simp; done) | (go_simp; with_reducible rfl) | (trace_state; fail)
      clear hHeld; intro hHeld
      try simp only [Act.put, List.setIfInBounds_toArray, List.set_cons_zero, List.set_cons_succ]
      refine till_take 18 (fun (w' : World) => w'.heap[w.heap.size + 1 + 1]? = some (.cells #[.slice sb n1 cb, .slice sc n2 cc, .slice ag k cs, .slice ad m cdd] 43) ∧ w'.heap[w.heap.size]? = some (.cells #[.slice sa n0 ca, .slice sb n1 cb, .slice sc n2 cc, .slice (some ⟨b, off, none⟩) n3 cd] 27) ∧ w'.cell? ⟨b, off + k * 5 + 1, none⟩ = some (.slice a1 x.params.length b1) ∧ w'.cell? ⟨b, off + k * 5 + 2, none⟩ = some (.int .i64 x.result)) (i := 11) (oi := { dst := some 30, op := Op.indexAddr 25 (Operand.tmp 28) (Operand.tmp 29), type := 0, pos := _, after := #[{ on := 9, ground := Ground.data }, { on := 10, ground := Ground.data }], guard := none }) (u := ?_) rfl (by kernel_rfl) (by kernel_rfl) (by kernel_rfl) (by kernel_rfl) (by kernel_rfl) (by decide) (fun L v hL h => h hL) (fun L v => by simp only [getD_set_ne true (show 11 ≠ 18 by decide)]) (fun _ _ _ h => h) (Or.inl ⟨by rfl, ?_⟩) hHeld ?_
      rotate_left
      · intro wt hSw; (try dsimp only at hSw); obtain ⟨h1, h2, h3, h4⟩ := hSw; have q2 := obj_cell h1 (i := 2) rfl; have p3 := obj_cell h2 (i := 3) rfl; clear h1 h2; first | (go_simp; done) | (go_simp; with_reducible rfl) | (trace_state; fail)
      clear hHeld; intro hHeld
      try simp only [Act.put, List.setIfInBounds_toArray, List.set_cons_zero, List.set_cons_succ]
      refine till_take 18 (fun (w' : World) => w'.heap[w.heap.size + 1 + 1]? = some (.cells #[.slice sb n1 cb, .slice sc n2 cc, .slice ag k cs, .slice ad m cdd] 43) ∧ w'.heap[w.heap.size]? = some (.cells #[.slice sa n0 ca, .slice sb n1 cb, .slice sc n2 cc, .slice (some ⟨b, off, none⟩) n3 cd] 27) ∧ w'.cell? ⟨b, off + k * 5 + 1, none⟩ = some (.slice a1 x.params.length b1) ∧ w'.cell? ⟨b, off + k * 5 + 2, none⟩ = some (.int .i64 x.result)) (i := 12) (oi := { dst := some 31, op := Op.fieldAddr 72 (Operand.tmp 30) 2, type := 0, pos := _, after := #[{ on := 11, ground := Ground.data }], guard := none }) (u := ?_) rfl (by kernel_rfl) (by kernel_rfl) (by kernel_rfl) (by kernel_rfl) (by kernel_rfl) (by decide) (fun L v hL h => h hL) (fun L v => by simp only [getD_set_ne true (show 12 ≠ 18 by decide)]) (fun _ _ _ h => h) (Or.inl ⟨by rfl, ?_⟩) hHeld ?_
      rotate_left
      · intro wt hSw; (try dsimp only at hSw); obtain ⟨h1, h2, h3, h4⟩ := hSw; have q2 := obj_cell h1 (i := 2) rfl; have p3 := obj_cell h2 (i := 3) rfl; clear h1 h2; first | (go_simp; done) | (go_simp; with_reducible rfl) | (trace_state; fail)
      clear hHeld; intro hHeld
      try simp only [Act.put, List.setIfInBounds_toArray, List.set_cons_zero, List.set_cons_succ]
      refine till_take 18 (fun (w' : World) => w'.heap[w.heap.size + 1 + 1]? = some (.cells #[.slice sb n1 cb, .slice sc n2 cc, .slice ag k cs, .slice ad m cdd] 43) ∧ w'.heap[w.heap.size]? = some (.cells #[.slice sa n0 ca, .slice sb n1 cb, .slice sc n2 cc, .slice (some ⟨b, off, none⟩) n3 cd] 27) ∧ w'.cell? ⟨b, off + k * 5 + 1, none⟩ = some (.slice a1 x.params.length b1) ∧ w'.cell? ⟨b, off + k * 5 + 2, none⟩ = some (.int .i64 x.result)) (i := 13) (oi := { dst := some 32, op := Op.load 3 (Operand.tmp 31), type := 3, pos := _, after := #[{ on := 12, ground := Ground.data }], guard := none }) (u := ?_) rfl (by kernel_rfl) (by kernel_rfl) (by kernel_rfl) (by kernel_rfl) (by kernel_rfl) (by decide) (fun L v hL h => h hL) (fun L v => by simp only [getD_set_ne true (show 13 ≠ 18 by decide)]) (fun _ _ _ h => h) (Or.inl ⟨by rfl, ?_⟩) hHeld ?_
      rotate_left
      · intro wt hSw; (try dsimp only at hSw); obtain ⟨h1, h2, h3, h4⟩ := hSw; have q2 := obj_cell h1 (i := 2) rfl; have p3 := obj_cell h2 (i := 3) rfl; clear h1 h2; first | (go_simp; done) | (go_simp; with_reducible rfl) | (trace_state; fail)
      clear hHeld; intro hHeld
      try simp only [Act.put, List.setIfInBounds_toArray, List.set_cons_zero, List.set_cons_succ]
      refine till_take 18 (fun (w' : World) => w'.heap[w.heap.size + 1 + 1]? = some (.cells #[.slice sb n1 cb, .slice sc n2 cc, .slice ag k cs, .slice ad m cdd] 43) ∧ w'.heap[w.heap.size]? = some (.cells #[.slice sa n0 ca, .slice sb n1 cb, .slice sc n2 cc, .slice (some ⟨b, off, none⟩) n3 cd] 27) ∧ w'.cell? ⟨b, off + k * 5 + 1, none⟩ = some (.slice a1 x.params.length b1) ∧ w'.cell? ⟨b, off + k * 5 + 2, none⟩ = some (.int .i64 x.result)) (i := 14) (oi := { dst := some 33, op := Op.build 74 #[(0, Operand.tmp 26), (1, Operand.tmp 32)], type := 74, pos := _, after := #[{ on := 7, ground := Ground.data }, { on := 13, ground := Ground.data }], guard := none }) (u := ?_) rfl (by kernel_rfl) (by kernel_rfl) (by kernel_rfl) (by kernel_rfl) (by kernel_rfl) (by decide) (fun L v hL h => h hL) (fun L v => by simp only [getD_set_ne true (show 14 ≠ 18 by decide)]) (fun _ _ _ h => h) (Or.inl ⟨by rfl, ?_⟩) hHeld ?_
      rotate_left
      · intro wt hSw; (try dsimp only at hSw); obtain ⟨h1, h2, h3, h4⟩ := hSw; have q2 := obj_cell h1 (i := 2) rfl; have p3 := obj_cell h2 (i := 3) rfl; clear h1 h2; first | (go_simp; done) | (go_simp; with_reducible rfl) | (trace_state; fail)
      clear hHeld; intro hHeld
      try simp only [Act.put, List.setIfInBounds_toArray, List.set_cons_zero, List.set_cons_succ]
      refine till_one (i := 15) (o := { dst := some 34, op := Op.buildSlice 41 1 #[(0, Operand.tmp 33)], type := 41, pos := _, after := #[{ on := 14, ground := Ground.data }], guard := none }) (by kernel_rfl) rfl (fun K hK => ?_)
      go_simp
      refine hK.out _ _ ?_ (fun hHeld => ?_)
      · (try dsimp only); exact (fun _ => ⟨(get_past (heap_lt hj5)).trans hj5, (get_past (heap_lt hjp)).trans hjp, (cell_past zb).trans e1, (cell_past zb).trans e2⟩)
      clear hK K
      try simp only [Act.put, List.setIfInBounds_toArray, List.set_cons_zero, List.set_cons_succ]
      refine till_one (i := 16) (o := { dst := some 35, op := Op.call { callee := Callee.builtin Builtin.append, args := #[Operand.tmp 20, Operand.tmp 34], argTypes := #[41, 41] }, type := 41, pos := _, after := #[{ on := 1, ground := Ground.data }, { on := 15, ground := Ground.data }], guard := none }) (by kernel_rfl) rfl (fun K hK => ?_)
      rw [if_pos (by kernel_rfl)]
      have hb15 : Below wr.heap.size wr ((wr.alloc (.cells #[.slice a1 x.params.length b1, .int .i64 x.result] 74)).drew) := (by (repeat' (first | (with_reducible exact Below.refl _ _) | (with_reducible assumption) | (with_reducible refine below_drewN ?_ _) | (with_reducible refine Below.alloc ?_ ?_ _) | (with_reducible refine Below.drew ?_) | (with_reducible refine Below.setCell ?_ ?_ _) | go_size))); refine wp_append_src (.tmp 20) (.tmp 34) 41 rfl w.heap.size 74 i zz 2 32 Tryd.underlying41 hi hz hsize hby hzs (by omega) _ k (flatC (sigC U (us.take k))) rfl (owns_below HO.out hb15) _ 1 [.slice a1 x.params.length b1, .int .i64 x.result] rfl ((src_new wr [.slice a1 x.params.length b1, .int .i64 x.result] 74).below ((Below.refl _ _).drew)) rfl (by intro u hu; simp at hu; rcases hu with rfl | rfl <;> rfl) (by unfold maxLen; omega) (by omega) (Nat.le_trans HB.out.size hb15.size) ?_; intro v2 w2 hO2 hG2; have hOw := owns_below HO.out hb15; have kj5 := obj_below hj5 hb15 (heap_lt hj5); have kjp := obj_below hjp hb15 (heap_lt hjp); have kj4 := obj_below hj4 hb15 (heap_lt hj4); have Hj5 := Lib.hid ((hG2.block (w.heap.size + 1 + 1) (heap_lt kj5) (fun e => own_ne_type hOw kj5 (by decide) e.symm)).trans kj5); have Hjp := Lib.hid ((hG2.block w.heap.size (heap_lt kjp) (fun e => own_ne_type hOw kjp (by decide) e.symm)).trans kjp); have Hj4 := Lib.hid ((hG2.block (w.heap.size + 1) (heap_lt kj4) (fun e => own_ne_type hOw kj4 (by decide) e.symm)).trans kj4); have HB2 := Lib.hid (grown3 (HB.out.trans (hb15.mono HB.out.size)) (Nat.le_trans HB.out.size hb15.size) hOw hG2); have He1 := Lib.hid ((HB2.out.cell (p := ⟨b, off + k * 5 + 1, none⟩) hbw).trans y1); have He2 := Lib.hid ((HB2.out.cell (p := ⟨b, off + k * 5 + 2, none⟩) hbw).trans y2); have HD2 := Lib.hid (owns_grown (owns_below HD.out hb15) hG2 (fun g hg => by intro e; exact own_ne_row HO.out HD.out (by decide) e hg)); obtain ⟨av, cv2, rfl⟩ := owns_form hO2; have HO2 := Lib.hid hO2; have f2 := obj_frozen Hj5.out 2; have g2 := obj_cell Hj5.out (i := 2) rfl; clear hO2 hG2 hOw kj5 kjp kj4
      refine hK.out _ _ ?_ (fun hHeld => ?_)
      · (try dsimp only); exact (fun _ => ⟨Hj5.out, Hjp.out, He1.out, He2.out⟩)
      clear hK K
      try simp only [Act.put, List.setIfInBounds_toArray, List.set_cons_zero, List.set_cons_succ]
      refine till_take 18 (fun (w' : World) => w'.heap[w.heap.size + 1 + 1]? = some (.cells #[.slice sb n1 cb, .slice sc n2 cc, .slice ag k cs, .slice ad m cdd] 43) ∧ w'.heap[w.heap.size]? = some (.cells #[.slice sa n0 ca, .slice sb n1 cb, .slice sc n2 cc, .slice (some ⟨b, off, none⟩) n3 cd] 27) ∧ w'.cell? ⟨b, off + k * 5 + 1, none⟩ = some (.slice a1 x.params.length b1) ∧ w'.cell? ⟨b, off + k * 5 + 2, none⟩ = some (.int .i64 x.result)) (i := 17) (oi := { dst := some 36, op := Op.fieldAddr 43 (Operand.tmp 5) 2, type := 0, pos := _, after := #[{ on := 0, ground := Ground.phase }, { on := 1, ground := Ground.phase }, { on := 2, ground := Ground.phase }, { on := 3, ground := Ground.phase }, { on := 4, ground := Ground.phase }, { on := 5, ground := Ground.phase }, { on := 6, ground := Ground.phase }, { on := 7, ground := Ground.phase }, { on := 8, ground := Ground.phase }, { on := 9, ground := Ground.phase }, { on := 10, ground := Ground.phase }, { on := 11, ground := Ground.phase }, { on := 12, ground := Ground.phase }, { on := 13, ground := Ground.phase }, { on := 14, ground := Ground.phase }, { on := 15, ground := Ground.phase }, { on := 16, ground := Ground.phase }], guard := none }) (u := ?_) rfl (by kernel_rfl) (by kernel_rfl) (by kernel_rfl) (by kernel_rfl) (by kernel_rfl) (by decide) (fun L v hL h => h hL) (fun L v => by simp only [getD_set_ne true (show 17 ≠ 18 by decide)]) (fun _ _ _ h => h) (Or.inl ⟨by rfl, ?_⟩) hHeld ?_
      rotate_left
      · intro wt hSw; (try dsimp only at hSw); obtain ⟨h1, h2, h3, h4⟩ := hSw; have q2 := obj_cell h1 (i := 2) rfl; have p3 := obj_cell h2 (i := 3) rfl; clear h1 h2; first | (go_simp; done) | (go_simp; with_reducible rfl) | (trace_state; fail)
      clear hHeld; intro hHeld
      try simp only [Act.put, List.setIfInBounds_toArray, List.set_cons_zero, List.set_cons_succ]
      refine till_one (i := 18) (o := { dst := none, op := Op.store 41 (Operand.tmp 36) (Operand.tmp 35), type := 0, pos := _, after := #[{ on := 17, ground := Ground.data }, { on := 16, ground := Ground.data }, { on := 16, ground := Ground.chain }, { on := 0, ground := Ground.phase }, { on := 1, ground := Ground.phase }, { on := 2, ground := Ground.phase }, { on := 3, ground := Ground.phase }, { on := 4, ground := Ground.phase }, { on := 5, ground := Ground.phase }, { on := 6, ground := Ground.phase }, { on := 7, ground := Ground.phase }, { on := 8, ground := Ground.phase }, { on := 9, ground := Ground.phase }, { on := 10, ground := Ground.phase }, { on := 11, ground := Ground.phase }, { on := 12, ground := Ground.phase }, { on := 13, ground := Ground.phase }, { on := 14, ground := Ground.phase }, { on := 15, ground := Ground.phase }, { on := 16, ground := Ground.phase }], guard := none }) (by kernel_rfl) rfl (fun K hK => ?_)
      go_simp
      refine hK.out _ _ ?_ (fun hHeld => ?_)
      · (try dsimp only); exact (fun h => absurd h (by decide))
      clear hK K
      try simp only [Act.put, List.setIfInBounds_toArray, List.set_cons_zero, List.set_cons_succ]
      refine till_done (by kernel_rfl) ?_ _
      obtain ⟨W3, hW3⟩ : ∃ W3, W3 = w2.setCell ⟨w.heap.size + 1 + 1, 2, none⟩ (.slice av (k + 1) cv2) := ⟨_, rfl⟩
      have HS3 := Lib.hid (show W3.heap[w.heap.size + 1 + 1]? = some (.cells #[.slice sb n1 cb, .slice sc n2 cc, .slice av (k + 1) cv2, .slice ad m cdd] 43) by rw [hW3]; exact obj_self (A := #[.slice sb n1 cb, .slice sc n2 cc, .slice ag k cs, .slice ad m cdd]) Hj5.out)
      have HP3 := Lib.hid (show W3.heap[w.heap.size]? = some (.cells #[.slice sa n0 ca, .slice sb n1 cb, .slice sc n2 cc, .slice (some ⟨b, off, none⟩) n3 cd] 27) by rw [hW3, get_set (by simp <;> omega)]; exact Hjp.out)
      have HR3 := Lib.hid (show W3.heap[w.heap.size + 1]? = some (.cells #[.slice none 0 0, .slice none 0 0, .slice none 0 0, .slice none 0 0] 43) by rw [hW3, get_set (by simp <;> omega)]; exact Hj4.out)
      have HO3 := Lib.hid (show W3.ownsRow w.heap.size 74 2 (.slice av (k + 1) cv2) (k + 1) (flatC (sigC (U ++ [.slice a1 x.params.length b1]) (us.take (k + 1)))) by rw [hW3, HT.out, sigC_snoc _ _ _ _ HUl.out]; exact owns_set HO2.out (own_ne_type HO2.out Hj5.out (by decide)))
      have HD3 := Lib.hid (show W3.ownsRow w.heap.size 3 1 (.slice ad m cdd) m (iV (partL p u k)) by rw [hW3]; exact owns_set HD2.out (own_ne_type HD2.out Hj5.out (by decide)))
      have HB3 := Lib.hid (show Below w.heap.size w W3 by rw [hW3]; exact HB2.out.setCell (p := ⟨w.heap.size + 1 + 1, 2, none⟩) (show w.heap.size ≤ w.heap.size + 1 + 1 by omega) _)
      have HUR3 := Lib.hid (show ∀ (i : Nat) (u : Value) (y : Un), (U ++ [.slice a1 x.params.length b1])[i]? = some u → us[i]? = some y → RowR 1 intR w u y.params from by
        intro i v y hv hy
        by_cases hik : i < U.length
        · rw [List.getElem?_append_left hik] at hv
          exact HUR.out i v y hv hy
        · have hi2 := lt_of_get hv
          simp only [List.length_append, List.length_cons, List.length_nil] at hi2
          obtain rfl : i = U.length := by omega
          rw [List.getElem?_append_right (Nat.le_refl _), Nat.sub_self] at hv
          obtain rfl := Option.some.inj hv
          rw [HU.out, HXx.out] at hy
          obtain rfl := Option.some.inj hy
          exact HUx.out.ps)
      have HW3 := Lib.hid hW3
      clear hHeld hW3 f2 g2 e1 e2 c3 hj5 hjp hj4
      have HU3 := Lib.hid (show (U ++ [Value.slice a1 x.params.length b1]).length = k + 1 by rw [List.length_append, HU.out]; rfl)
      go_upto_region 6 with fail
      rw [← HW3.out]
      by_cases hku : (k : Int) = u
      · subst hku
        have qe : ((k : Int) == (k : Int)) = true := by simp
        have hU3 := HUx.out.below HB3.out
        have hSl := ref15_SlotsO _ _ _ x W3 hU3 (hfu x (List.mem_of_getElem? HXx.out))
        have c3 := obj_cell HP3.out (i := 3) rfl
        have d0 := (HB3.out.cell (p := ⟨b, off + k * 5, none⟩) hbw).trans y0
        have d1 := (HB3.out.cell (p := ⟨b, off + k * 5 + 1, none⟩) hbw).trans y1
        have d2 := (HB3.out.cell (p := ⟨b, off + k * 5 + 2, none⟩) hbw).trans y2
        have d3 := (HB3.out.cell (p := ⟨b, off + k * 5 + 3, none⟩) hbw).trans y3
        have d4 := (HB3.out.cell (p := ⟨b, off + k * 5 + 4, none⟩) hbw).trans y4
        have hPL := Lib.hid (show partL p (k : Int) (k + 1) = slotsL x by
          unfold partL scopeL
          rw [if_pos (by omega), if_pos (by omega), HUS.out]
          simp [HXx.out])
        clear hU3 y0 y1 y2 y3 y4
        go_wp2_with fail
        refine hSl.mono ?_; rintro e w4 ⟨r, rfl, hO4, hz4, hb4⟩
        obtain ⟨ar, cr, rfl⟩ := owns_form hO4
        have j5 := obj_below HS3.out hb4 (heap_lt HS3.out)
        have jp := obj_below HP3.out hb4 (heap_lt HP3.out)
        have j4 := obj_below HR3.out hb4 (heap_lt HR3.out)
        have f5 := obj_frozen j5 3
        have g5 := obj_cell j5 (i := 3) rfl
        obtain ⟨W5, hW5⟩ : ∃ W5, W5 = w4.setCell ⟨w.heap.size + 1 + 1, 3, none⟩ (.slice ar (slotsL x).length cr) := ⟨_, rfl⟩
        have HS5 := Lib.hid (show W5.heap[w.heap.size + 1 + 1]? = some (.cells #[.slice sb n1 cb, .slice sc n2 cc, .slice av (k + 1) cv2, .slice ar (slotsL x).length cr] 43) by rw [hW5]; exact obj_self (A := #[.slice sb n1 cb, .slice sc n2 cc, .slice av (k + 1) cv2, .slice ad m cdd]) j5)
        have HP5 := Lib.hid (show W5.heap[w.heap.size]? = some (.cells #[.slice sa n0 ca, .slice sb n1 cb, .slice sc n2 cc, .slice (some ⟨b, off, none⟩) n3 cd] 27) by rw [hW5, get_set (by simp <;> omega)]; exact jp)
        have HR5 := Lib.hid (show W5.heap[w.heap.size + 1]? = some (.cells #[.slice none 0 0, .slice none 0 0, .slice none 0 0, .slice none 0 0] 43) by rw [hW5, get_set (by simp <;> omega)]; exact j4)
        have HO5 := Lib.hid (show W5.ownsRow w.heap.size 74 2 (.slice av (k + 1) cv2) (k + 1) (flatC (sigC (U ++ [.slice a1 x.params.length b1]) (us.take (k + 1)))) by rw [hW5]; exact owns_set (owns_below HO3.out hb4) (own_ne_type (owns_below HO3.out hb4) j5 (by decide)))
        have HD5 := Lib.hid (show W5.ownsRow w.heap.size 3 1 (.slice ar (slotsL x).length cr) (slotsL x).length (iV (partL p (k : Int) (k + 1))) by rw [hW5, hPL.out]; exact owns_set (own_low hO4 HB3.out.size) (own_ne_type hO4 j5 (by decide)))
        have HB5 := Lib.hid (show Below w.heap.size w W5 by rw [hW5]; exact (HB3.out.trans (hb4.mono HB3.out.size)).setCell (p := ⟨w.heap.size + 1 + 1, 3, none⟩) (show w.heap.size ≤ w.heap.size + 1 + 1 by omega) _)
        have HM5 := Lib.hid (show (slotsL x).length = (partL p (k : Int) (k + 1)).length ∧ ∀ z ∈ partL p (k : Int) (k + 1), I64 z by rw [hPL.out]; exact ⟨rfl, hz4⟩)
        have HW5 := Lib.hid hW5
        clear hW5 j5 jp j4 hO4 hz4 hb4 hSl
        go_upto_region 4 with fail
        rw [← HW5.out]
        go_wp2_with fail
        go_roundw
        case rel => exact ⟨k + 1, _, _, _, _, _, _, by omega, by simp, HS5, HP5, HR5, HU3, HUR3, HO5, HD5, HM5, HB5⟩
        case measure => first | (simp [intOf]; done) | (simp [intOf]; omega)
      · have qe : ((k : Int) == u) = false := by simpa using hku
        have hPL := Lib.hid (show partL p u (k + 1) = partL p u k by
          unfold partL
          by_cases h : u < (k : Int)
          · rw [if_pos h, if_pos (by omega)]
          · rw [if_neg h, if_neg (by omega)])
        have HD5 := Lib.hid (show W3.ownsRow w.heap.size 3 1 (.slice ad m cdd) m (iV (partL p u (k + 1))) by rw [hPL.out]; exact HD3.out)
        have HM5 := Lib.hid (show m = (partL p u (k + 1)).length ∧ ∀ z ∈ partL p u (k + 1), I64 z by rw [hPL.out]; exact HM.out)
        clear hku
        go_wp2_with fail
        go_roundw
        case rel => exact ⟨k + 1, _, _, _, _, _, _, by omega, by simp, HS3, HP3, HR3, HU3, HUR3, HO3, HD5, HM5, HB3⟩
        case measure => first | (simp [intOf]; done) | (simp [intOf]; omega)
    · obtain rfl : k = n3 := by omega
      have qk : ((k : Int) < (k : Int)) = False := eq_false (by omega)
      have hPL := Lib.hid (show partL p u k = scopeL p u by
        unfold partL
        by_cases h : u < (k : Int)
        · rw [if_pos h]
        · rw [if_neg h]
          unfold scopeL
          by_cases h0 : 0 ≤ u
          · rw [if_pos h0, HUS.out, List.getElem?_eq_none (by rw [HN.out]; omega)]; rfl
          · rw [if_neg h0])
      have d0 := obj_cell hj5 (i := 0) rfl
      have d1 := obj_cell hj5 (i := 1) rfl
      have d2 := obj_cell hj5 (i := 2) rfl
      have d3 := obj_cell hj5 (i := 3) rfl
      obtain ⟨⟨z0, z1, z2, z3⟩, ⟨y0, y1, y2, y3⟩, hfin⟩ := set4 (a := .slice sb n1 cb) (b := .slice sc n2 cc) (c := .slice ag k cs) (d := .slice ad m cdd) hj4
      have e0 := obj_cell hfin (i := 0) rfl
      have e1 := obj_cell hfin (i := 1) rfl
      have e2 := obj_cell hfin (i := 2) rfl
      have e3 := obj_cell hfin (i := 3) rfl
      clear hfin
      go_wp2_with fail
      refine bodyPost_ret (by simp [results, Tryd.results9, go_sem, e0, e1, e2, e3]; try rfl) rfl ?_
      have hBf := (((HB.out.setCell (p := ⟨w.heap.size + 1, 0, none⟩) (Nat.le_succ _) (.slice sb n1 cb)).setCell (p := ⟨w.heap.size + 1, 1, none⟩) (Nat.le_succ _) (.slice sc n2 cc)).setCell (p := ⟨w.heap.size + 1, 2, none⟩) (Nat.le_succ _) (.slice ag k cs)).setCell (p := ⟨w.heap.size + 1, 3, none⟩) (Nat.le_succ _) (.slice ad m cdd)
      have k1 := obj_self (i := 0) (x := .slice sb n1 cb) hj4
      have k2 := obj_self (i := 1) (x := .slice sc n2 cc) k1
      have k3 := obj_self (i := 2) (x := .slice ag k cs) k2
      have o1 := owns_set (o := 0) (x := .slice sb n1 cb) HO.out (own_ne_type HO.out hj4 (by decide))
      have o2 := owns_set (o := 1) (x := .slice sc n2 cc) o1 (own_ne_type o1 k1 (by decide))
      have o3 := owns_set (o := 2) (x := .slice ag k cs) o2 (own_ne_type o2 k2 (by decide))
      have o4 := owns_set (o := 3) (x := .slice ad m cdd) o3 (own_ne_type o3 k3 (by decide))
      have p1 := owns_set (o := 0) (x := .slice sb n1 cb) HD.out (own_ne_type HD.out hj4 (by decide))
      have p2 := owns_set (o := 1) (x := .slice sc n2 cc) p1 (own_ne_type p1 k1 (by decide))
      have p3 := owns_set (o := 2) (x := .slice ag k cs) p2 (own_ne_type p2 k2 (by decide))
      have p4 := owns_set (o := 3) (x := .slice ad m cdd) p3 (own_ne_type p3 k3 (by decide))
      refine ⟨_, _, _, _, rfl, ⟨HV.out.below varR_stable hBf, HK.out.below blkR_stable hBf, ?_, ?_⟩, hBf⟩
      · rw [HUS.out]
        rw [List.take_of_length_le (by rw [HN.out]; exact Nat.le_refl _)] at o4
        exact sigs_rowR HN.out.symm (by rw [HU.out, HN.out]) (fun i v y hv hy => (HUR.out i v y hv hy).below intR_stable hBf) o4
      · rw [← hPL.out]
        exact row_of_owns (own_eq2 p4 HM.out.1 rfl) HM.out.2
end Go.Proofs.YtknbomikiakpmaaDoor

/- Layer 26: what a scope's box holds; how large scopes are. -/
namespace Go.Proofs.YtknbomikiakpmaaDoor
open Go.RowKit
set_option linter.unusedSimpArgs false
set_option linter.unusedVariables false
theorem boxed_four {w : World} {x0 x1 x2 x3 : Value} {g : Nat} {t : TypeId} (h : w.heap[g]? = some (.cells #[x0, x1, x2, x3] t)) :
    w.cell? ⟨g, 0, none⟩ = some x0 ∧ w.cell? ⟨g, 1, none⟩ = some x1 ∧ w.cell? ⟨g, 2, none⟩ = some x2 ∧ w.cell? ⟨g, 3, none⟩ = some x3 :=
  ⟨obj_cell h (i := 0) rfl, obj_cell h (i := 1) rfl, obj_cell h (i := 2) rfl, obj_cell h (i := 3) rfl⟩
theorem scope_small {p : Pr} (u : Int) (h : fewP p = true) : p.vars.length ≤ 70 ∧ p.blocks.length ≤ 40 ∧ (scopeL p u).length ≤ 2000 := by
  have h := of_decide_eq_true h
  refine ⟨h.1.2.1, h.1.2.2.1, ?_⟩
  unfold scopeL
  split
  · cases hu : p.units[u.toNat]? with
    | none => simp
    | some x =>
      have hx := of_decide_eq_true (h.2.2.2 x (List.mem_of_getElem? hu))
      have h1 : (if x.result = 0 then ([] : List Int) else [x.result]).length ≤ 1 := by split <;> simp
      show (slotsL x).length ≤ 2000
      unfold slotsL
      rw [List.length_append, List.length_append]
      omega
  · simp
def scP (p : Pr) (u : Int) : Sc := ⟨p.vars, p.blocks, scopeL p u⟩
theorem scAt_of {w : World} {a b c d : Value} {p : Pr} {u : Int} (h : ScopeAt w a b c d p u) : ScAt w a b d (scP p u) := ⟨h.1, h.2.1, h.2.2.2⟩
end Go.Proofs.YtknbomikiakpmaaDoor

/- Layer 27: may an expression be asked in a case? Of the answer only that a program is small, then. -/
namespace Go.Proofs.YtknbomikiakpmaaDoor
open Go.RowKit
set_option linter.unusedSimpArgs false
set_option linter.unusedVariables false
set_option maxRecDepth 100000 in
set_option maxHeartbeats 8000000 in
theorem law27_Fits (pa pb pc pd : Value) (p : Pr) (u : Int) (f g : Value) (s : St) (y : Value) (Y : List Int) (w : World) (hp : PrAt w pa pb pc pd p) (hs : StAt w f g s) (hy : RowR 1 intR w y Y) :
    Calls Tryd.prog 6 #[.agg #[pa, pb, pc, pd, .int .i64 u, f, g, .int .i64 s.now, .int .i64 s.fault, y]] w fun r w' => ∃ z : Bool, r = .returned (.bool z) ∧ (z = true → fewP p = true) ∧ Below w.heap.size w w' := by
  have hF := Lib.hid (fun W (hb : Below w.heap.size w W) => law16_Few pa pb pc pd p W (hp.below hb))
  have hS1 := Lib.hid (fun W (hb : Below w.heap.size w W) => law23_Short f g s W (hs.below hb))
  have HPR := Lib.hid hp
  have HST := Lib.hid hs
  obtain ⟨ya, yc, rfl⟩ := row_get hy
  obtain ⟨N, hN⟩ : ∃ N, Y.length = N := ⟨_, rfl⟩
  have HN := Lib.hid hN
  rw [hN] at hy ⊢
  have HY := Lib.hid hy
  have mixed : Tryd.prog.follows .mixedOrders = true := by kernel_rfl
  clear hp hs hy hN
  obtain ⟨W0, hW0⟩ : ∃ W0, W0 = w.alloc (.cells #[pa, pb, pc, pd, .int .i64 u, f, g, .int .i64 s.now, .int .i64 s.fault, .slice ya N yc] 34) := ⟨_, rfl⟩
  have O0 := Lib.hid (show W0.heap[w.heap.size]? = some (.cells #[pa, pb, pc, pd, .int .i64 u, f, g, .int .i64 s.now, .int .i64 s.fault, .slice ya N yc] 34) by rw [hW0]; exact get_last rfl)
  have B0 := Lib.hid (show Below w.heap.size w W0 by rw [hW0]; exact by (repeat' (first | (with_reducible exact Below.refl _ _) | (with_reducible assumption) | (with_reducible refine below_drewN ?_ _) | (with_reducible refine Below.alloc ?_ ?_ _) | (with_reducible refine Below.drew ?_) | (with_reducible refine Below.setCell ?_ ?_ _) | go_size)))
  have HW0 := Lib.hid hW0
  clear hW0
  cases hfp : fewP p
  · rw [hfp] at hF
    clear hfp
    go_enter Tryd.func6, Tryd.ntmps6
    go_wp2_with fail
    refine (hF.out _ (by (repeat' (first | (with_reducible exact Below.refl _ _) | (with_reducible assumption) | (with_reducible refine below_drewN ?_ _) | (with_reducible refine Below.alloc ?_ ?_ _) | (with_reducible refine Below.drew ?_) | (with_reducible refine Below.setCell ?_ ?_ _) | go_size)))).mono ?_; rintro e w1 ⟨rfl, hb⟩
    rw [← HW0.out] at hb
    have O1 := Lib.hid (obj_below O0.out hb (heap_lt O0.out))
    have B1 := Lib.hid (B0.out.trans (hb.mono B0.out.size))
    clear hb
    go_wp2_with fail
    go_ret
    exact ⟨false, rfl, fun h => (by cases h), B1.out⟩
  rw [hfp] at hF
  have HFP := Lib.hid hfp
  cases hs1 : shortS s
  · rw [hs1] at hS1
    clear hs1 hfp
    go_enter Tryd.func6, Tryd.ntmps6
    go_wp2_with fail
    refine (hF.out _ (by (repeat' (first | (with_reducible exact Below.refl _ _) | (with_reducible assumption) | (with_reducible refine below_drewN ?_ _) | (with_reducible refine Below.alloc ?_ ?_ _) | (with_reducible refine Below.drew ?_) | (with_reducible refine Below.setCell ?_ ?_ _) | go_size)))).mono ?_; rintro e w1 ⟨rfl, hb⟩
    rw [← HW0.out] at hb
    have O1 := Lib.hid (obj_below O0.out hb (heap_lt O0.out))
    have B1 := Lib.hid (B0.out.trans (hb.mono B0.out.size))
    clear hb
    have k5 := obj_cell O1.out (i := 5) rfl
    have k6 := obj_cell O1.out (i := 6) rfl
    have k7 := obj_cell O1.out (i := 7) rfl
    have k8 := obj_cell O1.out (i := 8) rfl
    have yk := heap_lt O1.out
    go_wp2_with fail
    refine (hS1.out _ B1.out).mono ?_; rintro e w2 ⟨rfl, hb⟩
    have O2 := Lib.hid (obj_below O1.out hb (heap_lt O1.out))
    have B2 := Lib.hid (B1.out.trans (hb.mono B1.out.size))
    clear hb k5 k6 k7 k8 yk
    go_wp2_with fail
    go_ret
    exact ⟨false, rfl, fun h => (by cases h), B2.out⟩
  rw [hs1] at hS1
  by_cases h100 : N ≤ 100
  case neg =>
    have q100 : (100 < (N : Int)) = True := eq_true (by omega)
    have q100' : (100 < N) = True := eq_true (by omega)
    clear hs1 hfp h100
    go_enter Tryd.func6, Tryd.ntmps6
    go_wp2_with fail
    refine (hF.out _ (by (repeat' (first | (with_reducible exact Below.refl _ _) | (with_reducible assumption) | (with_reducible refine below_drewN ?_ _) | (with_reducible refine Below.alloc ?_ ?_ _) | (with_reducible refine Below.drew ?_) | (with_reducible refine Below.setCell ?_ ?_ _) | go_size)))).mono ?_; rintro e w1 ⟨rfl, hb⟩
    rw [← HW0.out] at hb
    have O1 := Lib.hid (obj_below O0.out hb (heap_lt O0.out))
    have B1 := Lib.hid (B0.out.trans (hb.mono B0.out.size))
    clear hb
    have k5 := obj_cell O1.out (i := 5) rfl
    have k6 := obj_cell O1.out (i := 6) rfl
    have k7 := obj_cell O1.out (i := 7) rfl
    have k8 := obj_cell O1.out (i := 8) rfl
    have yk := heap_lt O1.out
    go_wp2_with fail
    refine (hS1.out _ B1.out).mono ?_; rintro e w2 ⟨rfl, hb⟩
    have O2 := Lib.hid (obj_below O1.out hb (heap_lt O1.out))
    have B2 := Lib.hid (B1.out.trans (hb.mono B1.out.size))
    clear hb k5 k6 k7 k8 yk
    have k9 := obj_cell O2.out (i := 9) rfl
    have yk := heap_lt O2.out
    go_wp2_with fail
    go_ret
    exact ⟨false, rfl, fun h => (by cases h), B2.out⟩
  have q100 : (100 < (N : Int)) = False := eq_false (by omega)
  have q100' : (100 < N) = False := eq_false (by omega)
  obtain ⟨⟨_, hL, hB, _⟩, _⟩ : (p.consts.length ≤ 60 ∧ p.vars.length ≤ 70 ∧ p.blocks.length ≤ 40 ∧ p.units.length ≤ 10) ∧ (∀ x ∈ p.vars, x.name.length ≤ 300) ∧ (∀ x ∈ p.blocks, x.name.length ≤ 300) ∧ ∀ x ∈ p.units, fewU x = true := of_decide_eq_true hfp
  have hpb : ∃ a c, pc = .slice a p.blocks.length c := row_get HPR.out.bs
  have hFit := Lib.hid (fun W (hb : Below w.heap.size w W) => ref23_Fits pb pc f g p.vars p.blocks.length s W (HPR.out.vs.below varR_stable hb) hpb (HST.out.below hb) hs1 hL hB)
  have HSc := Lib.hid (fun W (hb : Below w.heap.size w W) => ref17_Scope pa pb pc pd p u W (HPR.out.below hb) hfp)
  generalize fitS p.vars p.blocks.length s = FS at *
  clear hL hB hpb hs1 hfp
  cases FS
  case false =>
    go_enter Tryd.func6, Tryd.ntmps6
    go_wp2_with fail
    refine (hF.out _ (by (repeat' (first | (with_reducible exact Below.refl _ _) | (with_reducible assumption) | (with_reducible refine below_drewN ?_ _) | (with_reducible refine Below.alloc ?_ ?_ _) | (with_reducible refine Below.drew ?_) | (with_reducible refine Below.setCell ?_ ?_ _) | go_size)))).mono ?_; rintro e w1 ⟨rfl, hb⟩
    rw [← HW0.out] at hb
    have O1 := Lib.hid (obj_below O0.out hb (heap_lt O0.out))
    have B1 := Lib.hid (B0.out.trans (hb.mono B0.out.size))
    clear hb
    have k5 := obj_cell O1.out (i := 5) rfl
    have k6 := obj_cell O1.out (i := 6) rfl
    have k7 := obj_cell O1.out (i := 7) rfl
    have k8 := obj_cell O1.out (i := 8) rfl
    have yk := heap_lt O1.out
    go_wp2_with fail
    refine (hS1.out _ B1.out).mono ?_; rintro e w2 ⟨rfl, hb⟩
    have O2 := Lib.hid (obj_below O1.out hb (heap_lt O1.out))
    have B2 := Lib.hid (B1.out.trans (hb.mono B1.out.size))
    clear hb k5 k6 k7 k8 yk
    have k1 := obj_cell O2.out (i := 1) rfl
    have k2 := obj_cell O2.out (i := 2) rfl
    have k5 := obj_cell O2.out (i := 5) rfl
    have k6 := obj_cell O2.out (i := 6) rfl
    have k7 := obj_cell O2.out (i := 7) rfl
    have k8 := obj_cell O2.out (i := 8) rfl
    have k9 := obj_cell O2.out (i := 9) rfl
    have yk := heap_lt O2.out
    go_wp2_with fail
    refine (hFit.out _ B2.out).mono ?_; rintro e w3 ⟨rfl, hb⟩
    have O3 := Lib.hid (obj_below O2.out hb (heap_lt O2.out))
    have B3 := Lib.hid (B2.out.trans (hb.mono B2.out.size))
    clear hb k1 k2 k5 k6 k7 k8 k9 yk
    go_wp2_with fail
    go_ret
    exact ⟨false, rfl, fun h => (by cases h), B3.out⟩
  go_enter Tryd.func6, Tryd.ntmps6
  go_wp2_with fail
  refine (hF.out _ (by (repeat' (first | (with_reducible exact Below.refl _ _) | (with_reducible assumption) | (with_reducible refine below_drewN ?_ _) | (with_reducible refine Below.alloc ?_ ?_ _) | (with_reducible refine Below.drew ?_) | (with_reducible refine Below.setCell ?_ ?_ _) | go_size)))).mono ?_; rintro e w1 ⟨rfl, hb⟩
  rw [← HW0.out] at hb
  have O1 := Lib.hid (obj_below O0.out hb (heap_lt O0.out))
  have B1 := Lib.hid (B0.out.trans (hb.mono B0.out.size))
  clear hb
  have k5 := obj_cell O1.out (i := 5) rfl
  have k6 := obj_cell O1.out (i := 6) rfl
  have k7 := obj_cell O1.out (i := 7) rfl
  have k8 := obj_cell O1.out (i := 8) rfl
  have yk := heap_lt O1.out
  go_wp2_with fail
  refine (hS1.out _ B1.out).mono ?_; rintro e w2 ⟨rfl, hb⟩
  have O2 := Lib.hid (obj_below O1.out hb (heap_lt O1.out))
  have B2 := Lib.hid (B1.out.trans (hb.mono B1.out.size))
  clear hb k5 k6 k7 k8 yk
  have k1 := obj_cell O2.out (i := 1) rfl
  have k2 := obj_cell O2.out (i := 2) rfl
  have k5 := obj_cell O2.out (i := 5) rfl
  have k6 := obj_cell O2.out (i := 6) rfl
  have k7 := obj_cell O2.out (i := 7) rfl
  have k8 := obj_cell O2.out (i := 8) rfl
  have k9 := obj_cell O2.out (i := 9) rfl
  have yk := heap_lt O2.out
  go_wp2_with fail
  refine (hFit.out _ B2.out).mono ?_; rintro e w3 ⟨rfl, hb⟩
  have O3 := Lib.hid (obj_below O2.out hb (heap_lt O2.out))
  have B3 := Lib.hid (B2.out.trans (hb.mono B2.out.size))
  clear hb k1 k2 k5 k6 k7 k8 k9 yk
  have k0 := obj_cell O3.out (i := 0) rfl
  have k1 := obj_cell O3.out (i := 1) rfl
  have k2 := obj_cell O3.out (i := 2) rfl
  have k3 := obj_cell O3.out (i := 3) rfl
  have k4 := obj_cell O3.out (i := 4) rfl
  have yk := heap_lt O3.out
  go_wp2_with fail
  refine (HSc.out _ B3.out).mono ?_; rintro e w4 ⟨a, b, c, d, rfl, hsc, hb⟩
  have O4 := Lib.hid (obj_below O3.out hb (heap_lt O3.out))
  have B4 := Lib.hid (B3.out.trans (hb.mono B3.out.size))
  clear hb k0 k1 k2 k3 k4 yk
  obtain ⟨da, dc, rfl⟩ := row_get hsc.2.2.2
  obtain ⟨M, hM⟩ : ∃ M, (scopeL p u).length = M := ⟨_, rfl⟩
  have HM := Lib.hid hM
  have HD := Lib.hid hsc.2.2.2
  rw [hM] at HD ⊢
  generalize scopeL p u = X at *
  clear hM hsc
  have hfd : ∀ W : World, (Instr.field 43 (.agg #[a, b, c, .slice da M dc]) 3).run Tryd.prog W = .ok (.slice da M dc) W := fun _ => by kernel_rfl
  have k9 := obj_cell O4.out (i := 9) rfl
  have yk := heap_lt O4.out
  by_cases hMN : M = N
  case neg =>
    have q9 : ((M : Int) != (N : Int)) = true := by rw [bne_iff_ne]; omega
    clear hMN
    go_wp2_with fail
    go_ret
    exact ⟨false, rfl, fun h => (by cases h), B4.out⟩
  subst hMN
  clear k9 yk
  have HY4 := Lib.hid (HY.out.below intR_stable B4.out)
  have k9 := obj_cell O4.out (i := 9) rfl
  have yk := heap_lt O4.out
  go_wp2_with fail
  clear k9 yk
  go_loopw [4] (fun jj wr => ∃ k : Nat, k ≤ M ∧ jj = .int .i64 k ∧ Hid (Below w4.heap.size w4 wr)) (fun jj _ => M - (intOf jj).toNat)
  case atStart => exact ⟨0, Nat.zero_le _, rfl, Lib.hid (Below.refl _ _)⟩
  case round =>
    obtain ⟨k, hk, rfl, HB⟩ := hrel
    by_cases hlt : k < M
    case neg =>
      obtain rfl : k = M := by omega
      have r1 : ((k : Int) < (k : Int)) = False := eq_false (by omega)
      have r1' : (k < k) = False := eq_false (by omega)
      go_wp2_with fail
      go_ret
      exact ⟨true, rfl, fun _ => (by first | trivial | exact HFP.out), B4.out.trans (HB.out.mono B4.out.size)⟩
    have r1 : ((k : Int) < (M : Int)) = True := eq_true (by omega)
    have r1' : (k < M) = True := eq_true hlt
    have hk62 : k ≤ 9223372036854775806 := by omega
    obtain ⟨bl, ol, hse, hbl, hnl, hcl, cl1, _⟩ := int_at HD.out (k := k) (by rw [HM.out]; exact hlt)
    obtain ⟨bm, om, hse2, hbm, hnm, hcm, cm1, _⟩ := int_at HY4.out (k := k) (by rw [HN.out]; exact hlt)
    subst hse hse2
    replace cl1 := (HB.out.cell hbl).trans cl1
    replace cm1 := (HB.out.cell hbm).trans cm1
    have k9 := obj_cell (obj_below O4.out HB.out (heap_lt O4.out)) (i := 9) rfl
    have yk := Nat.lt_of_lt_of_le (heap_lt O4.out) HB.out.size
    have ybl := Nat.lt_of_lt_of_le hbl HB.out.size
    have ybm := Nat.lt_of_lt_of_le hbm HB.out.size
    generalize X.getD k 0 = x at *
    generalize Y.getD k 0 = z at *
    have HR := Lib.hid (fun W => ref01_Right x W)
    have HI := Lib.hid (fun W => ref01_In x z W)
    have HK := Lib.hid hlt
    clear hlt hk hbl hbm
    generalize kRight x = zr at *
    generalize kIn x z = zi at *
    cases zr
    case false =>
      go_wp2_with fail
      refine wp_region_held_drew (S := (fun w' => Below wr.heap.size wr w')) (by kernel_rfl) ?_ (fun hHeld => ?_)
      · (try dsimp only); first | assumption | exact Below.alloc hHeld hHeld.size _ | exact (Below.refl _ _).drew | exact Below.drew (Below.refl _ _) | exact Below_drewN _ _ _ | exact Below.refl _ _ | (trace_state; fail)
      refine wpAnyH_take (i := 0) (oi := { dst := some 51, op := Op.move (Operand.tmp 3), type := 32, pos := _, after := #[], guard := none }) (v := ?_) rfl (by kernel_rfl) (by kernel_rfl) (by kernel_rfl) (fun _ _ _ h => h) (Or.inl ⟨by rfl, ?_⟩) (by assumption) ?_
      rotate_left
      · intro wt hSw; (try dsimp only at hSw); have k9 := cellB hSw k9 yk; have cl1 := cellB hSw cl1 ybl; have cm1 := cellB hSw cm1 ybm; first | (go_simp; done) | (go_simp; with_reducible rfl) | (trace_state; fail)
      try simp only [Act.put, List.setIfInBounds_toArray, List.set_cons_zero, List.set_cons_succ]
      refine wpAnyH_take (i := 1) (oi := { dst := some 52, op := Op.move (Operand.tmp 4), type := 3, pos := _, after := #[], guard := none }) (v := ?_) rfl (by kernel_rfl) (by kernel_rfl) (by kernel_rfl) (fun _ _ _ h => h) (Or.inl ⟨by rfl, ?_⟩) (by assumption) ?_
      rotate_left
      · intro wt hSw; (try dsimp only at hSw); have k9 := cellB hSw k9 yk; have cl1 := cellB hSw cl1 ybl; have cm1 := cellB hSw cm1 ybm; first | (go_simp; done) | (go_simp; with_reducible rfl) | (trace_state; fail)
      try simp only [Act.put, List.setIfInBounds_toArray, List.set_cons_zero, List.set_cons_succ]
      refine wpAnyH_take (i := 2) (oi := { dst := some 53, op := Op.indexAddr 32 (Operand.tmp 51) (Operand.tmp 52), type := 0, pos := _, after := #[{ on := 0, ground := Ground.data }, { on := 1, ground := Ground.data }], guard := none }) (v := ?_) rfl (by kernel_rfl) (by kernel_rfl) (by kernel_rfl) (fun _ _ _ h => h) (Or.inl ⟨by rfl, ?_⟩) (by assumption) ?_
      rotate_left
      · intro wt hSw; (try dsimp only at hSw); have k9 := cellB hSw k9 yk; have cl1 := cellB hSw cl1 ybl; have cm1 := cellB hSw cm1 ybm; first | (go_simp; done) | (go_simp; with_reducible rfl) | (trace_state; fail)
      try simp only [Act.put, List.setIfInBounds_toArray, List.set_cons_zero, List.set_cons_succ]
      refine wpAnyH_take (i := 3) (oi := { dst := some 54, op := Op.load 3 (Operand.tmp 53), type := 3, pos := _, after := #[{ on := 2, ground := Ground.data }], guard := none }) (v := ?_) rfl (by kernel_rfl) (by kernel_rfl) (by kernel_rfl) (fun _ _ _ h => h) (Or.inl ⟨by rfl, ?_⟩) (by assumption) ?_
      rotate_left
      · intro wt hSw; (try dsimp only at hSw); have k9 := cellB hSw k9 yk; have cl1 := cellB hSw cl1 ybl; have cm1 := cellB hSw cm1 ybm; first | (go_simp; done) | (go_simp; with_reducible rfl) | (trace_state; fail)
      try simp only [Act.put, List.setIfInBounds_toArray, List.set_cons_zero, List.set_cons_succ]
      refine wpAnyH_ready (rs := [4]) (by kernel_rfl) (by simp) ?_
      refine AllReadyH.cons (o := { dst := some 55, op := Op.call { callee := Callee.value (Operand.func 33), args := #[Operand.tmp 54], argTypes := #[3] }, type := 4, pos := _, after := #[{ on := 3, ground := Ground.data }], guard := none }) rfl (fun K hK => ?_) AllReadyH.nil
      go_simp
      refine (HR.out _).mono ?_; rintro r v0 ⟨rfl, hv0⟩; rw [← hv0]; clear hv0
      go_wp2_with fail
      refine hK.out _ _ ?_ (fun hHeld => ?_)
      · (try dsimp only); first | assumption | exact Below.alloc hHeld hHeld.size _ | exact (Below.refl _ _).drew | exact Below.drew (Below.refl _ _) | exact Below_drewN _ _ _ | exact Below.refl _ _ | (trace_state; fail)
      clear hK K
      try simp only [Act.put, List.setIfInBounds_toArray, List.set_cons_zero, List.set_cons_succ]
      refine wpAnyH_take (i := 5) (oi := { dst := some 56, op := Op.unOp UnOp.not 4 (Operand.tmp 55), type := 4, pos := _, after := #[{ on := 4, ground := Ground.data }], guard := none }) (v := ?_) rfl (by kernel_rfl) (by kernel_rfl) (by kernel_rfl) (fun _ _ _ h => h) (Or.inl ⟨by rfl, ?_⟩) (by assumption) ?_
      rotate_left
      · intro wt hSw; (try dsimp only at hSw); have k9 := cellB hSw k9 yk; have cl1 := cellB hSw cl1 ybl; have cm1 := cellB hSw cm1 ybm; first | (go_simp; done) | (go_simp; with_reducible rfl) | (trace_state; fail)
      try simp only [Act.put, List.setIfInBounds_toArray, List.set_cons_zero, List.set_cons_succ]
      refine wpAnyH_take (i := 6) (oi := { dst := some 57, op := Op.move (Operand.tmp 56), type := 4, pos := _, after := #[{ on := 5, ground := Ground.data }, { on := 4, ground := Ground.chain }], guard := none }) (v := ?_) rfl (by kernel_rfl) (by kernel_rfl) (by kernel_rfl) (fun _ _ _ h => h) (Or.inl ⟨by rfl, ?_⟩) (by assumption) ?_
      rotate_left
      · intro wt hSw; (try dsimp only at hSw); have k9 := cellB hSw k9 yk; have cl1 := cellB hSw cl1 ybl; have cm1 := cellB hSw cm1 ybm; first | (go_simp; done) | (go_simp; with_reducible rfl) | (trace_state; fail)
      try simp only [Act.put, List.setIfInBounds_toArray, List.set_cons_zero, List.set_cons_succ]
      refine wpAnyH_take (i := 7) (oi := { dst := some 58, op := Op.move (Operand.tmp 3), type := 32, pos := _, after := #[{ on := 6, ground := Ground.guard }], guard := some (6, false) }) (v := undef) rfl (by kernel_rfl) (by kernel_rfl) (by kernel_rfl) (fun _ _ _ h => h) (Or.inr ⟨by rfl, rfl⟩) (by assumption) ?_
      try simp only [Act.put, List.setIfInBounds_toArray, List.set_cons_zero, List.set_cons_succ]
      refine wpAnyH_take (i := 8) (oi := { dst := some 59, op := Op.move (Operand.tmp 4), type := 3, pos := _, after := #[{ on := 6, ground := Ground.guard }], guard := some (6, false) }) (v := undef) rfl (by kernel_rfl) (by kernel_rfl) (by kernel_rfl) (fun _ _ _ h => h) (Or.inr ⟨by rfl, rfl⟩) (by assumption) ?_
      try simp only [Act.put, List.setIfInBounds_toArray, List.set_cons_zero, List.set_cons_succ]
      refine wpAnyH_take (i := 9) (oi := { dst := some 60, op := Op.indexAddr 32 (Operand.tmp 58) (Operand.tmp 59), type := 0, pos := _, after := #[{ on := 7, ground := Ground.data }, { on := 8, ground := Ground.data }, { on := 6, ground := Ground.guard }], guard := some (6, false) }) (v := undef) rfl (by kernel_rfl) (by kernel_rfl) (by kernel_rfl) (fun _ _ _ h => h) (Or.inr ⟨by rfl, rfl⟩) (by assumption) ?_
      try simp only [Act.put, List.setIfInBounds_toArray, List.set_cons_zero, List.set_cons_succ]
      refine wpAnyH_take (i := 10) (oi := { dst := some 61, op := Op.load 3 (Operand.tmp 60), type := 3, pos := _, after := #[{ on := 9, ground := Ground.data }, { on := 6, ground := Ground.guard }], guard := some (6, false) }) (v := undef) rfl (by kernel_rfl) (by kernel_rfl) (by kernel_rfl) (fun _ _ _ h => h) (Or.inr ⟨by rfl, rfl⟩) (by assumption) ?_
      try simp only [Act.put, List.setIfInBounds_toArray, List.set_cons_zero, List.set_cons_succ]
      refine wpAnyH_take (i := 11) (oi := { dst := some 62, op := Op.fieldAddr 34 (Operand.tmp 1) 3, type := 0, pos := _, after := #[{ on := 6, ground := Ground.guard }], guard := some (6, false) }) (v := undef) rfl (by kernel_rfl) (by kernel_rfl) (by kernel_rfl) (fun _ _ _ h => h) (Or.inr ⟨by rfl, rfl⟩) (by assumption) ?_
      try simp only [Act.put, List.setIfInBounds_toArray, List.set_cons_zero, List.set_cons_succ]
      refine wpAnyH_take (i := 12) (oi := { dst := some 63, op := Op.load 32 (Operand.tmp 62), type := 32, pos := _, after := #[{ on := 11, ground := Ground.data }, { on := 6, ground := Ground.guard }], guard := some (6, false) }) (v := undef) rfl (by kernel_rfl) (by kernel_rfl) (by kernel_rfl) (fun _ _ _ h => h) (Or.inr ⟨by rfl, rfl⟩) (by assumption) ?_
      try simp only [Act.put, List.setIfInBounds_toArray, List.set_cons_zero, List.set_cons_succ]
      refine wpAnyH_take (i := 13) (oi := { dst := some 64, op := Op.move (Operand.tmp 4), type := 3, pos := _, after := #[{ on := 6, ground := Ground.guard }], guard := some (6, false) }) (v := undef) rfl (by kernel_rfl) (by kernel_rfl) (by kernel_rfl) (fun _ _ _ h => h) (Or.inr ⟨by rfl, rfl⟩) (by assumption) ?_
      try simp only [Act.put, List.setIfInBounds_toArray, List.set_cons_zero, List.set_cons_succ]
      refine wpAnyH_take (i := 14) (oi := { dst := some 65, op := Op.indexAddr 32 (Operand.tmp 63) (Operand.tmp 64), type := 0, pos := _, after := #[{ on := 12, ground := Ground.data }, { on := 13, ground := Ground.data }, { on := 6, ground := Ground.guard }], guard := some (6, false) }) (v := undef) rfl (by kernel_rfl) (by kernel_rfl) (by kernel_rfl) (fun _ _ _ h => h) (Or.inr ⟨by rfl, rfl⟩) (by assumption) ?_
      try simp only [Act.put, List.setIfInBounds_toArray, List.set_cons_zero, List.set_cons_succ]
      refine wpAnyH_take (i := 15) (oi := { dst := some 66, op := Op.load 3 (Operand.tmp 65), type := 3, pos := _, after := #[{ on := 14, ground := Ground.data }, { on := 6, ground := Ground.guard }], guard := some (6, false) }) (v := undef) rfl (by kernel_rfl) (by kernel_rfl) (by kernel_rfl) (fun _ _ _ h => h) (Or.inr ⟨by rfl, rfl⟩) (by assumption) ?_
      try simp only [Act.put, List.setIfInBounds_toArray, List.set_cons_zero, List.set_cons_succ]
      refine wpAnyH_take (i := 16) (oi := { dst := some 67, op := Op.call { callee := Callee.value (Operand.func 34), args := #[Operand.tmp 61, Operand.tmp 66], argTypes := #[3, 3] }, type := 4, pos := _, after := #[{ on := 10, ground := Ground.data }, { on := 15, ground := Ground.data }, { on := 6, ground := Ground.chain }, { on := 6, ground := Ground.guard }], guard := some (6, false) }) (v := undef) rfl (by kernel_rfl) (by kernel_rfl) (by kernel_rfl) (fun _ _ _ h => h) (Or.inr ⟨by rfl, rfl⟩) (by assumption) ?_
      try simp only [Act.put, List.setIfInBounds_toArray, List.set_cons_zero, List.set_cons_succ]
      refine wpAnyH_take (i := 17) (oi := { dst := some 68, op := Op.unOp UnOp.not 4 (Operand.tmp 67), type := 4, pos := _, after := #[{ on := 16, ground := Ground.data }, { on := 6, ground := Ground.guard }], guard := some (6, false) }) (v := undef) rfl (by kernel_rfl) (by kernel_rfl) (by kernel_rfl) (fun _ _ _ h => h) (Or.inr ⟨by rfl, rfl⟩) (by assumption) ?_
      try simp only [Act.put, List.setIfInBounds_toArray, List.set_cons_zero, List.set_cons_succ]
      refine wpAnyH_take (i := 18) (oi := { dst := some 69, op := Op.pick (Operand.tmp 57) (Operand.const (Value.bool true)) (Operand.tmp 68), type := 4, pos := _, after := #[{ on := 6, ground := Ground.data }, { on := 17, ground := Ground.data }], guard := none }) (v := ?_) rfl (by kernel_rfl) (by kernel_rfl) (by kernel_rfl) (fun _ _ _ h => h) (Or.inl ⟨by rfl, ?_⟩) (by assumption) ?_
      rotate_left
      · intro wt hSw; (try dsimp only at hSw); have k9 := cellB hSw k9 yk; have cl1 := cellB hSw cl1 ybl; have cm1 := cellB hSw cm1 ybm; first | (go_simp; done) | (go_simp; with_reducible rfl) | (trace_state; fail)
      try simp only [Act.put, List.setIfInBounds_toArray, List.set_cons_zero, List.set_cons_succ]
      refine wpAnyH_done (by kernel_rfl) ?_ _
      have HBn := Lib.hid (HB.out.trans (hHeld.mono HB.out.size))
      go_wp2_with fail
      go_ret
      exact ⟨false, rfl, fun h => (by cases h), B4.out.trans (HBn.out.mono B4.out.size)⟩
    case true =>
      cases zi
      case false =>
        go_wp2_with fail
        refine wp_region_held_drew (S := (fun w' => Below wr.heap.size wr w')) (by kernel_rfl) ?_ (fun hHeld => ?_)
        · (try dsimp only); first | assumption | exact Below.alloc hHeld hHeld.size _ | exact (Below.refl _ _).drew | exact Below.drew (Below.refl _ _) | exact Below_drewN _ _ _ | exact Below.refl _ _ | (trace_state; fail)
        refine wpAnyH_take (i := 0) (oi := { dst := some 51, op := Op.move (Operand.tmp 3), type := 32, pos := _, after := #[], guard := none }) (v := ?_) rfl (by kernel_rfl) (by kernel_rfl) (by kernel_rfl) (fun _ _ _ h => h) (Or.inl ⟨by rfl, ?_⟩) (by assumption) ?_
        rotate_left
        · intro wt hSw; (try dsimp only at hSw); have k9 := cellB hSw k9 yk; have cl1 := cellB hSw cl1 ybl; have cm1 := cellB hSw cm1 ybm; first | (go_simp; done) | (go_simp; with_reducible rfl) | (trace_state; fail)
        try simp only [Act.put, List.setIfInBounds_toArray, List.set_cons_zero, List.set_cons_succ]
        refine wpAnyH_take (i := 1) (oi := { dst := some 52, op := Op.move (Operand.tmp 4), type := 3, pos := _, after := #[], guard := none }) (v := ?_) rfl (by kernel_rfl) (by kernel_rfl) (by kernel_rfl) (fun _ _ _ h => h) (Or.inl ⟨by rfl, ?_⟩) (by assumption) ?_
        rotate_left
        · intro wt hSw; (try dsimp only at hSw); have k9 := cellB hSw k9 yk; have cl1 := cellB hSw cl1 ybl; have cm1 := cellB hSw cm1 ybm; first | (go_simp; done) | (go_simp; with_reducible rfl) | (trace_state; fail)
        try simp only [Act.put, List.setIfInBounds_toArray, List.set_cons_zero, List.set_cons_succ]
        refine wpAnyH_take (i := 2) (oi := { dst := some 53, op := Op.indexAddr 32 (Operand.tmp 51) (Operand.tmp 52), type := 0, pos := _, after := #[{ on := 0, ground := Ground.data }, { on := 1, ground := Ground.data }], guard := none }) (v := ?_) rfl (by kernel_rfl) (by kernel_rfl) (by kernel_rfl) (fun _ _ _ h => h) (Or.inl ⟨by rfl, ?_⟩) (by assumption) ?_
        rotate_left
        · intro wt hSw; (try dsimp only at hSw); have k9 := cellB hSw k9 yk; have cl1 := cellB hSw cl1 ybl; have cm1 := cellB hSw cm1 ybm; first | (go_simp; done) | (go_simp; with_reducible rfl) | (trace_state; fail)
        try simp only [Act.put, List.setIfInBounds_toArray, List.set_cons_zero, List.set_cons_succ]
        refine wpAnyH_take (i := 3) (oi := { dst := some 54, op := Op.load 3 (Operand.tmp 53), type := 3, pos := _, after := #[{ on := 2, ground := Ground.data }], guard := none }) (v := ?_) rfl (by kernel_rfl) (by kernel_rfl) (by kernel_rfl) (fun _ _ _ h => h) (Or.inl ⟨by rfl, ?_⟩) (by assumption) ?_
        rotate_left
        · intro wt hSw; (try dsimp only at hSw); have k9 := cellB hSw k9 yk; have cl1 := cellB hSw cl1 ybl; have cm1 := cellB hSw cm1 ybm; first | (go_simp; done) | (go_simp; with_reducible rfl) | (trace_state; fail)
        try simp only [Act.put, List.setIfInBounds_toArray, List.set_cons_zero, List.set_cons_succ]
        refine wpAnyH_ready (rs := [4]) (by kernel_rfl) (by simp) ?_
        refine AllReadyH.cons (o := { dst := some 55, op := Op.call { callee := Callee.value (Operand.func 33), args := #[Operand.tmp 54], argTypes := #[3] }, type := 4, pos := _, after := #[{ on := 3, ground := Ground.data }], guard := none }) rfl (fun K hK => ?_) AllReadyH.nil
        go_simp
        refine (HR.out _).mono ?_; rintro r v0 ⟨rfl, hv0⟩; rw [← hv0]; clear hv0
        go_wp2_with fail
        refine hK.out _ _ ?_ (fun hHeld => ?_)
        · (try dsimp only); first | assumption | exact Below.alloc hHeld hHeld.size _ | exact (Below.refl _ _).drew | exact Below.drew (Below.refl _ _) | exact Below_drewN _ _ _ | exact Below.refl _ _ | (trace_state; fail)
        clear hK K
        try simp only [Act.put, List.setIfInBounds_toArray, List.set_cons_zero, List.set_cons_succ]
        refine wpAnyH_take (i := 5) (oi := { dst := some 56, op := Op.unOp UnOp.not 4 (Operand.tmp 55), type := 4, pos := _, after := #[{ on := 4, ground := Ground.data }], guard := none }) (v := ?_) rfl (by kernel_rfl) (by kernel_rfl) (by kernel_rfl) (fun _ _ _ h => h) (Or.inl ⟨by rfl, ?_⟩) (by assumption) ?_
        rotate_left
        · intro wt hSw; (try dsimp only at hSw); have k9 := cellB hSw k9 yk; have cl1 := cellB hSw cl1 ybl; have cm1 := cellB hSw cm1 ybm; first | (go_simp; done) | (go_simp; with_reducible rfl) | (trace_state; fail)
        try simp only [Act.put, List.setIfInBounds_toArray, List.set_cons_zero, List.set_cons_succ]
        refine wpAnyH_take (i := 6) (oi := { dst := some 57, op := Op.move (Operand.tmp 56), type := 4, pos := _, after := #[{ on := 5, ground := Ground.data }, { on := 4, ground := Ground.chain }], guard := none }) (v := ?_) rfl (by kernel_rfl) (by kernel_rfl) (by kernel_rfl) (fun _ _ _ h => h) (Or.inl ⟨by rfl, ?_⟩) (by assumption) ?_
        rotate_left
        · intro wt hSw; (try dsimp only at hSw); have k9 := cellB hSw k9 yk; have cl1 := cellB hSw cl1 ybl; have cm1 := cellB hSw cm1 ybm; first | (go_simp; done) | (go_simp; with_reducible rfl) | (trace_state; fail)
        try simp only [Act.put, List.setIfInBounds_toArray, List.set_cons_zero, List.set_cons_succ]
        refine wpAnyH_take (i := 7) (oi := { dst := some 58, op := Op.move (Operand.tmp 3), type := 32, pos := _, after := #[{ on := 6, ground := Ground.guard }], guard := some (6, false) }) (v := ?_) rfl (by kernel_rfl) (by kernel_rfl) (by kernel_rfl) (fun _ _ _ h => h) (Or.inl ⟨by rfl, ?_⟩) (by assumption) ?_
        rotate_left
        · intro wt hSw; (try dsimp only at hSw); have k9 := cellB hSw k9 yk; have cl1 := cellB hSw cl1 ybl; have cm1 := cellB hSw cm1 ybm; first | (go_simp; done) | (go_simp; with_reducible rfl) | (trace_state; fail)
        try simp only [Act.put, List.setIfInBounds_toArray, List.set_cons_zero, List.set_cons_succ]
        refine wpAnyH_take (i := 8) (oi := { dst := some 59, op := Op.move (Operand.tmp 4), type := 3, pos := _, after := #[{ on := 6, ground := Ground.guard }], guard := some (6, false) }) (v := ?_) rfl (by kernel_rfl) (by kernel_rfl) (by kernel_rfl) (fun _ _ _ h => h) (Or.inl ⟨by rfl, ?_⟩) (by assumption) ?_
        rotate_left
        · intro wt hSw; (try dsimp only at hSw); have k9 := cellB hSw k9 yk; have cl1 := cellB hSw cl1 ybl; have cm1 := cellB hSw cm1 ybm; first | (go_simp; done) | (go_simp; with_reducible rfl) | (trace_state; fail)
        try simp only [Act.put, List.setIfInBounds_toArray, List.set_cons_zero, List.set_cons_succ]
        refine wpAnyH_take (i := 9) (oi := { dst := some 60, op := Op.indexAddr 32 (Operand.tmp 58) (Operand.tmp 59), type := 0, pos := _, after := #[{ on := 7, ground := Ground.data }, { on := 8, ground := Ground.data }, { on := 6, ground := Ground.guard }], guard := some (6, false) }) (v := ?_) rfl (by kernel_rfl) (by kernel_rfl) (by kernel_rfl) (fun _ _ _ h => h) (Or.inl ⟨by rfl, ?_⟩) (by assumption) ?_
        rotate_left
        · intro wt hSw; (try dsimp only at hSw); have k9 := cellB hSw k9 yk; have cl1 := cellB hSw cl1 ybl; have cm1 := cellB hSw cm1 ybm; first | (go_simp; done) | (go_simp; with_reducible rfl) | (trace_state; fail)
        try simp only [Act.put, List.setIfInBounds_toArray, List.set_cons_zero, List.set_cons_succ]
        refine wpAnyH_take (i := 10) (oi := { dst := some 61, op := Op.load 3 (Operand.tmp 60), type := 3, pos := _, after := #[{ on := 9, ground := Ground.data }, { on := 6, ground := Ground.guard }], guard := some (6, false) }) (v := ?_) rfl (by kernel_rfl) (by kernel_rfl) (by kernel_rfl) (fun _ _ _ h => h) (Or.inl ⟨by rfl, ?_⟩) (by assumption) ?_
        rotate_left
        · intro wt hSw; (try dsimp only at hSw); have k9 := cellB hSw k9 yk; have cl1 := cellB hSw cl1 ybl; have cm1 := cellB hSw cm1 ybm; first | (go_simp; done) | (go_simp; with_reducible rfl) | (trace_state; fail)
        try simp only [Act.put, List.setIfInBounds_toArray, List.set_cons_zero, List.set_cons_succ]
        refine wpAnyH_take (i := 11) (oi := { dst := some 62, op := Op.fieldAddr 34 (Operand.tmp 1) 3, type := 0, pos := _, after := #[{ on := 6, ground := Ground.guard }], guard := some (6, false) }) (v := ?_) rfl (by kernel_rfl) (by kernel_rfl) (by kernel_rfl) (fun _ _ _ h => h) (Or.inl ⟨by rfl, ?_⟩) (by assumption) ?_
        rotate_left
        · intro wt hSw; (try dsimp only at hSw); have k9 := cellB hSw k9 yk; have cl1 := cellB hSw cl1 ybl; have cm1 := cellB hSw cm1 ybm; first | (go_simp; done) | (go_simp; with_reducible rfl) | (trace_state; fail)
        try simp only [Act.put, List.setIfInBounds_toArray, List.set_cons_zero, List.set_cons_succ]
        refine wpAnyH_take (i := 12) (oi := { dst := some 63, op := Op.load 32 (Operand.tmp 62), type := 32, pos := _, after := #[{ on := 11, ground := Ground.data }, { on := 6, ground := Ground.guard }], guard := some (6, false) }) (v := ?_) rfl (by kernel_rfl) (by kernel_rfl) (by kernel_rfl) (fun _ _ _ h => h) (Or.inl ⟨by rfl, ?_⟩) (by assumption) ?_
        rotate_left
        · intro wt hSw; (try dsimp only at hSw); have k9 := cellB hSw k9 yk; have cl1 := cellB hSw cl1 ybl; have cm1 := cellB hSw cm1 ybm; first | (go_simp; done) | (go_simp; with_reducible rfl) | (trace_state; fail)
        try simp only [Act.put, List.setIfInBounds_toArray, List.set_cons_zero, List.set_cons_succ]
        refine wpAnyH_take (i := 13) (oi := { dst := some 64, op := Op.move (Operand.tmp 4), type := 3, pos := _, after := #[{ on := 6, ground := Ground.guard }], guard := some (6, false) }) (v := ?_) rfl (by kernel_rfl) (by kernel_rfl) (by kernel_rfl) (fun _ _ _ h => h) (Or.inl ⟨by rfl, ?_⟩) (by assumption) ?_
        rotate_left
        · intro wt hSw; (try dsimp only at hSw); have k9 := cellB hSw k9 yk; have cl1 := cellB hSw cl1 ybl; have cm1 := cellB hSw cm1 ybm; first | (go_simp; done) | (go_simp; with_reducible rfl) | (trace_state; fail)
        try simp only [Act.put, List.setIfInBounds_toArray, List.set_cons_zero, List.set_cons_succ]
        refine wpAnyH_take (i := 14) (oi := { dst := some 65, op := Op.indexAddr 32 (Operand.tmp 63) (Operand.tmp 64), type := 0, pos := _, after := #[{ on := 12, ground := Ground.data }, { on := 13, ground := Ground.data }, { on := 6, ground := Ground.guard }], guard := some (6, false) }) (v := ?_) rfl (by kernel_rfl) (by kernel_rfl) (by kernel_rfl) (fun _ _ _ h => h) (Or.inl ⟨by rfl, ?_⟩) (by assumption) ?_
        rotate_left
        · intro wt hSw; (try dsimp only at hSw); have k9 := cellB hSw k9 yk; have cl1 := cellB hSw cl1 ybl; have cm1 := cellB hSw cm1 ybm; first | (go_simp; done) | (go_simp; with_reducible rfl) | (trace_state; fail)
        try simp only [Act.put, List.setIfInBounds_toArray, List.set_cons_zero, List.set_cons_succ]
        refine wpAnyH_take (i := 15) (oi := { dst := some 66, op := Op.load 3 (Operand.tmp 65), type := 3, pos := _, after := #[{ on := 14, ground := Ground.data }, { on := 6, ground := Ground.guard }], guard := some (6, false) }) (v := ?_) rfl (by kernel_rfl) (by kernel_rfl) (by kernel_rfl) (fun _ _ _ h => h) (Or.inl ⟨by rfl, ?_⟩) (by assumption) ?_
        rotate_left
        · intro wt hSw; (try dsimp only at hSw); have k9 := cellB hSw k9 yk; have cl1 := cellB hSw cl1 ybl; have cm1 := cellB hSw cm1 ybm; first | (go_simp; done) | (go_simp; with_reducible rfl) | (trace_state; fail)
        try simp only [Act.put, List.setIfInBounds_toArray, List.set_cons_zero, List.set_cons_succ]
        refine wpAnyH_ready (rs := [16]) (by kernel_rfl) (by simp) ?_
        refine AllReadyH.cons (o := { dst := some 67, op := Op.call { callee := Callee.value (Operand.func 34), args := #[Operand.tmp 61, Operand.tmp 66], argTypes := #[3, 3] }, type := 4, pos := _, after := #[{ on := 10, ground := Ground.data }, { on := 15, ground := Ground.data }, { on := 6, ground := Ground.chain }, { on := 6, ground := Ground.guard }], guard := some (6, false) }) rfl (fun K hK => ?_) AllReadyH.nil
        go_simp
        refine (HI.out _).mono ?_; rintro r v0 ⟨rfl, hv0⟩; rw [← hv0]; clear hv0
        go_wp2_with fail
        refine hK.out _ _ ?_ (fun hHeld => ?_)
        · (try dsimp only); first | assumption | exact Below.alloc hHeld hHeld.size _ | exact (Below.refl _ _).drew | exact Below.drew (Below.refl _ _) | exact Below_drewN _ _ _ | exact Below.refl _ _ | (trace_state; fail)
        clear hK K
        try simp only [Act.put, List.setIfInBounds_toArray, List.set_cons_zero, List.set_cons_succ]
        refine wpAnyH_take (i := 17) (oi := { dst := some 68, op := Op.unOp UnOp.not 4 (Operand.tmp 67), type := 4, pos := _, after := #[{ on := 16, ground := Ground.data }, { on := 6, ground := Ground.guard }], guard := some (6, false) }) (v := ?_) rfl (by kernel_rfl) (by kernel_rfl) (by kernel_rfl) (fun _ _ _ h => h) (Or.inl ⟨by rfl, ?_⟩) (by assumption) ?_
        rotate_left
        · intro wt hSw; (try dsimp only at hSw); have k9 := cellB hSw k9 yk; have cl1 := cellB hSw cl1 ybl; have cm1 := cellB hSw cm1 ybm; first | (go_simp; done) | (go_simp; with_reducible rfl) | (trace_state; fail)
        try simp only [Act.put, List.setIfInBounds_toArray, List.set_cons_zero, List.set_cons_succ]
        refine wpAnyH_take (i := 18) (oi := { dst := some 69, op := Op.pick (Operand.tmp 57) (Operand.const (Value.bool true)) (Operand.tmp 68), type := 4, pos := _, after := #[{ on := 6, ground := Ground.data }, { on := 17, ground := Ground.data }], guard := none }) (v := ?_) rfl (by kernel_rfl) (by kernel_rfl) (by kernel_rfl) (fun _ _ _ h => h) (Or.inl ⟨by rfl, ?_⟩) (by assumption) ?_
        rotate_left
        · intro wt hSw; (try dsimp only at hSw); have k9 := cellB hSw k9 yk; have cl1 := cellB hSw cl1 ybl; have cm1 := cellB hSw cm1 ybm; first | (go_simp; done) | (go_simp; with_reducible rfl) | (trace_state; fail)
        try simp only [Act.put, List.setIfInBounds_toArray, List.set_cons_zero, List.set_cons_succ]
        refine wpAnyH_done (by kernel_rfl) ?_ _
        have HBn := Lib.hid (HB.out.trans (hHeld.mono HB.out.size))
        go_wp2_with fail
        go_ret
        exact ⟨false, rfl, fun h => (by cases h), B4.out.trans (HBn.out.mono B4.out.size)⟩
      case true =>
        go_wp2_with fail
        refine wp_region_held_drew (S := (fun w' => Below wr.heap.size wr w')) (by kernel_rfl) ?_ (fun hHeld => ?_)
        · (try dsimp only); first | assumption | exact Below.alloc hHeld hHeld.size _ | exact (Below.refl _ _).drew | exact Below.drew (Below.refl _ _) | exact Below_drewN _ _ _ | exact Below.refl _ _ | (trace_state; fail)
        refine wpAnyH_take (i := 0) (oi := { dst := some 51, op := Op.move (Operand.tmp 3), type := 32, pos := _, after := #[], guard := none }) (v := ?_) rfl (by kernel_rfl) (by kernel_rfl) (by kernel_rfl) (fun _ _ _ h => h) (Or.inl ⟨by rfl, ?_⟩) (by assumption) ?_
        rotate_left
        · intro wt hSw; (try dsimp only at hSw); have k9 := cellB hSw k9 yk; have cl1 := cellB hSw cl1 ybl; have cm1 := cellB hSw cm1 ybm; first | (go_simp; done) | (go_simp; with_reducible rfl) | (trace_state; fail)
        try simp only [Act.put, List.setIfInBounds_toArray, List.set_cons_zero, List.set_cons_succ]
        refine wpAnyH_take (i := 1) (oi := { dst := some 52, op := Op.move (Operand.tmp 4), type := 3, pos := _, after := #[], guard := none }) (v := ?_) rfl (by kernel_rfl) (by kernel_rfl) (by kernel_rfl) (fun _ _ _ h => h) (Or.inl ⟨by rfl, ?_⟩) (by assumption) ?_
        rotate_left
        · intro wt hSw; (try dsimp only at hSw); have k9 := cellB hSw k9 yk; have cl1 := cellB hSw cl1 ybl; have cm1 := cellB hSw cm1 ybm; first | (go_simp; done) | (go_simp; with_reducible rfl) | (trace_state; fail)
        try simp only [Act.put, List.setIfInBounds_toArray, List.set_cons_zero, List.set_cons_succ]
        refine wpAnyH_take (i := 2) (oi := { dst := some 53, op := Op.indexAddr 32 (Operand.tmp 51) (Operand.tmp 52), type := 0, pos := _, after := #[{ on := 0, ground := Ground.data }, { on := 1, ground := Ground.data }], guard := none }) (v := ?_) rfl (by kernel_rfl) (by kernel_rfl) (by kernel_rfl) (fun _ _ _ h => h) (Or.inl ⟨by rfl, ?_⟩) (by assumption) ?_
        rotate_left
        · intro wt hSw; (try dsimp only at hSw); have k9 := cellB hSw k9 yk; have cl1 := cellB hSw cl1 ybl; have cm1 := cellB hSw cm1 ybm; first | (go_simp; done) | (go_simp; with_reducible rfl) | (trace_state; fail)
        try simp only [Act.put, List.setIfInBounds_toArray, List.set_cons_zero, List.set_cons_succ]
        refine wpAnyH_take (i := 3) (oi := { dst := some 54, op := Op.load 3 (Operand.tmp 53), type := 3, pos := _, after := #[{ on := 2, ground := Ground.data }], guard := none }) (v := ?_) rfl (by kernel_rfl) (by kernel_rfl) (by kernel_rfl) (fun _ _ _ h => h) (Or.inl ⟨by rfl, ?_⟩) (by assumption) ?_
        rotate_left
        · intro wt hSw; (try dsimp only at hSw); have k9 := cellB hSw k9 yk; have cl1 := cellB hSw cl1 ybl; have cm1 := cellB hSw cm1 ybm; first | (go_simp; done) | (go_simp; with_reducible rfl) | (trace_state; fail)
        try simp only [Act.put, List.setIfInBounds_toArray, List.set_cons_zero, List.set_cons_succ]
        refine wpAnyH_ready (rs := [4]) (by kernel_rfl) (by simp) ?_
        refine AllReadyH.cons (o := { dst := some 55, op := Op.call { callee := Callee.value (Operand.func 33), args := #[Operand.tmp 54], argTypes := #[3] }, type := 4, pos := _, after := #[{ on := 3, ground := Ground.data }], guard := none }) rfl (fun K hK => ?_) AllReadyH.nil
        go_simp
        refine (HR.out _).mono ?_; rintro r v0 ⟨rfl, hv0⟩; rw [← hv0]; clear hv0
        go_wp2_with fail
        refine hK.out _ _ ?_ (fun hHeld => ?_)
        · (try dsimp only); first | assumption | exact Below.alloc hHeld hHeld.size _ | exact (Below.refl _ _).drew | exact Below.drew (Below.refl _ _) | exact Below_drewN _ _ _ | exact Below.refl _ _ | (trace_state; fail)
        clear hK K
        try simp only [Act.put, List.setIfInBounds_toArray, List.set_cons_zero, List.set_cons_succ]
        refine wpAnyH_take (i := 5) (oi := { dst := some 56, op := Op.unOp UnOp.not 4 (Operand.tmp 55), type := 4, pos := _, after := #[{ on := 4, ground := Ground.data }], guard := none }) (v := ?_) rfl (by kernel_rfl) (by kernel_rfl) (by kernel_rfl) (fun _ _ _ h => h) (Or.inl ⟨by rfl, ?_⟩) (by assumption) ?_
        rotate_left
        · intro wt hSw; (try dsimp only at hSw); have k9 := cellB hSw k9 yk; have cl1 := cellB hSw cl1 ybl; have cm1 := cellB hSw cm1 ybm; first | (go_simp; done) | (go_simp; with_reducible rfl) | (trace_state; fail)
        try simp only [Act.put, List.setIfInBounds_toArray, List.set_cons_zero, List.set_cons_succ]
        refine wpAnyH_take (i := 6) (oi := { dst := some 57, op := Op.move (Operand.tmp 56), type := 4, pos := _, after := #[{ on := 5, ground := Ground.data }, { on := 4, ground := Ground.chain }], guard := none }) (v := ?_) rfl (by kernel_rfl) (by kernel_rfl) (by kernel_rfl) (fun _ _ _ h => h) (Or.inl ⟨by rfl, ?_⟩) (by assumption) ?_
        rotate_left
        · intro wt hSw; (try dsimp only at hSw); have k9 := cellB hSw k9 yk; have cl1 := cellB hSw cl1 ybl; have cm1 := cellB hSw cm1 ybm; first | (go_simp; done) | (go_simp; with_reducible rfl) | (trace_state; fail)
        try simp only [Act.put, List.setIfInBounds_toArray, List.set_cons_zero, List.set_cons_succ]
        refine wpAnyH_take (i := 7) (oi := { dst := some 58, op := Op.move (Operand.tmp 3), type := 32, pos := _, after := #[{ on := 6, ground := Ground.guard }], guard := some (6, false) }) (v := ?_) rfl (by kernel_rfl) (by kernel_rfl) (by kernel_rfl) (fun _ _ _ h => h) (Or.inl ⟨by rfl, ?_⟩) (by assumption) ?_
        rotate_left
        · intro wt hSw; (try dsimp only at hSw); have k9 := cellB hSw k9 yk; have cl1 := cellB hSw cl1 ybl; have cm1 := cellB hSw cm1 ybm; first | (go_simp; done) | (go_simp; with_reducible rfl) | (trace_state; fail)
        try simp only [Act.put, List.setIfInBounds_toArray, List.set_cons_zero, List.set_cons_succ]
        refine wpAnyH_take (i := 8) (oi := { dst := some 59, op := Op.move (Operand.tmp 4), type := 3, pos := _, after := #[{ on := 6, ground := Ground.guard }], guard := some (6, false) }) (v := ?_) rfl (by kernel_rfl) (by kernel_rfl) (by kernel_rfl) (fun _ _ _ h => h) (Or.inl ⟨by rfl, ?_⟩) (by assumption) ?_
        rotate_left
        · intro wt hSw; (try dsimp only at hSw); have k9 := cellB hSw k9 yk; have cl1 := cellB hSw cl1 ybl; have cm1 := cellB hSw cm1 ybm; first | (go_simp; done) | (go_simp; with_reducible rfl) | (trace_state; fail)
        try simp only [Act.put, List.setIfInBounds_toArray, List.set_cons_zero, List.set_cons_succ]
        refine wpAnyH_take (i := 9) (oi := { dst := some 60, op := Op.indexAddr 32 (Operand.tmp 58) (Operand.tmp 59), type := 0, pos := _, after := #[{ on := 7, ground := Ground.data }, { on := 8, ground := Ground.data }, { on := 6, ground := Ground.guard }], guard := some (6, false) }) (v := ?_) rfl (by kernel_rfl) (by kernel_rfl) (by kernel_rfl) (fun _ _ _ h => h) (Or.inl ⟨by rfl, ?_⟩) (by assumption) ?_
        rotate_left
        · intro wt hSw; (try dsimp only at hSw); have k9 := cellB hSw k9 yk; have cl1 := cellB hSw cl1 ybl; have cm1 := cellB hSw cm1 ybm; first | (go_simp; done) | (go_simp; with_reducible rfl) | (trace_state; fail)
        try simp only [Act.put, List.setIfInBounds_toArray, List.set_cons_zero, List.set_cons_succ]
        refine wpAnyH_take (i := 10) (oi := { dst := some 61, op := Op.load 3 (Operand.tmp 60), type := 3, pos := _, after := #[{ on := 9, ground := Ground.data }, { on := 6, ground := Ground.guard }], guard := some (6, false) }) (v := ?_) rfl (by kernel_rfl) (by kernel_rfl) (by kernel_rfl) (fun _ _ _ h => h) (Or.inl ⟨by rfl, ?_⟩) (by assumption) ?_
        rotate_left
        · intro wt hSw; (try dsimp only at hSw); have k9 := cellB hSw k9 yk; have cl1 := cellB hSw cl1 ybl; have cm1 := cellB hSw cm1 ybm; first | (go_simp; done) | (go_simp; with_reducible rfl) | (trace_state; fail)
        try simp only [Act.put, List.setIfInBounds_toArray, List.set_cons_zero, List.set_cons_succ]
        refine wpAnyH_take (i := 11) (oi := { dst := some 62, op := Op.fieldAddr 34 (Operand.tmp 1) 3, type := 0, pos := _, after := #[{ on := 6, ground := Ground.guard }], guard := some (6, false) }) (v := ?_) rfl (by kernel_rfl) (by kernel_rfl) (by kernel_rfl) (fun _ _ _ h => h) (Or.inl ⟨by rfl, ?_⟩) (by assumption) ?_
        rotate_left
        · intro wt hSw; (try dsimp only at hSw); have k9 := cellB hSw k9 yk; have cl1 := cellB hSw cl1 ybl; have cm1 := cellB hSw cm1 ybm; first | (go_simp; done) | (go_simp; with_reducible rfl) | (trace_state; fail)
        try simp only [Act.put, List.setIfInBounds_toArray, List.set_cons_zero, List.set_cons_succ]
        refine wpAnyH_take (i := 12) (oi := { dst := some 63, op := Op.load 32 (Operand.tmp 62), type := 32, pos := _, after := #[{ on := 11, ground := Ground.data }, { on := 6, ground := Ground.guard }], guard := some (6, false) }) (v := ?_) rfl (by kernel_rfl) (by kernel_rfl) (by kernel_rfl) (fun _ _ _ h => h) (Or.inl ⟨by rfl, ?_⟩) (by assumption) ?_
        rotate_left
        · intro wt hSw; (try dsimp only at hSw); have k9 := cellB hSw k9 yk; have cl1 := cellB hSw cl1 ybl; have cm1 := cellB hSw cm1 ybm; first | (go_simp; done) | (go_simp; with_reducible rfl) | (trace_state; fail)
        try simp only [Act.put, List.setIfInBounds_toArray, List.set_cons_zero, List.set_cons_succ]
        refine wpAnyH_take (i := 13) (oi := { dst := some 64, op := Op.move (Operand.tmp 4), type := 3, pos := _, after := #[{ on := 6, ground := Ground.guard }], guard := some (6, false) }) (v := ?_) rfl (by kernel_rfl) (by kernel_rfl) (by kernel_rfl) (fun _ _ _ h => h) (Or.inl ⟨by rfl, ?_⟩) (by assumption) ?_
        rotate_left
        · intro wt hSw; (try dsimp only at hSw); have k9 := cellB hSw k9 yk; have cl1 := cellB hSw cl1 ybl; have cm1 := cellB hSw cm1 ybm; first | (go_simp; done) | (go_simp; with_reducible rfl) | (trace_state; fail)
        try simp only [Act.put, List.setIfInBounds_toArray, List.set_cons_zero, List.set_cons_succ]
        refine wpAnyH_take (i := 14) (oi := { dst := some 65, op := Op.indexAddr 32 (Operand.tmp 63) (Operand.tmp 64), type := 0, pos := _, after := #[{ on := 12, ground := Ground.data }, { on := 13, ground := Ground.data }, { on := 6, ground := Ground.guard }], guard := some (6, false) }) (v := ?_) rfl (by kernel_rfl) (by kernel_rfl) (by kernel_rfl) (fun _ _ _ h => h) (Or.inl ⟨by rfl, ?_⟩) (by assumption) ?_
        rotate_left
        · intro wt hSw; (try dsimp only at hSw); have k9 := cellB hSw k9 yk; have cl1 := cellB hSw cl1 ybl; have cm1 := cellB hSw cm1 ybm; first | (go_simp; done) | (go_simp; with_reducible rfl) | (trace_state; fail)
        try simp only [Act.put, List.setIfInBounds_toArray, List.set_cons_zero, List.set_cons_succ]
        refine wpAnyH_take (i := 15) (oi := { dst := some 66, op := Op.load 3 (Operand.tmp 65), type := 3, pos := _, after := #[{ on := 14, ground := Ground.data }, { on := 6, ground := Ground.guard }], guard := some (6, false) }) (v := ?_) rfl (by kernel_rfl) (by kernel_rfl) (by kernel_rfl) (fun _ _ _ h => h) (Or.inl ⟨by rfl, ?_⟩) (by assumption) ?_
        rotate_left
        · intro wt hSw; (try dsimp only at hSw); have k9 := cellB hSw k9 yk; have cl1 := cellB hSw cl1 ybl; have cm1 := cellB hSw cm1 ybm; first | (go_simp; done) | (go_simp; with_reducible rfl) | (trace_state; fail)
        try simp only [Act.put, List.setIfInBounds_toArray, List.set_cons_zero, List.set_cons_succ]
        refine wpAnyH_ready (rs := [16]) (by kernel_rfl) (by simp) ?_
        refine AllReadyH.cons (o := { dst := some 67, op := Op.call { callee := Callee.value (Operand.func 34), args := #[Operand.tmp 61, Operand.tmp 66], argTypes := #[3, 3] }, type := 4, pos := _, after := #[{ on := 10, ground := Ground.data }, { on := 15, ground := Ground.data }, { on := 6, ground := Ground.chain }, { on := 6, ground := Ground.guard }], guard := some (6, false) }) rfl (fun K hK => ?_) AllReadyH.nil
        go_simp
        refine (HI.out _).mono ?_; rintro r v0 ⟨rfl, hv0⟩; rw [← hv0]; clear hv0
        go_wp2_with fail
        refine hK.out _ _ ?_ (fun hHeld => ?_)
        · (try dsimp only); first | assumption | exact Below.alloc hHeld hHeld.size _ | exact (Below.refl _ _).drew | exact Below.drew (Below.refl _ _) | exact Below_drewN _ _ _ | exact Below.refl _ _ | (trace_state; fail)
        clear hK K
        try simp only [Act.put, List.setIfInBounds_toArray, List.set_cons_zero, List.set_cons_succ]
        refine wpAnyH_take (i := 17) (oi := { dst := some 68, op := Op.unOp UnOp.not 4 (Operand.tmp 67), type := 4, pos := _, after := #[{ on := 16, ground := Ground.data }, { on := 6, ground := Ground.guard }], guard := some (6, false) }) (v := ?_) rfl (by kernel_rfl) (by kernel_rfl) (by kernel_rfl) (fun _ _ _ h => h) (Or.inl ⟨by rfl, ?_⟩) (by assumption) ?_
        rotate_left
        · intro wt hSw; (try dsimp only at hSw); have k9 := cellB hSw k9 yk; have cl1 := cellB hSw cl1 ybl; have cm1 := cellB hSw cm1 ybm; first | (go_simp; done) | (go_simp; with_reducible rfl) | (trace_state; fail)
        try simp only [Act.put, List.setIfInBounds_toArray, List.set_cons_zero, List.set_cons_succ]
        refine wpAnyH_take (i := 18) (oi := { dst := some 69, op := Op.pick (Operand.tmp 57) (Operand.const (Value.bool true)) (Operand.tmp 68), type := 4, pos := _, after := #[{ on := 6, ground := Ground.data }, { on := 17, ground := Ground.data }], guard := none }) (v := ?_) rfl (by kernel_rfl) (by kernel_rfl) (by kernel_rfl) (fun _ _ _ h => h) (Or.inl ⟨by rfl, ?_⟩) (by assumption) ?_
        rotate_left
        · intro wt hSw; (try dsimp only at hSw); have k9 := cellB hSw k9 yk; have cl1 := cellB hSw cl1 ybl; have cm1 := cellB hSw cm1 ybm; first | (go_simp; done) | (go_simp; with_reducible rfl) | (trace_state; fail)
        try simp only [Act.put, List.setIfInBounds_toArray, List.set_cons_zero, List.set_cons_succ]
        refine wpAnyH_done (by kernel_rfl) ?_ _
        have HBn := Lib.hid (HB.out.trans (hHeld.mono HB.out.size))
        go_wp2_with fail
        go_roundw
        case rel => exact ⟨k + 1, by have := HK.out; omega, by simp, HBn⟩
        case measure => have := HK.out; first | (simp [intOf]; done) | (simp [intOf]; omega)
end Go.Proofs.YtknbomikiakpmaaDoor
