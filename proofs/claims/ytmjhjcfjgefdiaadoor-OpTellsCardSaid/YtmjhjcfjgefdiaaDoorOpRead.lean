/- Layer 12: a line is read. -/
import Derived.Test.YtmjhjcfjgefdiaaDoorOpFind
namespace Go.Proofs.YtmjhjcfjgefdiaaDoor
open Go.RowKit
set_option linter.unusedSimpArgs false
set_option linter.unusedVariables false
theorem oLine_ba (o a b : Int) : oLine o a b = ⟨(oLl o a b).toArray⟩ := by unfold oLl; simp
theorem cA_len (c : UInt8) (l : List UInt8) : (cA c l).length ≤ l.length := (List.takeWhile_sublist _).length_le
theorem cB_len (c : UInt8) (l : List UInt8) : (cB c l).length ≤ l.length := by
  unfold cB
  rw [List.length_tail]
  have := (List.dropWhile_sublist (fun x => x != c) (l := l)).length_le
  omega
def rr (l : List UInt8) (x : Int) : Int := if okR l then x else 0
theorem rr_yes {l : List UInt8} (h : okR l = true) (x : Int) : rr l x = x := if_pos h
theorem rr_no {l : List UInt8} (h : okR l = false) (x : Int) : rr l x = 0 := by unfold rr; rw [h]; exact if_neg (by decide)
set_option maxHeartbeats 2000000 in
theorem op_Read (l : List UInt8) (hl : (l.length : Int) ≤ 9223372036854775807) (w : World) (hT : OTab w) : Calls Tryd.prog 16 #[.string ⟨l.toArray⟩] w fun e w' => e = .returned (.tuple #[.agg #[.int .i64 (rr l (rdO l)), .int .i64 (rr l (rdA l)), .int .i64 (rr l (rdB l))], .bool (okR l)]) ∧ Below w.heap.size w w' := by
  have HY := Lib.hid (@rr_yes l)
  have HN := Lib.hid (@rr_no l)
  have HO := Lib.hid (show okR l = (!(l == []) && (oLl (rdO l) (rdA l) (rdB l) == l)) from rfl)
  have hA := gn_range (cA 32 (cB 32 l))
  have hB := gn_range (cB 32 (cB 32 l))
  have e1 : gn (cA 32 (cB 32 l)) = rdA l := rfl
  have e2 : gn (cB 32 (cB 32 l)) = rdB l := rfl
  have e3 : oFi (cA 32 l) = rdO l := rfl
  rw [e1] at hA
  rw [e2] at hB
  have z1 := cB_len 32 l
  have z2 := cA_len 32 (cB 32 l)
  have z3 := cB_len 32 (cB 32 l)
  have mc := @more_cell
  have mf := @more_frozen
  have ms := @more_set
  have md := more_drewN
  have mm := more_more
  have HB := Lib.hid hB
  have HA := Lib.hid hA
  by_cases hn : l = []
  · have hb := beqs_yes hn
    have hk : okR l = false := by rw [HO.out, hb]; rfl
    have q := HN.out hk
    have q1 := Lib.hid (q (rdO l))
    have q2 := Lib.hid (q (rdA l))
    have q3 := Lib.hid (q (rdB l))
    have HK := Lib.hid hk
    clear q hk hn
    generalize rdO l = O at *
    generalize rdA l = A at *
    generalize rdB l = B at *
    go_enter Tryd.func16, Tryd.ntmps16
    go_wp2_with fail
    refine (strings_Cut l 32 _ hl).mono ?_; rintro e w1 ⟨rfl, m1, rfl⟩
    generalize cB 32 l = y at *
    generalize cA 32 l = x at *
    go_wp2_with fail
    refine (op_Find x _ (hT.below (by (repeat' (first | (with_reducible exact Below.refl _ _) | (with_reducible assumption) | (with_reducible refine more_below ?_ ?_ _ _) | (with_reducible refine below_drewN ?_ _) | (with_reducible refine Below.alloc ?_ ?_ _) | (with_reducible refine Below.drew ?_) | (with_reducible refine Below.setCell ?_ ?_ _) | (simp only [World.size_alloc, World.size_setCell, World.size_drew, more_size, World.heap_drewN]; omega) | go_size))))).mono ?_; rintro e w1 ⟨rfl, rfl⟩
    rw [e3]
    go_wp2_with fail
    refine (strings_Cut y 32 _ (by omega)).mono ?_; rintro e w1 ⟨rfl, m2, rfl⟩
    generalize cB 32 y = z at *
    generalize cA 32 y = u at *
    go_wp2_with fail
    refine (num_Parse u (by omega) _).mono ?_; rintro e w1 ⟨rfl, hb1⟩
    obtain ⟨l1, d1, rfl⟩ := more_of hb1
    rw [e1]
    go_wp2_with fail
    refine (num_Parse z (by omega) _).mono ?_; rintro e w1 ⟨rfl, hb2⟩
    obtain ⟨l2, d2, rfl⟩ := more_of hb2
    rw [e2]
    go_wp2_with fail
    refine bodyPost_ret (by simp [results, Tryd.results16, go_sem, more_cell, more_size, more_frozen]; try rfl) rfl ?_
    exact ⟨by rw [q1.out, q2.out, q3.out, HK.out], by (repeat' (first | (with_reducible exact Below.refl _ _) | (with_reducible assumption) | (with_reducible refine more_below ?_ ?_ _ _) | (with_reducible refine below_drewN ?_ _) | (with_reducible refine Below.alloc ?_ ?_ _) | (with_reducible refine Below.drew ?_) | (with_reducible refine Below.setCell ?_ ?_ _) | (simp only [World.size_alloc, World.size_setCell, World.size_drew, more_size, World.heap_drewN]; omega) | go_size))⟩
  · have hb := beqs_no hn
    have hln := oLine_ba (rdO l) (rdA l) (rdB l)
    cases hc : (oLl (rdO l) (rdA l) (rdB l) == l)
    · have hk : okR l = false := by rw [HO.out, hb, hc]; rfl
      have q := HN.out hk
      have q1 := Lib.hid (q (rdO l))
      have q2 := Lib.hid (q (rdA l))
      have q3 := Lib.hid (q (rdB l))
      have HK := Lib.hid hk
      clear q hk hn
      generalize rdO l = O at *
      generalize rdA l = A at *
      generalize rdB l = B at *
      go_enter Tryd.func16, Tryd.ntmps16
      go_wp2_with fail
      refine (strings_Cut l 32 _ hl).mono ?_; rintro e w1 ⟨rfl, m1, rfl⟩
      generalize cB 32 l = y at *
      generalize cA 32 l = x at *
      go_wp2_with fail
      refine (op_Find x _ (hT.below (by (repeat' (first | (with_reducible exact Below.refl _ _) | (with_reducible assumption) | (with_reducible refine more_below ?_ ?_ _ _) | (with_reducible refine below_drewN ?_ _) | (with_reducible refine Below.alloc ?_ ?_ _) | (with_reducible refine Below.drew ?_) | (with_reducible refine Below.setCell ?_ ?_ _) | (simp only [World.size_alloc, World.size_setCell, World.size_drew, more_size, World.heap_drewN]; omega) | go_size))))).mono ?_; rintro e w1 ⟨rfl, rfl⟩
      rw [e3]
      go_wp2_with fail
      refine (strings_Cut y 32 _ (by omega)).mono ?_; rintro e w1 ⟨rfl, m2, rfl⟩
      generalize cB 32 y = z at *
      generalize cA 32 y = u at *
      go_wp2_with fail
      refine (num_Parse u (by omega) _).mono ?_; rintro e w1 ⟨rfl, hb1⟩
      obtain ⟨l1, d1, rfl⟩ := more_of hb1
      rw [e1]
      go_wp2_with fail
      refine (num_Parse z (by omega) _).mono ?_; rintro e w1 ⟨rfl, hb2⟩
      obtain ⟨l2, d2, rfl⟩ := more_of hb2
      rw [e2]
      go_wp2_with fail
      refine (op_Line O A B HA.out HB.out _ (hT.below (by (repeat' (first | (with_reducible exact Below.refl _ _) | (with_reducible assumption) | (with_reducible refine more_below ?_ ?_ _ _) | (with_reducible refine below_drewN ?_ _) | (with_reducible refine Below.alloc ?_ ?_ _) | (with_reducible refine Below.drew ?_) | (with_reducible refine Below.setCell ?_ ?_ _) | (simp only [World.size_alloc, World.size_setCell, World.size_drew, more_size, World.heap_drewN]; omega) | go_size))))).mono ?_; rintro e w1 ⟨rfl, hb3⟩
      obtain ⟨l3, d3, rfl⟩ := more_of hb3
      rw [hln]
      go_wp2_with fail
      refine bodyPost_ret (by simp [results, Tryd.results16, go_sem, more_cell, more_size, more_frozen]; try rfl) rfl ?_
      exact ⟨by rw [q1.out, q2.out, q3.out, HK.out], by (repeat' (first | (with_reducible exact Below.refl _ _) | (with_reducible assumption) | (with_reducible refine more_below ?_ ?_ _ _) | (with_reducible refine below_drewN ?_ _) | (with_reducible refine Below.alloc ?_ ?_ _) | (with_reducible refine Below.drew ?_) | (with_reducible refine Below.setCell ?_ ?_ _) | (simp only [World.size_alloc, World.size_setCell, World.size_drew, more_size, World.heap_drewN]; omega) | go_size))⟩
    · have hk : okR l = true := by rw [HO.out, hb, hc]; rfl
      have q := HY.out hk
      have q1 := Lib.hid (q (rdO l))
      have q2 := Lib.hid (q (rdA l))
      have q3 := Lib.hid (q (rdB l))
      have HK := Lib.hid hk
      clear q hk hn
      generalize rdO l = O at *
      generalize rdA l = A at *
      generalize rdB l = B at *
      go_enter Tryd.func16, Tryd.ntmps16
      go_wp2_with fail
      refine (strings_Cut l 32 _ hl).mono ?_; rintro e w1 ⟨rfl, m1, rfl⟩
      generalize cB 32 l = y at *
      generalize cA 32 l = x at *
      go_wp2_with fail
      refine (op_Find x _ (hT.below (by (repeat' (first | (with_reducible exact Below.refl _ _) | (with_reducible assumption) | (with_reducible refine more_below ?_ ?_ _ _) | (with_reducible refine below_drewN ?_ _) | (with_reducible refine Below.alloc ?_ ?_ _) | (with_reducible refine Below.drew ?_) | (with_reducible refine Below.setCell ?_ ?_ _) | (simp only [World.size_alloc, World.size_setCell, World.size_drew, more_size, World.heap_drewN]; omega) | go_size))))).mono ?_; rintro e w1 ⟨rfl, rfl⟩
      rw [e3]
      go_wp2_with fail
      refine (strings_Cut y 32 _ (by omega)).mono ?_; rintro e w1 ⟨rfl, m2, rfl⟩
      generalize cB 32 y = z at *
      generalize cA 32 y = u at *
      go_wp2_with fail
      refine (num_Parse u (by omega) _).mono ?_; rintro e w1 ⟨rfl, hb1⟩
      obtain ⟨l1, d1, rfl⟩ := more_of hb1
      rw [e1]
      go_wp2_with fail
      refine (num_Parse z (by omega) _).mono ?_; rintro e w1 ⟨rfl, hb2⟩
      obtain ⟨l2, d2, rfl⟩ := more_of hb2
      rw [e2]
      go_wp2_with fail
      refine (op_Line O A B HA.out HB.out _ (hT.below (by (repeat' (first | (with_reducible exact Below.refl _ _) | (with_reducible assumption) | (with_reducible refine more_below ?_ ?_ _ _) | (with_reducible refine below_drewN ?_ _) | (with_reducible refine Below.alloc ?_ ?_ _) | (with_reducible refine Below.drew ?_) | (with_reducible refine Below.setCell ?_ ?_ _) | (simp only [World.size_alloc, World.size_setCell, World.size_drew, more_size, World.heap_drewN]; omega) | go_size))))).mono ?_; rintro e w1 ⟨rfl, hb3⟩
      obtain ⟨l3, d3, rfl⟩ := more_of hb3
      rw [hln]
      go_wp2_with fail
      refine bodyPost_ret (by simp [results, Tryd.results16, go_sem, more_cell, more_size, more_frozen]; try rfl) rfl ?_
      exact ⟨by rw [q1.out, q2.out, q3.out, HK.out], by (repeat' (first | (with_reducible exact Below.refl _ _) | (with_reducible assumption) | (with_reducible refine more_below ?_ ?_ _ _) | (with_reducible refine below_drewN ?_ _) | (with_reducible refine Below.alloc ?_ ?_ _) | (with_reducible refine Below.drew ?_) | (with_reducible refine Below.setCell ?_ ?_ _) | (simp only [World.size_alloc, World.size_setCell, World.size_drew, more_size, World.heap_drewN]; omega) | go_size))⟩
end Go.Proofs.YtmjhjcfjgefdiaaDoor
