/- Layer 17: a program's declarations. -/
import Derived.Test.YtogmbfhefblbjaaDeclF
namespace Go.Proofs.Ytogmbfhefblbjaa
open Go.RowKit
set_option linter.unusedSimpArgs false
set_option linter.unusedVariables false
theorem check_1 (p : Nat) (a : Option Addr) (n c : Nat) (w : World) (h : w.cell? ⟨p, 3, none⟩ = some (.slice a n c)) :
    Calls Try.prog 28 #[.pointer (some ⟨p, 0, none⟩)] w fun e w' => e = .returned (.int .i64 (unlessE (decide (0 < n) && decide (n ≤ 8)) 5)) ∧ Below w.heap.size w w' := by
  by_cases h0 : 0 < n
  · have q1 : (0 < (n : Int)) = True := eq_true (by omega)
    have q1' : (0 < n) = True := eq_true h0
    have d1 := Lib.hid (decide_eq_true h0)
    clear h0
    go_enter Try.func28, Try.ntmps28
    go_wp2_with fail
    refine (decl_unless _ _ _).mono ?_; rintro e w1 ⟨rfl, rfl⟩
    go_wp2_with fail
    go_ret
    refine ⟨?_, Below.refl _ _⟩
    rw [d1.out, Bool.true_and, ← (decide_eq_decide.2 (by omega : ((n : Int) ≤ 8) ↔ n ≤ 8))]
    rfl
  · have q1 : (0 < (n : Int)) = False := eq_false (by omega)
    have q1' : (0 < n) = False := eq_false h0
    have d1 := Lib.hid (decide_eq_false h0)
    clear h0
    go_enter Try.func28, Try.ntmps28
    go_wp2_with fail
    refine (decl_unless _ _ _).mono ?_; rintro e w1 ⟨rfl, rfl⟩
    go_wp2_with fail
    go_ret
    exact ⟨by rw [d1.out]; rfl, Below.refl _ _⟩
theorem check_2 (p : Nat) (a b d : Option Addr) (n m l c c2 c3 : Nat) (w : World) (h0 : w.cell? ⟨p, 0, none⟩ = some (.slice a n c)) (h1 : w.cell? ⟨p, 1, none⟩ = some (.slice b m c2)) (h2 : w.cell? ⟨p, 2, none⟩ = some (.slice d l c3)) :
    Calls Try.prog 29 #[.pointer (some ⟨p, 0, none⟩)] w fun e w' => e = .returned (.int .i64 (unlessE (decide (n ≤ 1024) && (decide (m ≤ 64) && decide (l ≤ 32))) 5)) ∧ Below w.heap.size w w' := by
  have HF := decl_few b d m l c2 c3 w
  by_cases hn : n ≤ 1024
  · have q1 : ((n : Int) ≤ 1024) = True := eq_true (by omega)
    have q1' : (n ≤ 1024) = True := eq_true hn
    have d1 := Lib.hid (decide_eq_true hn)
    clear hn
    go_enter Try.func29, Try.ntmps29
    go_wp2_with fail
    refine HF.mono ?_; rintro e w1 ⟨rfl, rfl⟩
    go_wp2_with fail
    refine (decl_unless _ _ _).mono ?_; rintro e w1 ⟨rfl, rfl⟩
    go_wp2_with fail
    go_ret
    refine ⟨?_, Below.refl _ _⟩
    rw [d1.out, Bool.true_and]
    first | rfl | (rw [Bool.decide_and]; rfl) | (rw [← Bool.decide_and]; rfl)
  · have q1 : ((n : Int) ≤ 1024) = False := eq_false (by omega)
    have q1' : (n ≤ 1024) = False := eq_false hn
    have d1 := Lib.hid (decide_eq_false hn)
    clear hn
    go_enter Try.func29, Try.ntmps29
    go_wp2_with fail
    refine (decl_unless _ _ _).mono ?_; rintro e w1 ⟨rfl, rfl⟩
    go_wp2_with fail
    go_ret
    exact ⟨by rw [d1.out]; rfl, Below.refl _ _⟩
theorem check_3 (p : Nat) (vv bv : Value) (V : List Vr) (B : List Bk) (w : World) (h1 : w.cell? ⟨p, 1, none⟩ = some vv) (h2 : w.cell? ⟨p, 2, none⟩ = some bv) (hv : RowR 5 varR w vv V) (hb : RowR 2 blkR w bv B) :
    Calls Try.prog 32 #[.pointer (some ⟨p, 0, none⟩)] w fun e w' => e = .returned (.int .i64 (tablesE V B)) ∧ Below w.heap.size w w' := by
  have HT := decl_Tables vv bv V B w hv hb
  obtain ⟨sv, cv, rfl⟩ := row_get hv
  obtain ⟨sb, cb, rfl⟩ := row_get hb
  go_enter Try.func32, Try.ntmps32
  go_wp2_with fail
  refine HT.mono ?_; rintro e w1 ⟨rfl, hb1⟩
  go_wp2_with fail
  go_ret
  exact ⟨rfl, hb1⟩
theorem check_4 (p : Nat) (v : Value) (us : List Un) (w : World) (h : w.cell? ⟨p, 3, none⟩ = some v) (hv : RowR 5 unitR w v us) (hf : ∀ x ∈ us, fewU x = true) :
    Calls Try.prog 33 #[.pointer (some ⟨p, 0, none⟩)] w fun e w' => e = .returned (.int .i64 (firstE (unitsL us))) ∧ Below w.heap.size w w' := by
  have HT := decl_units v us w hv hf
  obtain ⟨sv, cv, rfl⟩ := row_get hv
  go_enter Try.func33, Try.ntmps33
  go_wp2_with fail
  refine HT.mono ?_; rintro e w1 ⟨rfl, hb1⟩
  go_wp2_with fail
  go_ret
  exact ⟨rfl, hb1⟩
set_option maxHeartbeats 4000000 in
theorem decl_Check (pa pb pc pd : Value) (p : Pr) (w : World) (hp : PrAt w pa pb pc pd p) (hf : ∀ x ∈ p.units, fewU x = true) :
    Calls Try.prog 9 #[.agg #[pa, pb, pc, pd]] w fun e w' => e = .returned (.int .i64 (checkE p)) ∧ Below w.heap.size w w' := by
  have hmf : ∀ (fn : Fn) (first cap : Array Value) (w : World), (Instr.makeFunc fn first cap).run Try.prog w = .ok (.func fn first cap) w := fun _ _ _ _ => rfl
  have HE := Lib.hid (show checkE p = firstE [unlessE (decide (0 < p.units.length) && decide (p.units.length ≤ 8)) 5, unlessE (decide (p.consts.length ≤ 1024) && (decide (p.vars.length ≤ 64) && decide (p.blocks.length ≤ 32))) 5, allE (p.consts.all fun x => kIn x.1 x.2), tablesE p.vars p.blocks, firstE (unitsL p.units)] from rfl)
  obtain ⟨sa, ca, rfl⟩ := row_get hp.cs
  obtain ⟨sb, cb, rfl⟩ := row_get hp.vs
  obtain ⟨sc, cc, rfl⟩ := row_get hp.bs
  obtain ⟨sd, cd, rfl⟩ := row_get hp.us
  obtain ⟨W1, hW1⟩ : ∃ W1, W1 = w.alloc (.cells #[.slice sa p.consts.length ca, .slice sb p.vars.length cb, .slice sc p.blocks.length cc, .slice sd p.units.length cd] 27) := ⟨_, rfl⟩
  have hb : Below w.heap.size w W1 := by rw [hW1]; exact by (repeat' (first | (with_reducible exact Below.refl _ _) | (with_reducible assumption) | (with_reducible refine below_drewN ?_ _) | (with_reducible refine Below.alloc ?_ ?_ _) | (with_reducible refine Below.drew ?_) | (with_reducible refine Below.setCell ?_ ?_ _) | go_size))
  have hz : W1.heap.size = w.heap.size + 1 := by rw [hW1]; simp
  have hj : W1.heap[w.heap.size]? = some (.cells #[.slice sa p.consts.length ca, .slice sb p.vars.length cb, .slice sc p.blocks.length cc, .slice sd p.units.length cd] 27) := by rw [hW1]; exact get_last rfl
  have c0 := obj_cell hj (i := 0) rfl
  have hp1 := hp.below hb
  have hjW := fun W (h : Below W1.heap.size W1 W) => obj_below hj h (by omega)
  have HW1 := Lib.hid hW1
  have HB := Lib.hid hb
  have HC := Lib.hid (fun W (h : Below W1.heap.size W1 W) => hp1.cs.below constR_stable h)
  have HA1 := Lib.hid (show Asks W1 (28, #[.pointer (some ⟨w.heap.size, 0, none⟩)]) (unlessE (decide (0 < p.units.length) && decide (p.units.length ≤ 8)) 5) from
    ⟨fun _ _ => rfl, fun W hW => check_1 _ _ _ _ W (obj_cell (hjW W hW) rfl)⟩)
  have HA2 := Lib.hid (show Asks W1 (29, #[.pointer (some ⟨w.heap.size, 0, none⟩)]) (unlessE (decide (p.consts.length ≤ 1024) && (decide (p.vars.length ≤ 64) && decide (p.blocks.length ≤ 32))) 5) from
    ⟨fun _ _ => rfl, fun W hW => check_2 _ _ _ _ _ _ _ _ _ _ W (obj_cell (hjW W hW) rfl) (obj_cell (hjW W hW) rfl) (obj_cell (hjW W hW) rfl)⟩)
  have HA4 := Lib.hid (show Asks W1 (32, #[.pointer (some ⟨w.heap.size, 0, none⟩)]) (tablesE p.vars p.blocks) from
    ⟨fun _ _ => rfl, fun W hW => check_3 _ _ _ _ _ W (obj_cell (hjW W hW) rfl) (obj_cell (hjW W hW) rfl) (hp1.vs.below varR_stable hW) (hp1.bs.below blkR_stable hW)⟩)
  have HA5 := Lib.hid (show Asks W1 (33, #[.pointer (some ⟨w.heap.size, 0, none⟩)]) (firstE (unitsL p.units)) from
    ⟨fun _ _ => rfl, fun W hW => check_4 _ _ _ W (obj_cell (hjW W hW) rfl) (hp1.us.below unitR_stable hW) hf⟩)
  clear hW1 hb hj hp hp1 hjW hf
  go_enter Try.func9, Try.ntmps9
  go_upto_region 1 with fail
  rw [← HW1.out]
  go_wp2_with fail
  refine (decl_eachConst _ p.consts (fun x => kIn x.1 x.2) 31 W1 (HC.out _ (Below.refl _ _)) (fun _ _ => rfl) (fun x W _ => decl_rightConst x W)).mono ?_; rintro e w4 ⟨⟨f1, g1⟩, rfl, hA3, hb4⟩
  have HA3 := Lib.hid hA3
  have HB4 := Lib.hid hb4
  clear hA3 hb4
  go_wp2_with fail
  refine (asks_all _ [(28, #[.pointer (some ⟨w.heap.size, 0, none⟩)]), (29, #[.pointer (some ⟨w.heap.size, 0, none⟩)]), (f1, g1), (32, #[.pointer (some ⟨w.heap.size, 0, none⟩)]), (33, #[.pointer (some ⟨w.heap.size, 0, none⟩)])] _ _ (row_funcs (get_last rfl) rfl (by simp) (by unfold maxLen; simp)) rfl (asks5 (HA1.out.later (HB4.out.alloc HB4.out.size _)) (HA2.out.later (HB4.out.alloc HB4.out.size _)) (HA3.out.later (by (repeat' (first | (with_reducible exact Below.refl _ _) | (with_reducible assumption) | (with_reducible refine below_drewN ?_ _) | (with_reducible refine Below.alloc ?_ ?_ _) | (with_reducible refine Below.drew ?_) | (with_reducible refine Below.setCell ?_ ?_ _) | go_size)))) (HA4.out.later (HB4.out.alloc HB4.out.size _)) (HA5.out.later (HB4.out.alloc HB4.out.size _)))).mono ?_; rintro e w5 ⟨rfl, hb5⟩
  have HB5 := Lib.hid (show Below w.heap.size w w5 from HB.out.trans ((HB4.out.mono HB.out.size).trans (below_any (w0 := w4) (by (repeat' (first | (with_reducible exact Below.refl _ _) | (with_reducible assumption) | (with_reducible refine below_drewN ?_ _) | (with_reducible refine Below.alloc ?_ ?_ _) | (with_reducible refine Below.drew ?_) | (with_reducible refine Below.setCell ?_ ?_ _) | go_size))) hb5 (Nat.le_trans HB.out.size HB4.out.size))))
  clear hb5
  go_wp2_with fail
  go_ret
  exact ⟨by rw [HE.out]; rfl, HB5.out⟩
end Go.Proofs.Ytogmbfhefblbjaa
