/- Layer 17: a unit's head. -/
import Derived.Test.YtogmbfhefblbjaaDeclC
import Derived.Test.YtogmbfhefblbjaaUnSlots
import Derived.Deep.Cut
import Derived.Deep.CutRange
import Derived.RegionTactic
namespace Go.Proofs.Ytogmbfhefblbjaa
open Go.RowKit
set_option linter.unusedSimpArgs false
set_option linter.unusedVariables false
def headS (P L : List Int) (r : Int) : List Int := P ++ (if r = 0 then [] else [r]) ++ L
def emptyN (n : Nat) : Bool := decide (n = 0)
def headE (P L : List Int) (r : Int) (m : Bool) : Int := firstE [unlessE (decide (P.length ≤ 8) && decide ((headS P L r).length ≤ 1024)) 5, allE ((headS P L r).all kRight), unlessE (!m || (emptyN P.length && r == 0)) 10]
theorem head_1 (p q : Nat) (a b : Option Addr) (n m c d : Nat) (w : World) (h1 : w.cell? ⟨p, 0, none⟩ = some (.slice a n c)) (h2 : w.cell? ⟨q, 0, none⟩ = some (.slice b m d)) :
    Calls Try.prog 42 #[.pointer (some ⟨p, 0, none⟩), .pointer (some ⟨q, 0, none⟩)] w fun e w' => e = .returned (.int .i64 (unlessE (decide (n ≤ 8) && decide (m ≤ 1024)) 5)) ∧ Below w.heap.size w w' := by
  by_cases h8 : n ≤ 8
  · have q1 : ((n : Int) ≤ 8) = True := eq_true (by omega)
    have d1 := Lib.hid (decide_eq_true h8)
    go_enter Try.func42, Try.ntmps42
    go_wp2_with fail
    refine (decl_unless _ _ _).mono ?_; rintro e w1 ⟨rfl, rfl⟩
    go_wp2_with fail
    go_ret
    refine ⟨?_, Below.refl _ _⟩
    rw [d1.out, Bool.true_and]
    rw [← (decide_eq_decide.2 (by omega : ((m : Int) ≤ 1024) ↔ m ≤ 1024))]
    rfl
  · have q1 : ((n : Int) ≤ 8) = False := eq_false (by omega)
    have d1 := Lib.hid (decide_eq_false h8)
    go_enter Try.func42, Try.ntmps42
    go_wp2_with fail
    refine (decl_unless _ _ _).mono ?_; rintro e w1 ⟨rfl, rfl⟩
    go_wp2_with fail
    go_ret
    exact ⟨by rw [d1.out]; rfl, Below.refl _ _⟩
theorem head_2 (o p q : Nat) (a : Option Addr) (n c : Nat) (r : Int) (m : Bool) (w : World) (h0 : w.cell? ⟨o, 0, none⟩ = some (.bool m)) (h1 : w.cell? ⟨p, 0, none⟩ = some (.slice a n c)) (h2 : w.cell? ⟨q, 0, none⟩ = some (.int .i64 r)) :
    Calls Try.prog 45 #[.pointer (some ⟨o, 0, none⟩), .pointer (some ⟨p, 0, none⟩), .pointer (some ⟨q, 0, none⟩)] w fun e w' => e = .returned (.int .i64 (unlessE (!m || (emptyN n && r == 0)) 10)) ∧ Below w.heap.size w w' := by
  cases m
  · go_enter Try.func45, Try.ntmps45
    go_wp2_with fail
    refine (decl_unless _ _ _).mono ?_; rintro e w1 ⟨rfl, rfl⟩
    go_wp2_with fail
    go_ret
    exact ⟨rfl, Below.refl _ _⟩
  · by_cases hn : n = 0
    · subst hn
      go_enter Try.func45, Try.ntmps45
      go_wp2_with fail
      refine (decl_unless _ _ _).mono ?_; rintro e w1 ⟨rfl, rfl⟩
      go_wp2_with fail
      go_ret
      exact ⟨rfl, Below.refl _ _⟩
    · have q1 : ((n : Int) == 0) = false := by simp; omega
      have d1 := Lib.hid (show emptyN n = false from decide_eq_false hn)
      go_enter Try.func45, Try.ntmps45
      go_wp2_with fail
      refine (decl_unless _ _ _).mono ?_; rintro e w1 ⟨rfl, rfl⟩
      go_wp2_with fail
      go_ret
      exact ⟨by rw [d1.out]; rfl, Below.refl _ _⟩
set_option maxHeartbeats 4000000 in
theorem decl_Head (pv lv : Value) (P L : List Int) (r : Int) (m : Bool) (w : World) (hp : RowR 1 intR w pv P) (hl : RowR 1 intR w lv L) (hr : I64 r) (hp20 : P.length ≤ 20) (hl20 : L.length ≤ 1100) :
    Calls Try.prog 14 #[pv, .int .i64 r, lv, .bool m] w fun e w' => e = .returned (.int .i64 (headE P L r m)) ∧ Below w.heap.size w w' := by
  have hmf : ∀ (fn : Fn) (first cap : Array Value) (w : World), (Instr.makeFunc fn first cap).run Try.prog w = .ok (.func fn first cap) w := fun _ _ _ _ => rfl
  have HE := Lib.hid (show headE P L r m = firstE [unlessE (decide (P.length ≤ 8) && decide ((headS P L r).length ≤ 1024)) 5, allE ((headS P L r).all kRight), unlessE (!m || (emptyN P.length && r == 0)) 10] from rfl)
  obtain ⟨sp, cp, rfl⟩ := row_get hp
  obtain ⟨sl, cl, rfl⟩ := row_get hl
  obtain ⟨S, hS⟩ : ∃ S, headS P L r = S := ⟨_, rfl⟩
  rw [hS] at HE
  obtain ⟨W1, hW1⟩ : ∃ W1, W1 = ((w.alloc (.cells #[.slice sp P.length cp] 35)).alloc (.cells #[.int .i64 r] 3)).alloc (.cells #[.bool m] 4) := ⟨_, rfl⟩
  have hb : Below w.heap.size w W1 := by rw [hW1]; exact by (repeat' (first | (with_reducible exact Below.refl _ _) | (with_reducible assumption) | (with_reducible refine below_drewN ?_ _) | (with_reducible refine Below.alloc ?_ ?_ _) | (with_reducible refine Below.drew ?_) | (with_reducible refine Below.setCell ?_ ?_ _) | go_size))
  have hz : W1.heap.size = w.heap.size + 3 := by rw [hW1]; simp
  have c1 : W1.cell? ⟨w.heap.size, 0, none⟩ = some (.slice sp P.length cp) := by rw [hW1]; exact obj_cell ((get_past (by simp; omega)).trans ((get_past (by simp)).trans (get_last rfl))) rfl
  have c2 : W1.cell? ⟨w.heap.size + 1, 0, none⟩ = some (.int .i64 r) := by rw [hW1]; exact obj_cell ((get_past (by simp)).trans (get_last (by simp))) rfl
  have c3 : W1.cell? ⟨w.heap.size + 2, 0, none⟩ = some (.bool m) := by rw [hW1]; exact obj_cell (get_last (by simp)) rfl
  have HW1 := Lib.hid hW1
  have HB := Lib.hid hb
  have hu := unit_Slots (.slice sp P.length cp) (.slice sl L.length cl) (.slice none 0 0) ⟨[], P, r, L, []⟩ W1 ⟨hp.below intR_stable hb, hl.below intR_stable hb, row_none, by simp [sz], hr⟩ (decide_eq_true ⟨by simp, hp20, hl20, by simp⟩)
  rw [show slotsL ⟨[], P, r, L, []⟩ = S from hS] at hu
  have hu' : Calls Try.prog 40 #[.agg #[.string ⟨#[]⟩, .slice sp P.length cp, .int .i64 r, .slice sl L.length cl, .slice none 0 0]] W1 fun e w' => ∃ v, e = .returned v ∧ RowR 1 intR w' v S ∧ Below W1.heap.size W1 w' := hu
  clear hW1 hb hp hl hu hS
  go_enter Try.func14, Try.ntmps14
  go_upto_region 1 with fail
  rw [← HW1.out]
  go_wp2_with fail
  refine hu'.mono ?_; rintro e w2 ⟨v, rfl, hv, hb2⟩
  obtain ⟨ss, cs, rfl⟩ := row_get hv
  obtain ⟨W3, hW3⟩ : ∃ W3, W3 = w2.alloc (.cells #[.slice ss S.length cs] 35) := ⟨_, rfl⟩
  have hb3 : Below w2.heap.size w2 W3 := by rw [hW3]; exact by (repeat' (first | (with_reducible exact Below.refl _ _) | (with_reducible assumption) | (with_reducible refine below_drewN ?_ _) | (with_reducible refine Below.alloc ?_ ?_ _) | (with_reducible refine Below.drew ?_) | (with_reducible refine Below.setCell ?_ ?_ _) | go_size))
  have hbW : Below W1.heap.size W1 W3 := hb2.trans (hb3.mono hb2.size)
  have c1 := (hbW.cell (p := ⟨w.heap.size, 0, none⟩) (World.block_lt_of_cell? _ _ c1)).trans c1
  have c2 := (hbW.cell (p := ⟨w.heap.size + 1, 0, none⟩) (World.block_lt_of_cell? _ _ c2)).trans c2
  have c3 := (hbW.cell (p := ⟨w.heap.size + 2, 0, none⟩) (World.block_lt_of_cell? _ _ c3)).trans c3
  have c4 : W3.cell? ⟨w2.heap.size, 0, none⟩ = some (.slice ss S.length cs) := by rw [hW3]; exact obj_cell (get_last rfl) rfl
  have HV := Lib.hid (hv.below intR_stable hb3)
  have HBW := Lib.hid (HB.out.trans (hbW.mono HB.out.size))
  have HW3 := Lib.hid hW3
  have HA1 := Lib.hid (show Asks W3 (42, #[.pointer (some ⟨w.heap.size, 0, none⟩), .pointer (some ⟨w2.heap.size, 0, none⟩)]) (unlessE (decide (P.length ≤ 8) && decide (S.length ≤ 1024)) 5) from
    ⟨fun _ _ => rfl, fun W hW => head_1 _ _ _ _ _ _ _ _ W ((hW.cell (p := ⟨w.heap.size, 0, none⟩) (World.block_lt_of_cell? _ _ c1)).trans c1) ((hW.cell (p := ⟨w2.heap.size, 0, none⟩) (World.block_lt_of_cell? _ _ c4)).trans c4)⟩)
  have HA2 := Lib.hid (show Asks W3 (45, #[.pointer (some ⟨w.heap.size + 2, 0, none⟩), .pointer (some ⟨w.heap.size, 0, none⟩), .pointer (some ⟨w.heap.size + 1, 0, none⟩)]) (unlessE (!m || (emptyN P.length && r == 0)) 10) from
    ⟨fun _ _ => rfl, fun W hW => head_2 _ _ _ _ _ _ _ _ W ((hW.cell (p := ⟨w.heap.size + 2, 0, none⟩) (World.block_lt_of_cell? _ _ c3)).trans c3) ((hW.cell (p := ⟨w.heap.size, 0, none⟩) (World.block_lt_of_cell? _ _ c1)).trans c1) ((hW.cell (p := ⟨w.heap.size + 1, 0, none⟩) (World.block_lt_of_cell? _ _ c2)).trans c2)⟩)
  clear hW3 hb2 hb3 hbW hv
  go_upto_region 2 with fail
  rw [← HW3.out]
  go_wp2_with fail
  refine (decl_eachInt _ S kRight 44 W3 HV.out (fun _ _ => rfl) (fun x W _ => (kind_Right x W).mono (fun _ _ h => ⟨h.1, h.2 ▸ Below.refl _ _⟩))).mono ?_; rintro e w4 ⟨⟨f1, g1⟩, rfl, hA3, hb4⟩
  have HA3 := Lib.hid hA3
  have HB4 := Lib.hid hb4
  clear hA3 hb4
  go_wp2_with fail
  refine (asks_all _ [(42, #[.pointer (some ⟨w.heap.size, 0, none⟩), .pointer (some ⟨w2.heap.size, 0, none⟩)]), (f1, g1), (45, #[.pointer (some ⟨w.heap.size + 2, 0, none⟩), .pointer (some ⟨w.heap.size, 0, none⟩), .pointer (some ⟨w.heap.size + 1, 0, none⟩)])] _ _ (row_funcs (get_last rfl) rfl (by simp) (by unfold maxLen; simp)) rfl (asks3 (HA1.out.later (HB4.out.alloc HB4.out.size _)) (HA3.out.later (by (repeat' (first | (with_reducible exact Below.refl _ _) | (with_reducible assumption) | (with_reducible refine below_drewN ?_ _) | (with_reducible refine Below.alloc ?_ ?_ _) | (with_reducible refine Below.drew ?_) | (with_reducible refine Below.setCell ?_ ?_ _) | go_size)))) (HA2.out.later (HB4.out.alloc HB4.out.size _)))).mono ?_; rintro e w5 ⟨rfl, hb5⟩
  have HB5 := Lib.hid (show Below w.heap.size w w5 from HBW.out.trans ((HB4.out.mono HBW.out.size).trans (below_any (w0 := w4) (by (repeat' (first | (with_reducible exact Below.refl _ _) | (with_reducible assumption) | (with_reducible refine below_drewN ?_ _) | (with_reducible refine Below.alloc ?_ ?_ _) | (with_reducible refine Below.drew ?_) | (with_reducible refine Below.setCell ?_ ?_ _) | go_size))) hb5 (Nat.le_trans HBW.out.size HB4.out.size))))
  clear hb5
  go_wp2_with fail
  go_ret
  exact ⟨by rw [HE.out]; rfl, HB5.out⟩
end Go.Proofs.Ytogmbfhefblbjaa
